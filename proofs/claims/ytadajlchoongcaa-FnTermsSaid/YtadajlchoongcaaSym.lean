/-
  CONTRACTS: spec.SymPlaces, impl.SymPlaces. Conditions: the slices read as lists ('Seg'), at most 1048576 numbers. By an AI agent.
-/
import Derived.Test.YtadajlchoongcaaTermOk
import Derived.Test.YtadajlchoongcaaAppend
namespace Go.Proofs.Ytadajlchoongcaa.sym
open Go.RowKit Go.Proofs.Ytadajlchoongcaa.base Go.Proofs.Ytadajlchoongcaa.ints Go.Proofs.Ytadajlchoongcaa.sig Go.Proofs.Ytadajlchoongcaa.term Go.Proofs.Ytadajlchoongcaa.termOk Go.Proofs.Ytadajlchoongcaa.marks Go.Proofs.Ytadajlchoongcaa.app

def symP (t : List Int) (k : Nat) : List Int := ((List.range k).filter fun j => decide (0 ≤ t.getD j 0)).map fun (j : Nat) => (j : Int)
def symI (sg t : List Int) : List Int := if termOkB sg t = true then symP t t.length else []

theorem symP_yes {t : List Int} {k : Nat} {x : Int} (ex : Hid (t.getD k 0 = x)) (h : 0 ≤ x) : symP t (k + 1) = symP t k ++ [(k : Int)] := by
  unfold symP
  rw [List.range_succ, List.filter_append, List.map_append]
  simp only [List.filter_cons, List.filter_nil, ex.out, h, decide_true, if_true, List.map_cons, List.map_nil]
theorem symP_no {t : List Int} {k : Nat} {x : Int} (ex : Hid (t.getD k 0 = x)) (h : ¬ 0 ≤ x) : symP t (k + 1) = symP t k := by
  unfold symP
  rw [List.range_succ, List.filter_append, List.map_append]
  simp only [List.filter_cons, List.filter_nil, ex.out, h, decide_false, List.map_nil, List.append_nil]
  simp
theorem symP_len (t : List Int) (k : Nat) : (symP t k).length ≤ k := by
  unfold symP
  rw [List.length_map]
  exact Nat.le_trans (List.length_filter_le _ _) (by simp)

/-- a new slice with these numbers -/
def AnsList (w : World) (xs : List Int) (e : Ending) (w' : World) : Prop := ∃ A n c, e = .returned (.slice A n c) ∧ Own w' w.heap.size (.slice A n c) xs ∧ Below w.heap.size w w'

theorem Own.len {w : World} {base : Nat} {A : Option Addr} {n c : Nat} {xs : List Int} (h : Own w base (.slice A n c) xs) : n = xs.length := by
  obtain ⟨_, _, e⟩ := h.slice
  injection e
theorem Own.lower {w : World} {base base' : Nat} {v : Value} {xs : List Int} (h : Own w base v xs) (hb : base' ≤ base) : Own w base' v xs := by
  obtain ⟨h1, h2⟩ := h
  refine ⟨h1, ?_⟩
  rcases h2 with h2 | ⟨g, cap, cur, hv, hg, r⟩
  · exact .inl h2
  · exact .inr ⟨g, cap, cur, hv, Nat.le_trans hb hg, r⟩

/-- the head of the loop over the places -/
def HeadSym (w : World) (A : Option Addr) (n c m : Nat) (t : List Int) (out i : Value) (wr : World) : Prop :=
  ∃ (k : Nat) (O : Option Addr) (on oc : Nat), k ≤ m ∧ i = .int .i64 k ∧ out = .slice O on oc ∧ Own wr (w.heap.size + 1) (.slice O on oc) (symP t k) ∧ Row wr w.heap.size 26 #[.slice A n c] ∧ Below w.heap.size w wr

theorem headSym_yes {w w2 : World} {A : Option Addr} {n c m k : Nat} {t : List Int} {x : Int} {O : Option Addr} {on oc : Nat} (hk : k < m) (ex : Hid (t.getD k 0 = x)) (h0 : 0 ≤ x) (ho : Own w2 (w.heap.size + 1) (.slice O on oc) (symP t k ++ [(k : Int)]))
    (hr : Row w2 w.heap.size 26 #[.slice A n c]) (hb : Below w.heap.size w w2) : HeadSym w A n c m t (.slice O on oc) (.int .i64 ((k : Int) + 1)) w2 :=
  ⟨k + 1, O, on, oc, hk, by simp, rfl, by rw [symP_yes ex h0]; exact ho, hr, hb⟩
theorem headSym_no {w w2 : World} {A : Option Addr} {n c m k : Nat} {t : List Int} {x : Int} {O : Option Addr} {on oc : Nat} (hk : k < m) (ex : Hid (t.getD k 0 = x)) (h0 : ¬ 0 ≤ x) (ho : Own w2 (w.heap.size + 1) (.slice O on oc) (symP t k))
    (hr : Row w2 w.heap.size 26 #[.slice A n c]) (hb : Below w.heap.size w w2) : HeadSym w A n c m t (.slice O on oc) (.int .i64 ((k : Int) + 1)) w2 :=
  ⟨k + 1, O, on, oc, hk, by simp, rfl, by rw [symP_no ex h0]; exact ho, hr, hb⟩
theorem Own.alloc {w : World} {base : Nat} {v : Value} {xs : List Int} (h : Own w base v xs) (o : Obj) : Own (w.alloc o) base v xs := World.ownsRow.alloc h o
theorem own_empty (w : World) (base : Nat) (hb : base ≤ w.heap.size) : Own (w.alloc (.cells #[] 2)) base (.slice (some ⟨w.heap.size, 0, none⟩) 0 0) [] :=
  Own.of_row (Row.new _ _ _) rfl rfl (Nat.le_refl _) (by omega) hb (fun j hj => absurd hj (Nat.not_lt_zero _))

set_option maxHeartbeats 1000000 in
theorem specSym (A A' : Option Addr) (n c m c' : Nat) (sg t : List Int) (w : World) (h : Seg w w.heap.size A n sg) (h' : Seg w w.heap.size A' m t) (hn : n ≤ 1048576) (hm : m ≤ 1048576) :
    Calls Try.prog 47 #[.agg #[.slice A n c], .slice A' m c'] w (AnsList w (symI sg t)) := by
  have HL := Lib.hid h'.1
  cases hok : termOkB sg t with
  | true =>
    have HS := Lib.hid hok
    clear hok
    go_enter Try.func47, Try.ntmps47
    go_wp2_with fail
    go_loopw [5, 6] (fun out i wr => HeadSym w A n c m t out i wr) (fun _ i _ => m - (intOf i).toNat)
    case atStart =>
      refine ⟨0, _, _, _, Nat.zero_le _, rfl, rfl, ?_, (Row.new _ _ _).alloc _, ((Below.refl _ _).alloc (Nat.le_refl _) _).alloc (by simp) _⟩
      have := own_empty (w.alloc (.cells #[.slice A n c] 26)) (w.heap.size + 1) (by simp)
      simpa [symP] using this
    case round =>
      obtain ⟨k, O, on, oc, hk, rfl, rfl, ho, hr, hb⟩ := hrel
      have hon : on ≤ 1048576 := by have := Own.len ho; have := symP_len t k; omega
      by_cases hlt : k < m
      · obtain ⟨b, off, x, rfl, hbb, hx, ex⟩ := h'.spot hlt
        have s : Seg wr wr.heap.size A n sg := (h.below hb).more hb.size
        have s' : Seg wr wr.heap.size (some ⟨b, off, none⟩) m t := (h'.below hb).more hb.size
        have cA : wr.cell? ⟨w.heap.size, 0, none⟩ = some (.slice A n c) := hr.cell 0
        go_wp2_with fail
        refine (specTermOk A _ n c m c' sg t _ s s' hn hm).mono ?_
        rintro e w1 ⟨he, bb⟩
        rw [HS.out] at he
        subst he
        have hx1 : w1.cell? ⟨b, off + k, none⟩ = some (.int .i64 x) := (bb.cell (p := ⟨b, off + k, none⟩) (by have := hr.lt; exact Nat.lt_trans hbb this)).trans ((hb.cell (p := ⟨b, off + k, none⟩) hbb).trans hx)
        have b1 := hb.trans (bb.mono (Nat.le_of_lt hr.lt))
        have r1 := hr.next bb
        have o1 := Own.next ho bb
        clear bb s s' cA ho hr hb hx h h'
        have hsz := r1.lt
        by_cases h0 : 0 ≤ x
        · go_wp2_with (at_builtin; refine app1 rfl _ _ rfl (w.heap.size + 1) O on oc (symP t k) rfl (Own.alloc o1 _) w1.heap.size 1 (k : Int) rfl ((Row.new _ _ _).cell 0) (by omega) (by simp; omega) ?_; intro O' oc' w2 ho2 b2)
          have S := Lib.hid (headSym_yes (A := A) (n := n) (c := c) hlt ex h0 ho2 ((r1.alloc _).below b2 (Nat.lt_succ_self _)) ((b1.alloc (Nat.le_of_lt hsz) _).trans (b2.mono (Nat.le_succ _))))
          clear ho2 b2 o1 r1 b1 ex
          go_wp2
          go_roundw
          case rel => exact S.out
          case measure => simp [intOf]; omega
        · have S := Lib.hid (headSym_no (A := A) (n := n) (c := c) hlt ex h0 o1 r1 b1)
          clear o1 r1 b1 ex
          go_wp2
          go_roundw
          case rel => exact S.out
          case measure => simp [intOf]; omega
      · have F : AnsList w (symI sg t) (.returned (.slice O on oc)) wr := by
          refine ⟨O, on, oc, rfl, ?_, hb⟩
          unfold symI
          rw [if_pos HS.out, HL.out, ← show k = m by omega]
          exact Own.lower ho (Nat.le_succ _)
        have HF := Lib.hid F
        clear F ho hr hb h h'
        go_wp2
        go_ret
        exact HF.out
  | false =>
    have HS := Lib.hid hok
    clear hok
    go_enter Try.func47, Try.ntmps47
    go_wp2_with fail
    obtain ⟨W, hW⟩ : ∃ W, W = (w.alloc (.cells #[.slice A n c] 26)).alloc (.cells #[] 2) := ⟨_, rfl⟩
    rw [← hW]
    have rA : Row W w.heap.size 26 #[.slice A n c] := by rw [hW]; exact (Row.new _ _ _).alloc _
    have bel : Below w.heap.size w W := by rw [hW]; exact ((Below.refl _ _).alloc (Nat.le_refl _) _).alloc (by simp) _
    have ow : Own W w.heap.size (.slice (some ⟨w.heap.size + 1, 0, none⟩) 0 0) [] := by
      rw [hW]
      have := own_empty (w.alloc (.cells #[.slice A n c] 26)) w.heap.size (by simp)
      simpa using this
    have cA : W.cell? ⟨w.heap.size, 0, none⟩ = some (.slice A n c) := rA.cell 0
    replace h := (h.below bel).more bel.size
    replace h' := (h'.below bel).more bel.size
    have L := Lib.hid (specTermOk A A' n c m c' sg t W h h' hn hm)
    have G := Lib.hid (fun (w' : World) (bb : Below W.heap.size W w') => (show AnsList w (symI sg t) (.returned (.slice (some ⟨w.heap.size + 1, 0, none⟩) 0 0)) w' from ⟨_, _, _, rfl, by unfold symI; rw [if_neg (by rw [HS.out]; simp)]; exact Own.next ow bb, next_trans bel bb⟩))
    clear hW rA bel ow h h'
    go_loopw [5, 6] (fun out i wr => out = .slice (some ⟨w.heap.size + 1, 0, none⟩) 0 0 ∧ i = .int .i64 0 ∧ wr = W) (fun _ _ _ => 0)
    case atStart => exact ⟨rfl, rfl, rfl⟩
    case round =>
      obtain ⟨rfl, rfl, rfl⟩ := hrel
      by_cases hm0 : 0 < m
      · go_wp2_with fail
        refine L.out.mono ?_
        rintro e w1 ⟨he, bb⟩
        rw [HS.out] at he
        subst he
        have F := Lib.hid (G.out _ bb)
        clear bb G L
        go_wp2
        go_ret
        exact F.out
      · have F := Lib.hid (G.out _ (Below.refl _ _))
        have e0 : m = 0 := by omega
        subst e0
        clear G L
        go_wp2
        go_ret
        exact F.out

set_option maxHeartbeats 1000000 in
theorem implSym (A A' : Option Addr) (n c m c' : Nat) (sg t : List Int) (w : World) (h : Seg w w.heap.size A n sg) (h' : Seg w w.heap.size A' m t) (hn : n ≤ 1048576) (hm : m ≤ 1048576) :
    Calls Try.prog 21 #[.agg #[.slice A n c], .slice A' m c'] w (AnsList w (symI sg t)) := by
  have HL := Lib.hid h'.1
  obtain ⟨W, hW⟩ : ∃ W, W = w.alloc (.cells #[.slice A n c] 26) := ⟨_, rfl⟩
  have rA : Row W w.heap.size 26 #[.slice A n c] := by rw [hW]; exact Row.new _ _ _
  have bel : Below w.heap.size w W := by rw [hW]; exact (Below.refl _ _).alloc (Nat.le_refl _) _
  have s := (h.below bel).more bel.size
  have s' := (h'.below bel).more bel.size
  have HW := Lib.hid hW
  clear hW
  have L := Lib.hid (implTermOk A A' n c m c' sg t W s s' hn hm)
  clear s s'
  cases hok : termOkB sg t with
  | false =>
    have HS := Lib.hid hok
    clear hok
    go_enter Try.func21, Try.ntmps21
    go_wp2_with fail
    rw [← HW.out]
    refine L.out.mono ?_
    rintro e w1 ⟨he, bb⟩
    rw [HS.out] at he
    subst he
    have F : AnsList w (symI sg t) (.returned (.slice none 0 0)) w1 := ⟨_, _, _, rfl, by unfold symI; rw [if_neg (by rw [HS.out]; simp)]; exact Own.nil _ _, next_trans bel bb⟩
    have HF := Lib.hid F
    clear F bb bel rA h h'
    go_wp2
    go_ret
    exact HF.out
  | true =>
    have HS := Lib.hid hok
    clear hok
    go_enter Try.func21, Try.ntmps21
    go_wp2_with fail
    rw [← HW.out]
    refine L.out.mono ?_
    rintro e w1 ⟨he, bb⟩
    rw [HS.out] at he
    subst he
    have S0 : HeadSym w A n c m t (.slice none 0 0) (.int .i64 0) w1 := ⟨0, _, _, _, Nat.zero_le _, rfl, rfl, by simpa [symP] using Own.nil w1 (w.heap.size + 1), rA.next bb, next_trans bel bb⟩
    have HS0 := Lib.hid S0
    clear S0 bb bel rA
    go_wp2_with fail
    go_loopw [5, 14] (fun out i wr => HeadSym w A n c m t out i wr) (fun _ i _ => m - (intOf i).toNat)
    case atStart => exact HS0.out
    case round =>
      obtain ⟨k, O, on, oc, hk, rfl, rfl, ho, hr, hb⟩ := hrel
      clear HS0
      have hon : on ≤ 1048576 := by have := Own.len ho; have := symP_len t k; omega
      by_cases hlt : k < m
      · obtain ⟨b, off, x, rfl, hbb, hx, ex⟩ := h'.spot hlt
        have hx1 : wr.cell? ⟨b, off + k, none⟩ = some (.int .i64 x) := (hb.cell (p := ⟨b, off + k, none⟩) hbb).trans hx
        have hsz := hr.lt
        clear hx h h'
        by_cases h0 : 0 ≤ x
        · go_wp2_with (at_builtin; refine app1 rfl _ _ rfl (w.heap.size + 1) O on oc (symP t k) rfl (Own.alloc ho _) wr.heap.size 1 (k : Int) rfl ((Row.new _ _ _).cell 0) (by omega) (by simp; omega) ?_; intro O' oc' w2 ho2 b2)
          have S := Lib.hid (headSym_yes (A := A) (n := n) (c := c) hlt ex h0 ho2 ((hr.alloc _).below b2 (Nat.lt_succ_self _)) ((hb.alloc (Nat.le_of_lt hsz) _).trans (b2.mono (Nat.le_succ _))))
          clear ho2 b2 ho hr hb ex
          go_wp2
          go_roundw
          case rel => exact S.out
          case measure => simp [intOf]; omega
        · have S := Lib.hid (headSym_no (A := A) (n := n) (c := c) hlt ex h0 ho hr hb)
          clear ho hr hb ex
          go_wp2
          go_roundw
          case rel => exact S.out
          case measure => simp [intOf]; omega
      · have F : AnsList w (symI sg t) (.returned (.slice O on oc)) wr := by
          refine ⟨O, on, oc, rfl, ?_, hb⟩
          unfold symI
          rw [if_pos HS.out, HL.out, ← show k = m by omega]
          exact Own.lower ho (Nat.le_succ _)
        have HF := Lib.hid F
        clear F ho hr hb h h'
        go_wp2
        go_ret
        exact HF.out
theorem symI_len {sg t : List Int} {m : Nat} (h : t.length = m) (hm : m ≤ 1048576) : (symI sg t).length ≤ 1048576 := by
  unfold symI
  split
  · have := symP_len t t.length; omega
  · simp
end Go.Proofs.Ytadajlchoongcaa.sym
