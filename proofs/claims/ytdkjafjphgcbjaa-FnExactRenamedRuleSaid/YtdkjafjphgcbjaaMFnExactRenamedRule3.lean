/-
  MERGED: my texts VarsSort, VarsOf, CountL, Linear, FillMath, RenMath, RuleMath, Rename, Same, RuleSpec, AnyR, RuleImpl, RuleSpecB, one behind the other, as they are. By an AI agent.
-/
import Derived.Test.YtdkjafjphgcbjaaMFnExactRenamedRule2
import Derived.Deep.QuietTactic
import Derived.BigQuiet
import Derived.Deep.RegionHeld3
import Derived.Shelf.Abstract
section
/-
  PLAIN MATHEMATICS: sorted and compacted, the negative numbers of a list are its variables. Conditions: none. By an AI agent.
-/
namespace Go.Proofs.Ytdkjafjphgcbjaa.varsMath
open Go.Proofs.Ytdkjafjphgcbjaa.term Go.Proofs.Ytdkjafjphgcbjaa.termOk Go.Proofs.Ytdkjafjphgcbjaa.sorted

theorem compact_cons_cons (x y : Int) (r : List Int) : Lib.compact (x :: y :: r) = if x = y then Lib.compact (y :: r) else x :: Lib.compact (y :: r) := by
  unfold Lib.compact Lib.compactUpTo
  have hr : List.range (x :: y :: r).length = 0 :: (List.range (y :: r).length).map (· + 1) := by
    rw [List.length_cons, List.range_succ_eq_map]
  have hr2 : List.range (y :: r).length = 0 :: (List.range r.length).map (· + 1) := by
    rw [List.length_cons, List.range_succ_eq_map]
  have k0 : Lib.keeps (x :: y :: r).toArray 0 = true := by simp [Lib.keeps]
  have k0' : Lib.keeps (y :: r).toArray 0 = true := by simp [Lib.keeps]
  have ks : ∀ j, Lib.keeps (x :: y :: r).toArray (j + 1 + 1) = Lib.keeps (y :: r).toArray (j + 1) := fun j => by
    simp [Lib.keeps]
  have gs : ∀ j, (x :: y :: r).toArray[j + 1]! = (y :: r).toArray[j]! := fun j => by simp
  rw [hr, hr2]
  simp only [List.map_cons, List.filter_cons, k0, k0', if_true, List.filter_map, List.map_map]
  have e1 : Lib.keeps (x :: y :: r).toArray ∘ (fun (j : Nat) => j + 1) ∘ (fun (j : Nat) => j + 1) = Lib.keeps (y :: r).toArray ∘ fun (j : Nat) => j + 1 := by
    funext j
    exact ks j
  have k1 : Lib.keeps (x :: y :: r).toArray (0 + 1) = decide (¬ x = y) := by
    simp [Lib.keeps, eq_comm]
  rw [e1, k1]
  have e2 : (fun j => (x :: y :: r).toArray[j]!) ∘ (fun (j : Nat) => j + 1) ∘ (fun (j : Nat) => j + 1) = (fun j => (y :: r).toArray[j]!) ∘ fun (j : Nat) => j + 1 := by
    funext j
    exact gs (j + 1)
  by_cases h : x = y
  · subst h
    simp [List.map_map, e2]
  · simp [h, List.map_map, e2]
theorem compact_one (x : Int) : Lib.compact [x] = [x] := by simp [Lib.compact, Lib.compactUpTo, Lib.keeps, List.range_succ]
theorem compact_nil : Lib.compact ([] : List Int) = [] := rfl
theorem compact_sorted : ∀ {l : List Int}, l.Pairwise (· ≤ ·) → Rises (Lib.compact l) ∧ (∀ x, x ∈ Lib.compact l ↔ x ∈ l)
  | [], _ => ⟨List.Pairwise.nil, fun x => by rw [compact_nil]⟩
  | [y], _ => ⟨by rw [compact_one]; simp [Rises], fun x => by rw [compact_one]⟩
  | x :: y :: r, h => by
    have h1 := List.pairwise_cons.1 h
    obtain ⟨h2, h3⟩ := compact_sorted h1.2
    rw [compact_cons_cons]
    by_cases e : x = y
    · subst e
      rw [if_pos rfl]
      exact ⟨h2, fun z => by rw [h3]; simp⟩
    · rw [if_neg e]
      refine ⟨List.pairwise_cons.2 ⟨fun z hz => ?_, h2⟩, fun z => by rw [List.mem_cons, h3, List.mem_cons (a := z) (b := x)]⟩
      have h4 := h1.1 y (List.mem_cons_self ..)
      rcases List.mem_cons.1 ((h3 z).1 hz) with e2 | e2
      · omega
      · have := (List.pairwise_cons.1 h1.2).1 z e2
        omega
theorem up_sorted (l : List Int) : (up l).Pairwise (· ≤ ·) := by
  have := List.pairwise_mergeSort (le := fun x y => decide (x ≤ y)) (fun a b c h1 h2 => by simp at *; omega) (fun a b => by simp; omega) l
  refine this.imp (fun h => ?_)
  simpa using h
theorem up_mem {l : List Int} {x : Int} : x ∈ up l ↔ x ∈ l := by unfold up; exact List.mem_mergeSort
theorem sorted_vars (t : List Int) : Lib.compact (up (negs t)) = vars t := by
  have h := compact_sorted (up_sorted (negs t))
  refine rises_unique h.1 (vars_rises t) (fun x => ?_)
  rw [h.2, up_mem, vars_mem]
end Go.Proofs.Ytdkjafjphgcbjaa.varsMath
end

section
/-
  CONTRACTS: spec.l2Vars, VarsOf, GroundIn; impl.VarsOf, GroundIn. Conditions: the slices read as lists ('Seg'), at most 1048576 numbers. By an AI agent.
-/
namespace Go.Proofs.Ytdkjafjphgcbjaa.varsOf
open Go.RowKit Go.Proofs.Ytdkjafjphgcbjaa.base Go.Proofs.Ytdkjafjphgcbjaa.ints Go.Proofs.Ytdkjafjphgcbjaa.sig Go.Proofs.Ytdkjafjphgcbjaa.term Go.Proofs.Ytdkjafjphgcbjaa.termOk Go.Proofs.Ytdkjafjphgcbjaa.marks Go.Proofs.Ytdkjafjphgcbjaa.app Go.Proofs.Ytdkjafjphgcbjaa.sym Go.Proofs.Ytdkjafjphgcbjaa.sub Go.Proofs.Ytdkjafjphgcbjaa.segs Go.Proofs.Ytdkjafjphgcbjaa.sorted Go.Proofs.Ytdkjafjphgcbjaa.varsMath Go.Proofs.Ytdkjafjphgcbjaa.termFacts
set_option maxRecDepth 100000

/-- the head of the loop over the numbers -/
def HeadVars (w : World) (m : Nat) (t : List Int) (out i : Value) (wr : World) : Prop :=
  ∃ (k b off n c : Nat), k ≤ m ∧ i = .int .i64 k ∧ out = .slice (some ⟨b, off, none⟩) n c ∧ Seg wr wr.heap.size (some ⟨b, off, none⟩) n (vars (t.take k)) ∧ n ≤ c ∧ c ≤ 9223372036854775807 ∧ n ≤ m ∧ Below w.heap.size w wr
theorem vars_seg_len {t : List Int} {m k n : Nat} {w : World} {B : Nat} {A : Option Addr} (hm : t.length = m) (h : Seg w B A n (vars (t.take k))) : n ≤ m := by
  have h1 := vars_len (t.take k)
  have h2 := h.1
  simp at h1
  omega

/-- a slice that reads as these numbers, with its bounds -/
def AnsSeg (w : World) (ys : List Int) (e : Ending) (w' : World) : Prop := ∃ A n c, e = .returned (.slice A n c) ∧ Seg w' w'.heap.size A n ys ∧ Below w.heap.size w w'

/-- the head of the loop that collects -/
def HeadNegs (w : World) (A : Option Addr) (n c m : Nat) (t : List Int) (out i : Value) (wr : World) : Prop :=
  ∃ (k : Nat) (O : Option Addr) (on oc : Nat), k ≤ m ∧ i = .int .i64 k ∧ out = .slice O on oc ∧ Own wr (w.heap.size + 1) (.slice O on oc) (negs (t.take k)) ∧ Row wr w.heap.size 26 #[.slice A n c] ∧ Below w.heap.size w wr

set_option maxHeartbeats 2000000 in
theorem implVarsOf (A A' : Option Addr) (n c m c' : Nat) (sg t : List Int) (w : World) (h : Seg w w.heap.size A n sg) (h' : Seg w w.heap.size A' m t) (hn : n ≤ 1048576) (hm : m ≤ 1048576) :
    Calls Try.prog 124 #[.agg #[.slice A n c], .slice A' m c'] w (AnsList w (varsI sg t)) := by
  obtain ⟨W, hW⟩ : ∃ W, W = w.alloc (.cells #[.slice A n c] 26) := ⟨_, rfl⟩
  have rA : Row W w.heap.size 26 #[.slice A n c] := by rw [hW]; exact Row.new _ _ _
  have bel : Below w.heap.size w W := by rw [hW]; exact (Below.refl _ _).alloc (Nat.le_refl _) _
  have s := (h.below bel).more bel.size
  have s' := (h'.below bel).more bel.size
  have HW := Lib.hid hW
  have HL := Lib.hid h'.1
  have L := Lib.hid (implTermOk A A' n c m c' sg t W s s' hn hm)
  clear hW h s
  cases hok : termOkB sg t with
  | false =>
    have HS := Lib.hid hok
    clear hok s' h'
    go_enter Try.func124, Try.ntmps124
    go_wp2_with fail
    rw [← HW.out]
    refine L.out.mono ?_
    rintro e w1 ⟨he, bb⟩
    rw [HS.out] at he
    subst he
    have F : AnsList w (varsI sg t) (.returned (.slice none 0 0)) w1 := ⟨_, _, _, rfl, by unfold varsI; rw [if_neg (by rw [HS.out]; simp)]; exact Own.nil _ _, next_trans bel bb⟩
    have HF := Lib.hid F
    clear F bb bel rA
    go_wp2
    go_ret
    exact HF.out
  | true =>
    have HS := Lib.hid hok
    have HV := Lib.hid (fun x hx => (term_mem (x := x) hok hx).1)
    clear hok s'
    go_enter Try.func124, Try.ntmps124
    go_wp2_with fail
    rw [← HW.out]
    refine L.out.mono ?_
    rintro e w1 ⟨he, bb⟩
    rw [HS.out] at he
    subst he
    have S0 : HeadNegs w A n c m t (.slice none 0 0) (.int .i64 0) w1 := ⟨0, _, _, _, Nat.zero_le _, rfl, rfl, by simpa [negs] using Own.nil w1 (w.heap.size + 1), rA.next bb, next_trans bel bb⟩
    have HS0 := Lib.hid S0
    clear S0 bb bel rA L
    go_wp2_with fail
    go_loopw [5, 14] (fun out i wr => HeadNegs w A n c m t out i wr) (fun _ i _ => m - (intOf i).toNat)
    case atStart => exact HS0.out
    case round =>
      obtain ⟨k, O, on, oc, hk, rfl, rfl, ho, hr, hb⟩ := hrel
      clear HS0
      have hon : on ≤ m := by have h1 := Own.len ho; have h2 := negs_len (t.take k); simp at h2; have h3 := HL.out; omega
      by_cases hlt : k < m
      · obtain ⟨b, off, x, rfl, hbb, hx, ex⟩ := h'.spot hlt
        have hx1 : wr.cell? ⟨b, off + k, none⟩ = some (.int .i64 x) := (hb.cell (p := ⟨b, off + k, none⟩) hbb).trans hx
        have hsz := hr.lt
        have hmem : x ∈ t := by
          have hkl : k < t.length := by rw [HL.out]; exact hlt
          have := ex.out
          rw [← this]
          simp [List.getD, hkl]
        have hx24 : -24 ≤ x := HV.out x hmem
        clear hmem hx h'
        by_cases hneg : x < 0
        · have E := Lib.hid (negs_yes (t := t) (k := k) (by rw [HL.out]; exact hlt) ex.out hneg)
          clear ex
          go_wp2_with (at_builtin; refine app1 rfl _ _ rfl (w.heap.size + 1) O on oc (negs (t.take k)) rfl (Own.alloc ho _) wr.heap.size 1 (-1 - x) rfl ((Row.new _ _ _).cell 0) (by omega) (by simp; omega) ?_; intro O' oc' w2 ho2 b2)
          have S : HeadNegs w A n c m t (.slice O' (on + 1) oc') (.int .i64 ((k : Int) + 1)) w2 := ⟨k + 1, O', on + 1, oc', hlt, by simp, rfl, by rw [E.out]; exact ho2, ((hr.alloc _).below b2 (Nat.lt_succ_self _)), ((hb.alloc (Nat.le_of_lt hsz) _).trans (b2.mono (Nat.le_succ _)))⟩
          replace S := Lib.hid S
          clear ho2 b2 ho hr hb
          go_wp2
          go_roundw
          case rel => exact S.out
          case measure => simp [intOf]; omega
        · rw [← negs_no (t := t) (k := k) (by rw [HL.out]; exact hlt) ex.out hneg] at ho
          have S : HeadNegs w A n c m t (.slice O on oc) (.int .i64 ((k : Int) + 1)) wr := ⟨k + 1, O, on, oc, hlt, by simp, rfl, ho, hr, hb⟩
          replace S := Lib.hid S
          clear ho hr hb ex
          go_wp2
          go_roundw
          case rel => exact S.out
          case measure => simp [intOf]; omega
      · rw [List.take_of_length_le (by rw [HL.out]; omega)] at ho
        have hge := Own.ge ho
        have hsz := hr.lt
        have L2 := Lib.hid (sortOwn (w.heap.size + 1) O on oc (negs t) wr ho (by omega))
        clear ho hr h'
        go_wp2_with fail
        refine L2.out.mono ?_
        rintro e w2 ⟨rfl, o2, g2⟩
        have b2 := hb.grown g2 hb.size (fun k hk => by have := hge k hk; omega)
        have L3 := Lib.hid (compactOwn (w.heap.size + 1) O on oc (up (negs t)) w2 o2 (by omega))
        clear o2 g2 L2 hb
        go_wp2_with fail
        refine L3.out.mono ?_
        rintro e w3 ⟨c3, rfl, o3, g3⟩
        have b3 := b2.grown g3 b2.size (fun k hk => by have := hge k hk; omega)
        have F : AnsList w (varsI sg t) (.returned (.slice O (Lib.compact (up (negs t))).length c3)) w3 := ⟨O, _, c3, rfl, by unfold varsI; rw [if_pos HS.out, ← sorted_vars t]; exact Own.lower o3 (Nat.le_succ _), b3⟩
        have HF := Lib.hid F
        clear F o3 g3 b2 b3 L3 hge
        go_wp2
        go_ret
        exact HF.out

/-! ### GroundIn -/
def groundB (sg t : List Int) : Bool := termOkB sg t && decide ((vars t).length = 0)

end Go.Proofs.Ytdkjafjphgcbjaa.varsOf
end

section
/-
  CONTRACTS: spec.l1Count, impl.CountOf. Conditions: the slices read as lists ('Seg'), at most 1048576 numbers. By an AI agent.
-/
namespace Go.Proofs.Ytdkjafjphgcbjaa.count
open Go.RowKit Go.Proofs.Ytdkjafjphgcbjaa.base Go.Proofs.Ytdkjafjphgcbjaa.ints Go.Proofs.Ytdkjafjphgcbjaa.sig Go.Proofs.Ytdkjafjphgcbjaa.term Go.Proofs.Ytdkjafjphgcbjaa.termOk

def cnt (t : List Int) (x : Int) (k : Nat) : Nat := (t.take k).count x
def countI (sg t : List Int) (x : Int) : Int := if termOkB sg t = true then (cnt t x t.length : Int) else 0

theorem cnt_le (t : List Int) (x : Int) (k : Nat) : cnt t x k ≤ k := by
  unfold cnt
  exact Nat.le_trans List.count_le_length (List.length_take_le _ _)
theorem cnt_step {t : List Int} {x y : Int} {k : Nat} (hk : k < t.length) (hy : t.getD k 0 = y) : cnt t x (k + 1) = cnt t x k + if y = x then 1 else 0 := by
  unfold cnt
  have e : t.take (k + 1) = t.take k ++ [y] := by
    rw [List.take_succ_eq_append_getElem hk, ← hy]
    simp [List.getD, hk]
  rw [e, List.count_append]
  by_cases h : y = x
  · simp [h]
  · simp [h]

def HeadCnt (m : Nat) (t : List Int) (x : Int) (many i : Value) : Prop := ∃ k : Nat, k ≤ m ∧ i = .int .i64 k ∧ many = .int .i64 (cnt t x k)
theorem headCnt_yes {m k : Nat} {t : List Int} {x : Int} (hm : t.length = m) (hk : k < m) (ex : Hid (t.getD k 0 = x)) : HeadCnt m t x (.int .i64 ((cnt t x k : Int) + 1)) (.int .i64 ((k : Int) + 1)) :=
  ⟨k + 1, hk, by simp, by rw [cnt_step (by omega) ex.out]; simp⟩
theorem headCnt_no {m k : Nat} {t : List Int} {x y : Int} (hm : t.length = m) (hk : k < m) (ex : Hid (t.getD k 0 = y)) (h : ¬ y = x) : HeadCnt m t x (.int .i64 (cnt t x k)) (.int .i64 ((k : Int) + 1)) :=
  ⟨k + 1, hk, by simp, by rw [cnt_step (by omega) ex.out, if_neg h]; simp⟩

set_option maxHeartbeats 400000 in
theorem l1Count (A : Option Addr) (m c : Nat) (t : List Int) (x : Int) (w : World) (h : Seg w w.heap.size A m t) (hm : m ≤ 1048576) :
    Calls Try.prog 111 #[.slice A m c, .int .i64 x] w fun e w' => w = w' ∧ e = .returned (.int .i64 (cnt t x t.length)) := by
  have HL := Lib.hid h.1
  go_enter Try.func111, Try.ntmps111
  go_wp2
  go_loop [5, 6] (fun many i => HeadCnt m t x many i) (fun _ i => m - (intOf i).toNat)
  case atStart => exact ⟨0, Nat.zero_le _, rfl, rfl⟩
  case round =>
    obtain ⟨k, hk, rfl, rfl⟩ := hrel
    have hle := cnt_le t x k
    by_cases hlt : k < m
    · obtain ⟨b, off, y, rfl, -, hy, ey⟩ := h.spot hlt
      by_cases he : y = x
      · subst he
        have S := Lib.hid (headCnt_yes HL.out hlt ey)
        have e1 : (y == y) = true := by simp
        clear h ey
        generalize cnt t y k = z at *
        go_wp2
        go_round
        case rel => exact S.out
        case measure => simp [intOf]; omega
      · have S := Lib.hid (headCnt_no HL.out hlt ey he)
        have e1 : (y == x) = false := by simp [he]
        clear h ey
        generalize cnt t x k = z at *
        go_wp2
        go_round
        case rel => exact S.out
        case measure => simp [intOf]; omega
    · have e : cnt t x k = cnt t x t.length := by rw [HL.out, show k = m by omega]
      have E := Lib.hid e
      clear h e
      generalize cnt t x k = z at *
      go_wp2
      go_ret
      exact ⟨rfl, by rw [← E.out]; rfl⟩

def AnsCount (w : World) (sg t : List Int) (x : Int) (e : Ending) (w' : World) : Prop := e = .returned (.int .i64 (countI sg t x)) ∧ Below w.heap.size w w'
theorem count_no {w w' : World} {sg t : List Int} {x : Int} (h : termOkB sg t = false) (hb : Below w.heap.size w w') : AnsCount w sg t x (.returned (.int .i64 0)) w' := ⟨by unfold countI; rw [if_neg (by rw [h]; simp)], hb⟩
theorem count_yes {w w' : World} {sg t : List Int} {x : Int} {m : Nat} (hm : t.length = m) (h : termOkB sg t = true) (hb : Below w.heap.size w w') : AnsCount w sg t x (.returned (.int .i64 (cnt t x m))) w' := ⟨by unfold countI; rw [if_pos h, hm], hb⟩

set_option maxHeartbeats 1000000 in
theorem implCountOf (A A' : Option Addr) (n c m c' : Nat) (sg t : List Int) (x : Int) (w : World) (h : Seg w w.heap.size A n sg) (h' : Seg w w.heap.size A' m t) (hn : n ≤ 1048576) (hm : m ≤ 1048576) (_ : -9223372036854775808 ≤ x) (_ : x ≤ 9223372036854775807) :
    Calls Try.prog 110 #[.agg #[.slice A n c], .slice A' m c', .int .i64 x] w (AnsCount w sg t x) := by
  obtain ⟨W, hW⟩ : ∃ W, W = w.alloc (.cells #[.slice A n c] 26) := ⟨_, rfl⟩
  have rA : Row W w.heap.size 26 #[.slice A n c] := by rw [hW]; exact Row.new _ _ _
  have bel : Below w.heap.size w W := by rw [hW]; exact (Below.refl _ _).alloc (Nat.le_refl _) _
  replace h := (h.below bel).more bel.size
  replace h' := (h'.below bel).more bel.size
  have HW := Lib.hid hW
  have HL := Lib.hid h'.1
  clear hW
  have L := Lib.hid (implTermOk A A' n c m c' sg t W h h' hn hm)
  cases hok : termOkB sg t with
  | false =>
    have HS := Lib.hid hok
    clear hok h h'
    go_enter Try.func110, Try.ntmps110
    go_wp2_with fail
    rw [← HW.out]
    refine L.out.mono ?_
    rintro e w1 ⟨he, bb⟩
    rw [HS.out] at he
    subst he
    have F := Lib.hid (count_no (x := x) HS.out (next_trans bel bb))
    clear bb bel rA
    go_wp2
    go_ret
    exact F.out
  | true =>
    have HS := Lib.hid hok
    clear hok
    go_enter Try.func110, Try.ntmps110
    go_wp2_with fail
    rw [← HW.out]
    refine L.out.mono ?_
    rintro e w1 ⟨he, bb⟩
    rw [HS.out] at he
    subst he
    replace h' := h'.next bb
    have F := Lib.hid (count_yes (x := x) HL.out HS.out (next_trans bel bb))
    clear bb bel rA h
    go_wp2_with fail
    go_loop [7, 16] (fun many i => HeadCnt m t x many i) (fun _ i => m - (intOf i).toNat)
    case atStart => exact ⟨0, Nat.zero_le _, rfl, rfl⟩
    case round =>
      obtain ⟨k, hk, rfl, rfl⟩ := hrel
      have hle := cnt_le t x k
      by_cases hlt : k < m
      · obtain ⟨b, off, y, rfl, -, hy, ey⟩ := h'.spot hlt
        by_cases he : y = x
        · subst he
          have S := Lib.hid (headCnt_yes HL.out hlt ey)
          have e1 : (y == y) = true := by simp
          clear h' ey F
          generalize cnt t y k = z at *
          go_wp2
          go_round
          case rel => exact S.out
          case measure => simp [intOf]; omega
        · have S := Lib.hid (headCnt_no HL.out hlt ey he)
          have e1 : (y == x) = false := by simp [he]
          clear h' ey F
          generalize cnt t x k = z at *
          go_wp2
          go_round
          case rel => exact S.out
          case measure => simp [intOf]; omega
      · have e : k = m := by omega
        subst e
        clear h'
        generalize cnt t x k = z at *
        go_wp2
        go_ret
        exact F.out

end Go.Proofs.Ytdkjafjphgcbjaa.count
end

section
/-
  CONTRACTS: spec.l2Linear, LinearIn; impl.LinearIn. Conditions: the slices read as lists ('Seg'), at most 1048576 numbers. By an AI agent.
-/
namespace Go.Proofs.Ytdkjafjphgcbjaa.linear
open Go.RowKit Go.Proofs.Ytdkjafjphgcbjaa.base Go.Proofs.Ytdkjafjphgcbjaa.ints Go.Proofs.Ytdkjafjphgcbjaa.sig Go.Proofs.Ytdkjafjphgcbjaa.term Go.Proofs.Ytdkjafjphgcbjaa.termOk Go.Proofs.Ytdkjafjphgcbjaa.marks Go.Proofs.Ytdkjafjphgcbjaa.sym Go.Proofs.Ytdkjafjphgcbjaa.count Go.Proofs.Ytdkjafjphgcbjaa.varsMath Go.Proofs.Ytdkjafjphgcbjaa.termFacts Go.Proofs.Ytdkjafjphgcbjaa.varsOf
set_option maxRecDepth 100000

/-- how often a number stands in a list -/
def many (t : List Int) (x : Int) : Nat := cnt t x t.length
/-- no variable stands twice -/
def linB (t : List Int) : Bool := t.all fun x => decide (¬ x < 0 ∨ many t x ≤ 1)
def linearB (sg t : List Int) : Bool := termOkB sg t && linB t

theorem lin_no {t : List Int} {x : Int} (hx : x ∈ t) (h0 : x < 0) (h : 1 < many t x) : linB t = false := by
  unfold linB
  rw [List.all_eq_false]
  exact ⟨x, hx, by simp; omega⟩
theorem lin_yes {t : List Int} (h : ∀ x ∈ t, x < 0 → many t x ≤ 1) : linB t = true := by
  unfold linB
  rw [List.all_eq_true]
  intro x hx
  by_cases h0 : x < 0
  · simp [h x hx h0]
  · simp; omega

def HeadLin (m : Nat) (t : List Int) (i : Value) : Prop := ∃ k : Nat, k ≤ m ∧ i = .int .i64 k ∧ ∀ j, j < k → t.getD j 0 < 0 → many t (t.getD j 0) ≤ 1

set_option maxHeartbeats 1000000 in
theorem l2Linear (A : Option Addr) (m c : Nat) (t : List Int) (w : World) (h : Seg w w.heap.size A m t) (hm : m ≤ 1048576) :
    Calls Try.prog 79 #[.slice A m c] w fun e w' => w = w' ∧ e = .returned (.bool (linB t)) := by
  have HL := Lib.hid h.1
  go_enter Try.func79, Try.ntmps79
  go_wp2
  go_loop [3] (fun i => HeadLin m t i) (fun i => m - (intOf i).toNat)
  case atStart => exact ⟨0, Nat.zero_le _, rfl, fun j hj => absurd hj (Nat.not_lt_zero _)⟩
  case round =>
    obtain ⟨k, hk, rfl, hlin⟩ := hrel
    have HLIN := Lib.hid hlin
    clear hlin
    by_cases hlt : k < m
    · have L := fun x => l1Count A m c t x w h hm
      obtain ⟨b, off, x, rfl, -, hx, ex⟩ := h.spot hlt
      have hmem : x ∈ t := by
        have hkl : k < t.length := by rw [HL.out]; exact hlt
        have := ex.out
        rw [← this]
        simp [List.getD, hkl]
      by_cases hneg : x < 0
      · have LX := Lib.hid (L x)
        obtain ⟨z, hz⟩ : ∃ z, cnt t x t.length = z := ⟨_, rfl⟩
        have hzl : z ≤ m := by rw [← hz]; have := cnt_le t x t.length; rw [HL.out] at this ⊢; exact this
        rw [hz] at LX
        by_cases h1 : 1 < z
        · have F := Lib.hid (lin_no hmem hneg (by unfold many; rw [hz]; exact h1))
          clear L h ex hmem hz
          go_wp2_with fail
          refine LX.out.mono ?_
          rintro e w' ⟨rfl, rfl⟩
          clear LX
          go_wp2
          go_ret
          exact ⟨rfl, by rw [F.out]; rfl⟩
        · have S : HeadLin m t (.int .i64 ((k : Int) + 1)) := ⟨k + 1, hlt, by simp, fun j hj h0 => by
            by_cases e : j = k
            · subst e; rw [ex.out]; unfold many; rw [hz]; omega
            · exact HLIN.out j (by omega) h0⟩
          replace S := Lib.hid S
          clear L h ex hmem hz
          go_wp2_with fail
          refine LX.out.mono ?_
          rintro e w' ⟨rfl, rfl⟩
          clear LX
          go_wp2
          go_round
          case rel => exact S.out
          case measure => simp [intOf]; omega
      · have S : HeadLin m t (.int .i64 ((k : Int) + 1)) := ⟨k + 1, hlt, by simp, fun j hj h0 => by
          by_cases e : j = k
          · subst e; rw [ex.out] at h0; omega
          · exact HLIN.out j (by omega) h0⟩
        replace S := Lib.hid S
        have d1 : decide (x < 0) = false := by simp; omega
        clear L h ex hmem
        go_wp2
        go_round
        case rel => exact S.out
        case measure => simp [intOf]; omega
    · have F : linB t = true := lin_yes (fun x hx h0 => by
        obtain ⟨j, hj, rfl⟩ := List.getElem_of_mem hx
        have e : t.getD j 0 = t[j] := by simp [List.getD, hj]
        rw [← e]
        exact HLIN.out j (by rw [HL.out] at hj; omega) (by rw [e]; exact h0))
      have HF := Lib.hid F
      clear F h
      go_wp2
      go_ret
      exact ⟨rfl, by rw [HF.out]; rfl⟩

/-- the head of the loop over the variables -/
def HeadLinV (w : World) (A : Option Addr) (n c : Nat) (V : Option Addr) (vn : Nat) (t : List Int) (i : Value) (wr : World) : Prop :=
  ∃ k : Nat, k ≤ vn ∧ i = .int .i64 k ∧ (∀ j, j < k → many t (-1 - (vars t).getD j 0) ≤ 1) ∧ Seg wr wr.heap.size V vn (vars t) ∧ Row wr w.heap.size 26 #[.slice A n c] ∧ Below w.heap.size w wr
theorem vars_neg {t : List Int} {x : Int} : x ∈ vars t ↔ (-1 - x ∈ t ∧ 0 ≤ x) := by
  rw [vars_mem]
  unfold negs
  rw [List.mem_map]
  constructor
  · rintro ⟨y, hy, rfl⟩
    rw [List.mem_filter] at hy
    have h1 : y < 0 := by simpa using hy.2
    exact ⟨by rw [show -1 - (-1 - y) = y by omega]; exact hy.1, by omega⟩
  · rintro ⟨h1, h2⟩
    exact ⟨-1 - x, List.mem_filter.2 ⟨h1, by simp; omega⟩, by omega⟩

set_option maxHeartbeats 2000000 in
theorem implLinearIn (A A' : Option Addr) (n c m c' : Nat) (sg t : List Int) (w : World) (h : Seg w w.heap.size A n sg) (h' : Seg w w.heap.size A' m t) (hn : n ≤ 1048576) (hm : m ≤ 1048576) :
    Calls Try.prog 108 #[.agg #[.slice A n c], .slice A' m c'] w (AnsB w (linearB sg t)) := by
  obtain ⟨W, hW⟩ : ∃ W, W = w.alloc (.cells #[.slice A n c] 26) := ⟨_, rfl⟩
  have rA : Row W w.heap.size 26 #[.slice A n c] := by rw [hW]; exact Row.new _ _ _
  have bel : Below w.heap.size w W := by rw [hW]; exact (Below.refl _ _).alloc (Nat.le_refl _) _
  have s := (h.below bel).more bel.size
  have s' := (h'.below bel).more bel.size
  have HW := Lib.hid hW
  have HL := Lib.hid h'.1
  have L := Lib.hid (implTermOk A A' n c m c' sg t W s s' hn hm)
  clear hW
  cases hok : termOkB sg t with
  | false =>
    have HS := Lib.hid hok
    clear hok s s' h h'
    go_enter Try.func108, Try.ntmps108
    go_wp2_with fail
    rw [← HW.out]
    refine L.out.mono ?_
    rintro e w1 ⟨he, bb⟩
    rw [HS.out] at he
    subst he
    have F := Lib.hid (ansB (b := linearB sg t) (a := false) (by unfold linearB; rw [HS.out]; rfl) (next_trans bel bb))
    clear bb bel rA
    go_wp2
    go_ret
    exact F.out
  | true =>
    have HS := Lib.hid hok
    have HT := Lib.hid (fun x hx => term_mem (x := x) hok hx)
    have H60 := (term_len hok).2
    clear hok
    go_enter Try.func108, Try.ntmps108
    go_wp2_with fail
    rw [← HW.out]
    refine L.out.mono ?_
    rintro e w1 ⟨he, bb⟩
    rw [HS.out] at he
    subst he
    have L2 := Lib.hid (implVarsOf A A' n c m c' sg t w1 (s.next bb) (s'.next bb) hn hm)
    have cA : w1.cell? ⟨w.heap.size, 0, none⟩ = some (.slice A n c) := (rA.next bb).cell 0
    clear L s s'
    go_wp2_with fail
    refine L2.out.mono ?_
    rintro e w2 ⟨V, vn, vc, rfl, o2, b2⟩
    rw [show varsI sg t = vars t from if_pos HS.out] at o2
    have hvn : vn ≤ 60 := by have h1 := Own.len o2; have h2 := vars_len t; omega
    have S0 : HeadLinV w A n c V vn t (.int .i64 0) w2 := ⟨0, Nat.zero_le _, rfl, fun j hj => absurd hj (Nat.not_lt_zero _), Own.seg o2, (rA.next bb).next b2, next_trans (next_trans bel bb) b2⟩
    have HS0 := Lib.hid S0
    clear S0 o2 b2 L2 bb bel rA cA
    go_wp2_with fail
    go_loopw [15] (fun i wr => HeadLinV w A n c V vn t i wr) (fun i _ => vn - (intOf i).toNat)
    case atStart => exact HS0.out
    case round =>
      obtain ⟨k, hk, rfl, hlow, sv, hr, hb⟩ := hrel
      have HLOW := Lib.hid hlow
      clear hlow HS0
      have HSV := Lib.hid sv.1
      by_cases hlt : k < vn
      · obtain ⟨b, off, x, rfl, -, hx, ex⟩ := sv.spot hlt
        have hmem : x ∈ vars t := by
          have hkl : k < (vars t).length := by rw [HSV.out]; exact hlt
          have := ex.out
          rw [← this]
          simp [List.getD, hkl]
        have hmem2 := vars_neg.1 hmem
        have hx24 := HT.out _ hmem2.1
        have hx0 : 0 ≤ x := hmem2.2
        have hx1 : x ≤ 23 := by omega
        have cA : wr.cell? ⟨w.heap.size, 0, none⟩ = some (.slice A n c) := hr.cell 0
        have L3 := Lib.hid (implCountOf A A' n c m c' sg t (-1 - x) wr ((h.below hb).more hb.size) ((h'.below hb).more hb.size) hn hm (by omega) (by omega))
        have EC := Lib.hid (show countI sg t (-1 - x) = (many t (-1 - x) : Int) from if_pos HS.out)
        obtain ⟨z, hz⟩ : ∃ z, many t (-1 - x) = z := ⟨_, rfl⟩
        have HZ := Lib.hid hz
        clear hz
        have hzl : z ≤ 60 := by rw [← HZ.out]; unfold many; have := cnt_le t (-1 - x) t.length; omega
        have F1 := Lib.hid (fun (h1 : 1 < z) => lin_no hmem2.1 (by omega) (by rw [HZ.out]; exact h1))
        clear hmem hmem2 hx24 h h'
        go_wp2_with fail
        refine L3.out.mono ?_
        rintro e w3 ⟨he, b3⟩
        rw [EC.out, HZ.out] at he
        subst he
        have hb3 := next_trans hb b3
        by_cases h1 : 1 < z
        · have F := Lib.hid (ansB (b := linearB sg t) (a := false) (by unfold linearB; rw [HS.out, F1.out h1]; rfl) hb3)
          clear hb3 b3 hb hr sv ex L3 cA
          go_wp2
          go_ret
          exact F.out
        · have S : HeadLinV w A n c (some ⟨b, off, none⟩) vn t (.int .i64 ((k : Int) + 1)) w3 := ⟨k + 1, hlt, by simp, fun j hj => by
            by_cases e : j = k
            · subst e; rw [ex.out, HZ.out]; omega
            · exact HLOW.out j (by omega), sv.next b3, hr.next b3, hb3⟩
          replace S := Lib.hid S
          clear hb3 b3 hb hr sv ex L3 cA
          go_wp2
          go_roundw
          case rel => exact S.out
          case measure => simp [intOf]; omega
      · have F : linB t = true := lin_yes (fun x hx h0 => by
          have h1 : -1 - x ∈ vars t := vars_neg.2 ⟨by rw [show -1 - (-1 - x) = x by omega]; exact hx, by omega⟩
          obtain ⟨j, hj, e⟩ := List.getElem_of_mem h1
          have e2 : (vars t).getD j 0 = -1 - x := by simp [List.getD, hj, e]
          have h3 := HLOW.out j (by rw [HSV.out] at hj; omega)
          rw [e2, show -1 - (-1 - x) = x by omega] at h3
          exact h3)
        have HF := Lib.hid (ansB (b := linearB sg t) (a := true) (by unfold linearB; rw [HS.out, F]; rfl) hb)
        clear F hb hr sv h h'
        go_wp2
        go_ret
        exact HF.out
end Go.Proofs.Ytdkjafjphgcbjaa.linear
end

section
/-
  PLAIN MATHEMATICS of replacing: a list with each variable replaced ('fillL'), by a substitution ('gives'), by a shift; terms stay terms. Conditions: none. By an AI agent.
-/
namespace Go.Proofs.Ytdkjafjphgcbjaa.fillMath
open Go.Proofs.Ytdkjafjphgcbjaa.sig Go.Proofs.Ytdkjafjphgcbjaa.term Go.Proofs.Ytdkjafjphgcbjaa.termOk Go.Proofs.Ytdkjafjphgcbjaa.termFacts Go.Proofs.Ytdkjafjphgcbjaa.varsMath

/-- the term that is variable i -/
def vt (i : Nat) : List Int := [-1 - (i : Int)]
/-- one number replaced -/
def rep (L : Nat → List Int) (n : Int) : List Int := if 0 ≤ n then [n] else L (-1 - n).toNat
/-- a list with each variable replaced -/
def fillL (L : Nat → List Int) (t : List Int) : List Int := t.flatMap (rep L)
theorem rep_sym {L : Nat → List Int} {n : Int} (h : 0 ≤ n) : rep L n = [n] := by unfold rep; rw [if_pos h]
theorem rep_var {L : Nat → List Int} {n : Int} (h : n < 0) : rep L n = L (-1 - n).toNat := by unfold rep; rw [if_neg (by omega)]
theorem fill_nil (L : Nat → List Int) : fillL L [] = [] := rfl
theorem fill_cons (L : Nat → List Int) (x : Int) (r : List Int) : fillL L (x :: r) = rep L x ++ fillL L r := by simp [fillL]
theorem fill_append (L : Nat → List Int) (a b : List Int) : fillL L (a ++ b) = fillL L a ++ fillL L b := by simp [fillL]
theorem fill_take {L : Nat → List Int} {t : List Int} {k : Nat} {x : Int} (hk : k < t.length) (hx : t.getD k 0 = x) : fillL L (t.take (k + 1)) = fillL L (t.take k) ++ rep L x := by
  rw [take_snoc hk hx, fill_append, fill_cons, fill_nil, List.append_nil]
theorem rep_len {L : Nat → List Int} {M : Nat} (h1 : 1 ≤ M) (hM : ∀ i, (L i).length ≤ M) (n : Int) : (rep L n).length ≤ M := by
  unfold rep
  split
  · simpa using h1
  · exact hM _
theorem fill_len {L : Nat → List Int} {M : Nat} (h1 : 1 ≤ M) (hM : ∀ i, (L i).length ≤ M) : ∀ t : List Int, (fillL L t).length ≤ t.length * M
  | [] => by simp [fill_nil]
  | x :: r => by
    have h2 := rep_len h1 hM x
    have h3 := fill_len h1 hM r
    rw [fill_cons, List.length_append, List.length_cons, Nat.add_mul]
    omega
/-- nothing grows shorter -/
theorem fill_ge {L : Nat → List Int} (h1 : ∀ i, 1 ≤ (L i).length) : ∀ t : List Int, t.length ≤ (fillL L t).length
  | [] => by simp
  | x :: r => by
    have h3 := fill_ge h1 r
    have h2 : 1 ≤ (rep L x).length := by
      unfold rep
      split
      · simp
      · exact h1 _
    rw [fill_cons, List.length_append, List.length_cons]
    omega
theorem fill_ext {L L' : Nat → List Int} : ∀ {t : List Int}, (∀ x ∈ t, x < 0 → L (-1 - x).toNat = L' (-1 - x).toNat) → fillL L t = fillL L' t
  | [], _ => rfl
  | x :: r, h => by
    rw [fill_cons, fill_cons, fill_ext (fun y hy => h y (List.mem_cons_of_mem _ hy))]
    congr 1
    unfold rep
    split
    · rfl
    · exact h x (List.mem_cons_self ..) (by omega)
/-- one after the other -/
theorem fill_fill {L U : Nat → List Int} : ∀ t : List Int, fillL U (fillL L t) = fillL (fun i => fillL U (L i)) t
  | [] => rfl
  | x :: r => by
    rw [fill_cons, fill_append, fill_cons, fill_fill r]
    congr 1
    unfold rep
    by_cases h : 0 ≤ x
    · rw [if_pos h, if_pos h, fill_cons, fill_nil, List.append_nil, rep_sym h]
    · rw [if_neg h, if_neg h]

/-! ### terms stay terms -/
theorem scan_join {sg : List Int} : ∀ {l l' : List Int} {q q' j : Nat}, scan sg q l = some l.length → scan sg q' l' = some j → scan sg (q + q') (l ++ l') = some (l.length + j)
  | [], l', q, q', j, h, h' => by
    cases q with
    | zero => simpa using h'
    | succ q => rw [scan_nil] at h; cases h
  | x :: r, l', q, q', j, h, h' => by
    cases q with
    | zero => rw [scan_zero] at h; simp at h
    | succ q =>
      by_cases ha : ar sg x < 0
      · rw [scan_bad ha] at h; cases h
      · rw [scan_step ha] at h
        obtain ⟨i, hi, e⟩ := Option.map_eq_some_iff.1 h
        have e2 : i = r.length := by simp at e; omega
        subst e2
        have h2 := scan_join hi h'
        rw [show q + 1 + q' = (q + q') + 1 by omega, List.cons_append, scan_step ha, show q + q' + (ar sg x).toNat = q + (ar sg x).toNat + q' by omega, h2]
        simp
        omega
theorem scan_fill {sg : List Int} {L : Nat → List Int} : ∀ {t : List Int} {q : Nat}, scan sg q t = some t.length → (∀ x ∈ t, x < 0 → scan sg 1 (L (-1 - x).toNat) = some (L (-1 - x).toNat).length) → scan sg q (fillL L t) = some (fillL L t).length
  | [], q, h, _ => h
  | x :: r, q, h, hL => by
    cases q with
    | zero => rw [scan_zero] at h; simp at h
    | succ q =>
      by_cases ha : ar sg x < 0
      · rw [scan_bad ha] at h; cases h
      · rw [scan_step ha] at h
        obtain ⟨i, hi, e⟩ := Option.map_eq_some_iff.1 h
        have e2 : i = r.length := by simp at e; omega
        subst e2
        have h2 := scan_fill hi (fun y hy => hL y (List.mem_cons_of_mem _ hy))
        rw [fill_cons]
        by_cases hx : 0 ≤ x
        · rw [rep_sym hx, List.singleton_append, scan_step ha, h2]
          simp
        · have h3 := hL x (List.mem_cons_self ..) (by omega)
          have h0 : ar sg x = 0 := by
            unfold ar at ha ⊢
            split
            · rfl
            · rename_i h4
              rw [if_neg h4] at ha
              split at ha
              · omega
              · omega
          rw [h0] at h2
          rw [rep_var (by omega), Nat.add_comm q 1]
          have h4 := scan_join h3 (by simpa using h2)
          rw [h4, List.length_append]
theorem fill_term {sg t : List Int} {L : Nat → List Int} (h : termOkB sg t = true) (hL : ∀ x ∈ t, x < 0 → termOkB sg (L (-1 - x).toNat) = true) (h60 : (fillL L t).length ≤ 60) : termOkB sg (fillL L t) = true :=
  term_mk (term_parts h).1 h60 (scan_fill (term_parts h).2.2 (fun x hx h0 => (term_parts (hL x hx h0)).2.2))
theorem var_term {sg : List Int} {i : Nat} (hs : sigOkB sg = true) (hi : i < 24) : termOkB sg (vt i) = true := by
  refine term_mk hs (by simp [vt]) ?_
  have h0 : ar sg (-1 - (i : Int)) = 0 := ar_var (by omega)
  show scan sg 1 [-1 - (i : Int)] = some 1
  rw [scan_step (by omega), h0]
  rfl

/-! ### a shift -/
def sh (k x : Int) : Int := if x < 0 then x - k else x
def shiftL (k : Int) (t : List Int) : List Int := t.map (sh k)
def shiftB (k : Int) (t : List Int) : Bool := t.all fun x => decide (-24 ≤ sh k x)
theorem shift_fill {k : Nat} : ∀ t : List Int, fillL (fun i => vt (i + k)) t = shiftL (k : Int) t
  | [] => rfl
  | x :: r => by
    rw [fill_cons, shift_fill r]
    show _ = sh k x :: shiftL k r
    unfold rep sh
    by_cases h : 0 ≤ x
    · rw [if_pos h, if_neg (by omega)]; rfl
    · rw [if_neg h, if_pos (by omega)]
      show [-1 - (((-1 - x).toNat + k : Nat) : Int)] ++ _ = _
      rw [show (-1 - (((-1 - x).toNat + k : Nat) : Int) : Int) = x - k by omega]
      rfl
theorem shift_len (k : Int) (t : List Int) : (shiftL k t).length = t.length := by simp [shiftL]
theorem shift_ok {sg t : List Int} {k : Nat} (h : termOkB sg t = true) : termOkB sg (shiftL (k : Int) t) = shiftB k t := by
  cases hb : shiftB (k : Int) t with
  | true =>
    unfold shiftB at hb
    rw [List.all_eq_true] at hb
    rw [← shift_fill]
    refine fill_term h (fun x hx h0 => ?_) (by rw [shift_fill, shift_len]; exact (term_len h).2)
    have h1 := hb x hx
    have h2 : -24 ≤ x - k := by simpa [sh, h0] using h1
    exact var_term (term_parts h).1 (by omega)
  | false =>
    cases ho : termOkB sg (shiftL (k : Int) t) with
    | false => rfl
    | true =>
      exfalso
      unfold shiftB at hb
      rw [List.all_eq_false] at hb
      obtain ⟨x, hx, h1⟩ := hb
      have h2 := (term_mem ho (x := sh k x) (by unfold shiftL; exact List.mem_map.2 ⟨x, hx, rfl⟩)).1
      simp at h1
      omega
theorem shift_take {k : Int} {t : List Int} {j : Nat} {x : Int} (hk : j < t.length) (hx : t.getD j 0 = x) : shiftL k (t.take (j + 1)) = shiftL k (t.take j) ++ [sh k x] := by
  rw [take_snoc hk hx]
  simp [shiftL]
theorem shiftB_no {k x : Int} {t : List Int} (hx : x ∈ t) (h : sh k x < -24) : shiftB k t = false := by
  unfold shiftB
  rw [List.all_eq_false]
  exact ⟨x, hx, by simp; omega⟩
theorem shiftB_yes {k : Int} {t : List Int} (h : ∀ j, j < t.length → -24 ≤ sh k (t.getD j 0)) : shiftB k t = true := by
  unfold shiftB
  rw [List.all_eq_true]
  intro x hx
  obtain ⟨j, hj, rfl⟩ := List.getElem_of_mem hx
  have := h j hj
  simpa [List.getD, hj] using this
/-- what Shifted answers -/
def shiftedB (sg t : List Int) (k : Int) : Bool := termOkB sg t && decide (0 ≤ k ∧ k ≤ 24) && shiftB k t
def shiftedL (sg t : List Int) (k : Int) : List Int := if shiftedB sg t k = true then shiftL k t else []
theorem shifted_len {sg t : List Int} {k : Int} {m : Nat} (h : t.length = m) (hm : m ≤ 1048576) : (shiftedL sg t k).length ≤ 1048576 := by
  unfold shiftedL
  split
  · rw [shift_len]; omega
  · simp
end Go.Proofs.Ytdkjafjphgcbjaa.fillMath
end

section
/-
  PLAIN MATHEMATICS of renaming: the order in which variables stand first ('orderL'), the place in it ('idx'), a term renamed ('renL'). Conditions: none. By an AI agent.
-/
namespace Go.Proofs.Ytdkjafjphgcbjaa.renMath
open Go.Proofs.Ytdkjafjphgcbjaa.sig Go.Proofs.Ytdkjafjphgcbjaa.term Go.Proofs.Ytdkjafjphgcbjaa.termOk Go.Proofs.Ytdkjafjphgcbjaa.termFacts Go.Proofs.Ytdkjafjphgcbjaa.varsMath Go.Proofs.Ytdkjafjphgcbjaa.fillMath

/-- the first place of a number -/
def idx : List Int → Int → Nat
  | [], _ => 0
  | y :: r, x => if y = x then 0 else idx r x + 1
theorem idx_lt : ∀ {o : List Int} {x : Int}, x ∈ o → idx o x < o.length
  | y :: r, x, h => by
    rw [idx]
    split
    · simp
    · rename_i h1
      rcases List.mem_cons.1 h with e | e
      · exact absurd e.symm h1
      · have := idx_lt e; simp; omega
theorem idx_not : ∀ {o : List Int} {x : Int}, x ∉ o → idx o x = o.length
  | [], _, _ => rfl
  | y :: r, x, h => by
    have h1 : ¬ y = x := fun e => h (by rw [e]; exact List.mem_cons_self ..)
    rw [idx, if_neg h1, idx_not (fun e => h (List.mem_cons_of_mem _ e))]
    rfl
theorem idx_get : ∀ {o : List Int} {x : Int}, x ∈ o → o.getD (idx o x) 0 = x
  | y :: r, x, h => by
    rw [idx]
    split
    · rename_i h1; simpa using h1
    · rename_i h1
      rcases List.mem_cons.1 h with e | e
      · exact absurd e.symm h1
      · simpa using idx_get e
theorem idx_first : ∀ {o : List Int} {x : Int} {k : Nat}, k < o.length → (∀ j, j < k → o.getD j 0 ≠ x) → o.getD k 0 = x → idx o x = k
  | y :: r, x, 0, _, _, h => by
    have h : y = x := by simpa using h
    rw [idx, if_pos h]
  | y :: r, x, k + 1, hk, hl, h => by
    have h0 : ¬ y = x := by simpa using hl 0 (by omega)
    rw [idx, if_neg h0, idx_first (k := k) (by simpa using hk) (fun j hj => by simpa using hl (j + 1) (by omega)) (by simpa using h)]
theorem idx_app_mem : ∀ {o q : List Int} {x : Int}, x ∈ o → idx (o ++ q) x = idx o x
  | y :: r, q, x, h => by
    rw [List.cons_append, idx, idx]
    split
    · rfl
    · rename_i h1
      rcases List.mem_cons.1 h with e | e
      · exact absurd e.symm h1
      · rw [idx_app_mem e]
theorem idx_app_new {o : List Int} {x : Int} (h : x ∉ o) : idx (o ++ [x]) x = o.length := by
  refine idx_first (by simp) (fun j hj => ?_) (by simp)
  have e : (o ++ [x]).getD j 0 = o[j] := by simp [List.getD, List.getElem?_append_left hj, hj]
  rw [e]
  exact fun e2 => h (by rw [← e2]; exact List.getElem_mem hj)
theorem idx_map {f : Int → Int} (hf : ∀ a b, f a = f b → a = b) : ∀ (o : List Int) (x : Int), idx (o.map f) (f x) = idx o x
  | [], _ => rfl
  | y :: r, x => by
    rw [List.map_cons, idx, idx]
    by_cases h : y = x
    · rw [if_pos h, if_pos (by rw [h])]
    · rw [if_neg h, if_neg (fun e => h (hf _ _ e)), idx_map hf r x]
theorem mem_map_inj {f : Int → Int} (hf : ∀ a b, f a = f b → a = b) {o : List Int} {x : Int} : f x ∈ o.map f ↔ x ∈ o := by
  rw [List.mem_map]
  exact ⟨fun ⟨y, hy, e⟩ => by rw [← hf _ _ e]; exact hy, fun h => ⟨x, h, rfl⟩⟩

/-- with one more, unless it is there -/
def ext (o : List Int) (x : Int) : List Int := if x ∈ o then o else o ++ [x]
/-- with a number's variable, if it is one -/
def extV (o : List Int) (x : Int) : List Int := if x < 0 then ext o x else o
/-- the variables in the order in which they stand first -/
def orderL (t : List Int) : List Int := t.foldl extV []
theorem order_take {t : List Int} {k : Nat} {x : Int} (hk : k < t.length) (hx : t.getD k 0 = x) : orderL (t.take (k + 1)) = extV (orderL (t.take k)) x := by
  unfold orderL
  rw [take_snoc hk hx, List.foldl_append]
  rfl
theorem ext_mem {o : List Int} {x y : Int} : y ∈ ext o x ↔ y = x ∨ y ∈ o := by
  unfold ext
  split
  · rename_i h
    exact ⟨fun e => .inr e, fun e => by rcases e with e | e; exact e ▸ h; exact e⟩
  · rw [List.mem_append, List.mem_singleton, or_comm]
theorem extV_mem {o : List Int} {x y : Int} : y ∈ extV o x ↔ (y = x ∧ x < 0) ∨ y ∈ o := by
  unfold extV
  split
  · rename_i h
    rw [ext_mem]
    exact ⟨fun e => by rcases e with e | e; exact .inl ⟨e, h⟩; exact .inr e, fun e => by rcases e with e | e; exact .inl e.1; exact .inr e⟩
  · rename_i h
    exact ⟨fun e => .inr e, fun e => by rcases e with e | e; exact absurd e.2 h; exact e⟩
theorem fold_ext_mem {y : Int} : ∀ {l o : List Int}, y ∈ l.foldl extV o ↔ (y ∈ l ∧ y < 0) ∨ y ∈ o
  | [], o => by simp
  | x :: l, o => by
    rw [List.foldl_cons, fold_ext_mem, extV_mem, List.mem_cons]
    constructor
    · rintro (⟨h, h0⟩ | ⟨rfl, h0⟩ | h)
      · exact .inl ⟨.inr h, h0⟩
      · exact .inl ⟨.inl rfl, h0⟩
      · exact .inr h
    · rintro (⟨rfl | h, h0⟩ | h)
      · exact .inr (.inl ⟨rfl, h0⟩)
      · exact .inl ⟨h, h0⟩
      · exact .inr (.inr h)
theorem order_mem {t : List Int} {y : Int} : y ∈ orderL t ↔ y ∈ t ∧ y < 0 := by unfold orderL; rw [fold_ext_mem]; simp
theorem ext_nodup {o : List Int} {x : Int} (h : o.Nodup) : (ext o x).Nodup := by
  unfold ext
  split
  · exact h
  · rename_i hx
    rw [List.nodup_append]
    exact ⟨h, by simp, fun a ha b hb => by simp at hb; subst hb; exact fun e => hx (e ▸ ha)⟩
theorem fold_nodup : ∀ {l o : List Int}, o.Nodup → (l.foldl extV o).Nodup
  | [], _, h => h
  | x :: l, o, h => by
    rw [List.foldl_cons]
    refine fold_nodup ?_
    unfold extV
    split
    · exact ext_nodup h
    · exact h
theorem order_nodup (t : List Int) : (orderL t).Nodup := fold_nodup List.nodup_nil
theorem ext_len (o : List Int) (x : Int) : (ext o x).length ≤ o.length + 1 := by unfold ext; split <;> simp
theorem fold_ext_len : ∀ (l o : List Int), (l.foldl extV o).length ≤ o.length + l.length
  | [], _ => by simp
  | x :: l, o => by
    have h1 := fold_ext_len l (extV o x)
    have h2 : (extV o x).length ≤ o.length + 1 := by unfold extV; split; exact ext_len o x; simp
    simp
    omega
theorem order_len (t : List Int) : (orderL t).length ≤ t.length := by have := fold_ext_len t []; simpa [orderL] using this

/-- a number by an order -/
def ren (o : List Int) (n : Int) : Int := if n < 0 then -1 - (idx o n : Int) else n
/-- a term renamed -/
def renL (t : List Int) : List Int := t.map (ren (orderL t))
theorem ren_ext {o : List Int} {x n : Int} (h : n < 0 → n ∈ o) : ren (extV o x) n = ren o n := by
  unfold ren
  split
  · rename_i h0
    unfold extV ext
    split
    · split
      · rfl
      · rw [idx_app_mem (h h0)]
    · rfl
  · rfl
theorem ren_take {t : List Int} {k : Nat} {x : Int} (hk : k < t.length) (hx : t.getD k 0 = x) : renL (t.take (k + 1)) = renL (t.take k) ++ [ren (extV (orderL (t.take k)) x) x] := by
  unfold renL
  rw [order_take hk hx, take_snoc hk hx, List.map_append]
  congr 1
  refine List.map_congr_left (fun n hn => ren_ext (fun h0 => order_mem.2 ⟨hn, h0⟩))
theorem ren_len (t : List Int) : (renL t).length = t.length := by simp [renL]
/-- what Renamed answers -/
def renI (sg t : List Int) : List Int := if termOkB sg t = true then renL t else []
theorem renI_len {sg t : List Int} {m : Nat} (h : t.length = m) (hm : m ≤ 1048576) : (renI sg t).length ≤ 1048576 := by
  unfold renI
  split
  · rw [ren_len]; omega
  · simp
/-- a place of an order without a number twice -/
theorem idx_nodup {o : List Int} (h : o.Nodup) {k : Nat} (hk : k < o.length) {x : Int} (hx : o.getD k 0 = x) : idx o x = k := by
  refine idx_first hk (fun j hj e => ?_) hx
  have h1 : o[j]'(by omega) = o[k] := by
    have a : o.getD j 0 = o[j]'(by omega) := by simp [List.getD, show j < o.length by omega]
    have b : o.getD k 0 = o[k] := by simp [List.getD, hk]
    rw [← a, ← b, e, hx]
  exact (List.pairwise_iff_getElem.1 h) j k (by omega) hk hj h1
end Go.Proofs.Ytdkjafjphgcbjaa.renMath
end

section
/-
  PURE: rules and systems of rules, and what chapter 6 tells about them. A rule is a pair of lists, a system a list of arities and a list of rules. Conditions: none. By an AI agent.
-/
namespace Go.Proofs.Ytdkjafjphgcbjaa.ruleMath
open Go.Proofs.Ytdkjafjphgcbjaa.sig Go.Proofs.Ytdkjafjphgcbjaa.term Go.Proofs.Ytdkjafjphgcbjaa.termOk Go.Proofs.Ytdkjafjphgcbjaa.termFacts Go.Proofs.Ytdkjafjphgcbjaa.varsMath Go.Proofs.Ytdkjafjphgcbjaa.count Go.Proofs.Ytdkjafjphgcbjaa.linear Go.Proofs.Ytdkjafjphgcbjaa.renMath

abbrev Rl := List Int × List Int
/-- the head of a list of numbers -/
def hd (t : List Int) : Int := t.getD 0 0
/-- a variable that L lacks -/
def newB (l : List Int) (x : Int) : Bool := decide (x < 0 ∧ x ∉ l)
def ruleOkB (sg : List Int) (r : Rl) : Bool := termOkB sg r.1 && (termOkB sg r.2 && (!decide (hd r.1 < 0) && !r.2.any (newB r.1)))
def sysOkB (sg : List Int) (rs : List Rl) : Bool := sigOkB sg && (decide (rs.length ≤ 12) && rs.all (ruleOkB sg))

theorem rule_parts {sg : List Int} {r : Rl} (h : ruleOkB sg r = true) : termOkB sg r.1 = true ∧ termOkB sg r.2 = true ∧ 0 ≤ hd r.1 ∧ ∀ x, x ∈ r.2 → x < 0 → x ∈ r.1 := by
  unfold ruleOkB at h
  simp only [Bool.and_eq_true, Bool.not_eq_true', decide_eq_false_iff_not] at h
  refine ⟨h.1, h.2.1, by omega, fun x hx h0 => ?_⟩
  have h1 := h.2.2.2
  rw [List.any_eq_false] at h1
  have h2 := h1 x hx
  unfold newB at h2
  simp only [decide_eq_true_eq] at h2
  exact Classical.byContradiction fun hn => h2 ⟨h0, hn⟩
theorem sys_parts {sg : List Int} {rs : List Rl} (h : sysOkB sg rs = true) : sigOkB sg = true ∧ rs.length ≤ 12 ∧ ∀ r ∈ rs, ruleOkB sg r = true := by
  unfold sysOkB at h
  simp only [Bool.and_eq_true, decide_eq_true_eq, List.all_eq_true] at h
  exact ⟨h.1, h.2.1, h.2.2⟩
theorem sys_mk {sg : List Int} {rs : List Rl} (h1 : sigOkB sg = true) (h2 : rs.length ≤ 12) (h3 : ∀ r ∈ rs, ruleOkB sg r = true) : sysOkB sg rs = true := by
  unfold sysOkB
  simp only [Bool.and_eq_true, decide_eq_true_eq, List.all_eq_true]
  exact ⟨h1, h2, h3⟩
theorem sys_sig {sg : List Int} {rs : List Rl} (h : sigOkB sg = false) : sysOkB sg rs = false := by unfold sysOkB; rw [h]; rfl
theorem sys_long {sg : List Int} {rs : List Rl} {n : Nat} (hl : rs.length = n) (h : ¬ n ≤ 12) : sysOkB sg rs = false := by
  unfold sysOkB; rw [hl, decide_eq_false h]; simp
theorem rl_mem {rs : List Rl} {k : Nat} (hk : k < rs.length) : rs.getD k ([], []) ∈ rs := by
  have : rs.getD k ([], []) = rs[k] := by simp [List.getD, hk]
  rw [this]; exact List.getElem_mem hk
theorem sys_bad {sg : List Int} {rs : List Rl} {k : Nat} (hk : k < rs.length) (h : ruleOkB sg (rs.getD k ([], [])) = false) : sysOkB sg rs = false := by
  cases hs : sysOkB sg rs with
  | false => rfl
  | true => have := (sys_parts hs).2.2 _ (rl_mem hk); rw [h] at this; cases this
theorem all_rounds {rs : List Rl} {P : Rl → Prop} (h : ∀ j, j < rs.length → P (rs.getD j ([], []))) : ∀ r ∈ rs, P r := by
  intro r hr
  obtain ⟨i, hi, rfl⟩ := List.getElem_of_mem hr
  have := h i hi
  simpa [List.getD, hi] using this
theorem any_rounds {rs : List Rl} {f : Rl → Bool} (h : ∀ j, j < rs.length → f (rs.getD j ([], [])) = false) : rs.any f = false := by
  rw [List.any_eq_false]
  intro r hr
  rw [all_rounds (P := fun r => f r = false) h r hr]
  simp
theorem any_round {rs : List Rl} {f : Rl → Bool} {k : Nat} (hk : k < rs.length) (h : f (rs.getD k ([], [])) = true) : rs.any f = true := by
  rw [List.any_eq_true]; exact ⟨_, rl_mem hk, h⟩
theorem sys_good {sg : List Int} {rs : List Rl} (h1 : sigOkB sg = true) (h2 : rs.length ≤ 12) (h3 : ∀ j, j < rs.length → ruleOkB sg (rs.getD j ([], [])) = true) : sysOkB sg rs = true :=
  sys_mk h1 h2 (all_rounds h3)

/-! ### the same -/
def sameRB (a b : Rl) : Bool := decide (a = b)
def sameSB (sg sg' : List Int) (rs rs' : List Rl) : Bool := sysOkB sg rs && (decide (sg = sg') && decide (rs = rs'))
theorem same_sys {sg sg' : List Int} {rs rs' : List Rl} (h : sysOkB sg' rs' = false) : sameSB sg sg' rs rs' = false := by
  unfold sameSB
  cases h1 : sysOkB sg rs with
  | false => rfl
  | true =>
    rw [Bool.true_and]
    by_cases e1 : sg = sg'
    · by_cases e2 : rs = rs'
      · subst e1 e2; rw [h1] at h; cases h
      · rw [decide_eq_false e2]; simp
    · rw [decide_eq_false e1]; rfl
theorem lists_eq {rs rs' : List Rl} (hl : rs.length = rs'.length) (h : ∀ j, j < rs.length → rs.getD j ([], []) = rs'.getD j ([], [])) : rs = rs' :=
  List.ext_getElem hl fun j h1 h2 => by
    have := h j h1
    simpa [List.getD, h1, h2] using this

/-! ### the forms -/
def leftB (rs : List Rl) : Bool := !rs.any fun r => !linB r.1
def leftLinB (sg : List Int) (rs : List Rl) : Bool := sysOkB sg rs && leftB rs
def fallsB (r : Rl) : Bool := decide (hd r.2 < 0)
def collB (sg : List Int) (rs : List Rl) : Bool := sysOkB sg rs && rs.any fallsB
def moreB (r : Rl) (x : Int) : Bool := decide (x < 0 ∧ many r.1 x < many r.2 x)
def dblB (r : Rl) : Bool := r.2.any (moreB r)
def dupB (sg : List Int) (rs : List Rl) : Bool := sysOkB sg rs && rs.any dblB

/-! ### what is defined -/
def heads (rs : List Rl) : List Int := rs.map fun r => hd r.1
def defL (rs : List Rl) : List Int := (heads rs).foldl into []
def isDef (rs : List Rl) (x : Int) : Bool := rs.any fun r => decide (hd r.1 = x)
theorem isDef_mem {rs : List Rl} {x : Int} : isDef rs x = decide (x ∈ defL rs) := by
  unfold isDef defL
  rw [Bool.eq_iff_iff, List.any_eq_true, decide_eq_true_eq, fold_mem]
  unfold heads
  simp only [List.mem_map, decide_eq_true_eq, List.not_mem_nil, false_or]
theorem def_mem {rs : List Rl} {x : Int} : x ∈ defL rs ↔ ∃ r ∈ rs, hd r.1 = x := by
  unfold defL
  rw [fold_mem]
  unfold heads
  simp only [List.mem_map, List.not_mem_nil, false_or]
theorem def_len (rs : List Rl) : (defL rs).length ≤ rs.length := by
  have := fold_len (heads rs) []
  unfold heads at this
  simp only [List.length_map, List.length_nil, Nat.zero_add] at this
  exact this
theorem def_rises (rs : List Rl) : Rises (defL rs) := fold_rises List.Pairwise.nil
theorem def_take {rs : List Rl} {k : Nat} (hk : k < rs.length) : defL (rs.take (k + 1)) = into (defL (rs.take k)) (hd (rs.getD k ([], [])).1) := by
  unfold defL heads
  rw [List.take_succ_eq_append_getElem hk, List.map_append, List.foldl_append]
  simp [List.getD, hk]
/-- the numbers below n that keep to p -/
def symL (p : Int → Bool) : Nat → List Int
  | 0 => []
  | n + 1 => symL p n ++ (if p (n : Int) = true then [(n : Int)] else [])
theorem sym_mem {p : Int → Bool} {x : Int} : ∀ {n : Nat}, x ∈ symL p n ↔ (0 ≤ x ∧ x < (n : Int)) ∧ p x = true
  | 0 => by simp [symL]; omega
  | n + 1 => by
    rw [symL, List.mem_append, sym_mem]
    constructor
    · rintro (⟨⟨h1, h2⟩, h3⟩ | h)
      · exact ⟨⟨h1, by omega⟩, h3⟩
      · split at h
        · rename_i hp
          simp only [List.mem_singleton] at h
          subst h
          exact ⟨⟨by omega, by omega⟩, hp⟩
        · cases h
    · rintro ⟨⟨h1, h2⟩, h3⟩
      by_cases e : x = (n : Int)
      · subst e
        right
        rw [if_pos h3]
        simp
      · left
        exact ⟨⟨h1, by omega⟩, h3⟩
theorem sym_rises {p : Int → Bool} : ∀ n : Nat, Rises (symL p n)
  | 0 => List.Pairwise.nil
  | n + 1 => by
    rw [symL]
    refine List.pairwise_append.2 ⟨sym_rises n, ?_, fun a ha b hb => ?_⟩
    · split
      · exact List.pairwise_singleton _ _
      · exact List.Pairwise.nil
    · have h1 := (sym_mem.1 ha).1.2
      split at hb
      · simp only [List.mem_singleton] at hb
        omega
      · cases hb
theorem sym_len {p : Int → Bool} : ∀ n : Nat, (symL p n).length ≤ n
  | 0 => Nat.le_refl _
  | n + 1 => by
    rw [symL, List.length_append]
    have := sym_len (p := p) n
    split <;> simp <;> omega
/-- a symbol of a right term -/
theorem head_bd {sg t : List Int} (h : termOkB sg t = true) (h0 : 0 ≤ hd t) : hd t < (sg.length : Int) := by
  have h1 := term_ar h (j := 0) (by have := (term_len h).1; omega)
  unfold hd at h0 ⊢
  by_cases h2 : t.getD 0 0 < (sg.length : Int)
  · exact h2
  · rw [ar_no (by omega) (by omega)] at h1
    omega
theorem def_sym {sg : List Int} {rs : List Rl} (h : sysOkB sg rs = true) : defL rs = symL (isDef rs) sg.length := by
  refine rises_unique (def_rises rs) (sym_rises _) fun x => ?_
  rw [sym_mem, isDef_mem, decide_eq_true_eq]
  constructor
  · intro hx
    obtain ⟨r, hr, rfl⟩ := def_mem.1 hx
    have h1 := rule_parts ((sys_parts h).2.2 r hr)
    exact ⟨⟨h1.2.2.1, head_bd h1.1 h1.2.2.1⟩, hx⟩
  · exact fun h => h.2
def definedI (sg : List Int) (rs : List Rl) : List Int := if sysOkB sg rs = true then defL rs else []
def consI (sg : List Int) (rs : List Rl) : List Int := if sysOkB sg rs = true then symL (fun x => !isDef rs x) sg.length else []
/-- a defined symbol below the head -/
def nestB (rs : List Rl) (r : Rl) : Bool := (r.1.drop 1).any (isDef rs)
def consB (sg : List Int) (rs : List Rl) : Bool := sysOkB sg rs && !rs.any (nestB rs)
theorem parts_len {p : Int → Bool} : ∀ n : Nat, (symL p n).length + (symL (fun x => !p x) n).length = n
  | 0 => rfl
  | n + 1 => by
    have := parts_len (p := p) n
    rw [symL, symL, List.length_append, List.length_append]
    cases p (n : Int) <;> simp <;> omega

/-! ### a rule whose variables are renumbered in the order of L -/
def byL (o t : List Int) : List Int := t.map (ren o)
theorem byL_own (t : List Int) : byL (orderL t) t = renL t := rfl
theorem byL_len (o t : List Int) : (byL o t).length = t.length := by unfold byL; rw [List.length_map]
def renR (r : Rl) : Rl := (renL r.1, byL (orderL r.1) r.2)
def renRI (sg : List Int) (r : Rl) : Rl := if ruleOkB sg r = true then renR r else ([], [])
end Go.Proofs.Ytdkjafjphgcbjaa.ruleMath
end

section
/-
  CONTRACTS: spec.l1Has, l2Order, l2By, l2Renamed, Renamed; slices.Index. Conditions: the slices read as lists ('Seg'), at most 1048576 numbers. By an AI agent.
-/
namespace Go.Proofs.Ytdkjafjphgcbjaa.rename
open Go.RowKit Go.Proofs.Ytdkjafjphgcbjaa.base Go.Proofs.Ytdkjafjphgcbjaa.ints Go.Proofs.Ytdkjafjphgcbjaa.sig Go.Proofs.Ytdkjafjphgcbjaa.term Go.Proofs.Ytdkjafjphgcbjaa.termOk Go.Proofs.Ytdkjafjphgcbjaa.marks Go.Proofs.Ytdkjafjphgcbjaa.app Go.Proofs.Ytdkjafjphgcbjaa.sym Go.Proofs.Ytdkjafjphgcbjaa.segs Go.Proofs.Ytdkjafjphgcbjaa.termFacts Go.Proofs.Ytdkjafjphgcbjaa.varsMath Go.Proofs.Ytdkjafjphgcbjaa.varsOf Go.Proofs.Ytdkjafjphgcbjaa.renMath
set_option maxRecDepth 100000

theorem mem_of_get {t : List Int} {k : Nat} {x : Int} (hk : k < t.length) (hx : t.getD k 0 = x) : x ∈ t := by
  rw [← hx]
  simp [List.getD, hk]
theorem not_mem_of {t : List Int} {x : Int} (h : ∀ j, j < t.length → t.getD j 0 ≠ x) : x ∉ t := fun hx => by
  obtain ⟨j, hj, e⟩ := List.getElem_of_mem hx
  exact h j hj (by simp [List.getD, hj, e])

/-- the first k are other numbers -/
def HeadNo (n : Nat) (xs : List Int) (x : Int) (i : Value) : Prop := ∃ k : Nat, k ≤ n ∧ i = .int .i64 k ∧ ∀ j, j < k → xs.getD j 0 ≠ x
theorem headNo_step {n k : Nat} {xs : List Int} {x y : Int} (hk : k < n) (h : ∀ j, j < k → xs.getD j 0 ≠ x) (hy : Hid (xs.getD k 0 = y)) (hne : ¬ y = x) : HeadNo n xs x (.int .i64 ((k : Int) + 1)) :=
  ⟨k + 1, hk, by simp, fun j hj => by
    by_cases e : j = k
    · subst e; rw [hy.out]; exact hne
    · exact h j (by omega)⟩

set_option maxHeartbeats 1000000 in
theorem l1Has (A : Option Addr) (n c : Nat) (xs : List Int) (x : Int) (w : World) (h : Seg w w.heap.size A n xs) (hn : n ≤ 1048576) :
    Calls Try.prog 61 #[.slice A n c, .int .i64 x] w fun e w' => w = w' ∧ e = .returned (.bool (decide (x ∈ xs))) := by
  have HX := Lib.hid h.1
  go_enter Try.func61, Try.ntmps61
  go_wp2
  go_loop [5] (fun i => HeadNo n xs x i) (fun i => n - (intOf i).toNat)
  case atStart => exact ⟨0, Nat.zero_le _, rfl, fun j hj => absurd hj (Nat.not_lt_zero _)⟩
  case round =>
    obtain ⟨k, hk, rfl, hlow⟩ := hrel
    by_cases hlt : k < n
    · obtain ⟨b, off, y, rfl, -, hy, ey⟩ := h.spot hlt
      by_cases he : y = x
      · subst he
        have F := Lib.hid (show y ∈ xs from mem_of_get (by rw [HX.out]; exact hlt) ey.out)
        have e1 : (y == y) = true := by simp
        clear h ey hlow
        go_wp2
        go_ret
        exact ⟨rfl, by rw [decide_eq_true F.out]; rfl⟩
      · have S := Lib.hid (headNo_step hlt hlow ey he)
        have e1 : (y == x) = false := by simp [he]
        clear h ey hlow
        go_wp2
        go_round
        case rel => exact S.out
        case measure => simp [intOf]; omega
    · have F := Lib.hid (not_mem_of (t := xs) (x := x) (fun j hj => hlow j (by rw [HX.out] at hj; omega)))
      clear h hlow
      go_wp2
      go_ret
      exact ⟨rfl, by rw [decide_eq_false F.out]; rfl⟩

/-- what slices.Index answers -/
def indexI (xs : List Int) (x : Int) : Int := if x ∈ xs then (idx xs x : Int) else -1
set_option maxHeartbeats 1000000 in
theorem indexOf (A : Option Addr) (n c : Nat) (xs : List Int) (x : Int) (w : World) (h : Seg w w.heap.size A n xs) (hn : n ≤ 1048576) :
    Calls Try.prog 101 #[.slice A n c, .int .i64 x] w fun e w' => w = w' ∧ e = .returned (.int .i64 (indexI xs x)) := by
  have HX := Lib.hid h.1
  go_enter Try.func101, Try.ntmps101
  go_wp2
  go_loop [8] (fun i => HeadNo n xs x i) (fun i => n - (intOf i).toNat)
  case atStart => exact ⟨0, Nat.zero_le _, rfl, fun j hj => absurd hj (Nat.not_lt_zero _)⟩
  case round =>
    obtain ⟨k, hk, rfl, hlow⟩ := hrel
    by_cases hlt : k < n
    · obtain ⟨b, off, y, rfl, -, hy, ey⟩ := h.spot hlt
      by_cases he : y = x
      · subst he
        have F := Lib.hid (show indexI xs y = (k : Int) by
          have hkl : k < xs.length := by rw [HX.out]; exact hlt
          unfold indexI
          rw [if_pos (mem_of_get hkl ey.out), idx_first hkl hlow ey.out])
        have e1 : (y == y) = true := by simp
        clear h ey hlow
        go_wp2
        go_ret
        exact ⟨rfl, by rw [F.out]; rfl⟩
      · have S := Lib.hid (headNo_step hlt hlow ey he)
        have e1 : (x == y) = false := by simp; exact fun e => he e.symm
        clear h ey hlow
        go_wp2
        go_round
        case rel => exact S.out
        case measure => simp [intOf]; omega
    · have F := Lib.hid (show indexI xs x = -1 by unfold indexI; rw [if_neg (not_mem_of (fun j hj => hlow j (by rw [HX.out] at hj; omega)))])
      clear h hlow
      go_wp2
      go_ret
      exact ⟨rfl, by rw [F.out]; rfl⟩

/-- the head of l2Order's loop -/
def HeadOrd (w : World) (m : Nat) (t : List Int) (out i : Value) (wr : World) : Prop :=
  ∃ (k : Nat) (O : Option Addr) (on oc : Nat), k ≤ m ∧ i = .int .i64 k ∧ out = .slice O on oc ∧ Own wr w.heap.size (.slice O on oc) (orderL (t.take k)) ∧ Below w.heap.size w wr

set_option maxHeartbeats 2000000 in
theorem l2Order (A : Option Addr) (m c : Nat) (t : List Int) (w : World) (h : Seg w w.heap.size A m t) (hm : m ≤ 1048576) :
    Calls Try.prog 89 #[.slice A m c] w (AnsList w (orderL t)) := by
  have HL := Lib.hid h.1
  have S0 : HeadOrd w m t (.slice (some ⟨w.heap.size, 0, none⟩) 0 0) (.int .i64 0) (w.alloc (.cells #[] 2)) :=
    ⟨0, _, _, _, Nat.zero_le _, rfl, rfl, by simpa [orderL] using own_empty w w.heap.size (Nat.le_refl _), (Below.refl _ _).alloc (Nat.le_refl _) _⟩
  have HS0 := Lib.hid S0
  clear S0
  go_enter Try.func89, Try.ntmps89
  go_wp2_with fail
  go_loopw [3, 4] (fun out i wr => HeadOrd w m t out i wr) (fun _ i _ => m - (intOf i).toNat)
  case atStart => exact HS0.out
  case round =>
    obtain ⟨k, O, on, oc, hk, rfl, rfl, ho, hb⟩ := hrel
    clear HS0
    have hon : on ≤ m := by have h1 := Own.len ho; have h2 := order_len (t.take k); simp at h2; have h3 := HL.out; omega
    by_cases hlt : k < m
    · obtain ⟨b, off, x, rfl, hbb, hx, ex⟩ := h.spot hlt
      have hx1 : wr.cell? ⟨b, off + k, none⟩ = some (.int .i64 x) := (hb.cell (p := ⟨b, off + k, none⟩) hbb).trans hx
      have E := Lib.hid (order_take (t := t) (k := k) (by rw [HL.out]; exact hlt) ex.out)
      have hsz := hb.size
      clear hx h ex
      by_cases hneg : x < 0
      · have L := Lib.hid (l1Has O on oc _ x wr (Own.seg ho) (by omega))
        by_cases hin : x ∈ orderL (t.take k)
        · have R := Lib.hid (show extV (orderL (t.take k)) x = orderL (t.take k) by unfold extV ext; rw [if_pos hneg, if_pos hin])
          rw [decide_eq_true hin] at L
          have S : HeadOrd w m t (.slice O on oc) (.int .i64 ((k : Int) + 1)) wr := ⟨k + 1, O, on, oc, hlt, by simp, rfl, by rw [E.out, R.out]; exact ho, hb⟩
          replace S := Lib.hid S
          clear ho hb hin R E
          go_wp2_with fail
          refine L.out.mono ?_
          rintro e w' ⟨rfl, rfl⟩
          clear L
          go_wp2
          go_roundw
          case rel => exact S.out
          case measure => simp [intOf]; omega
        · have R := Lib.hid (show extV (orderL (t.take k)) x = orderL (t.take k) ++ [x] by unfold extV ext; rw [if_pos hneg, if_neg hin])
          rw [decide_eq_false hin] at L
          clear hin
          go_wp2_with fail
          refine L.out.mono ?_
          rintro e w' ⟨rfl, rfl⟩
          clear L
          go_wp2_with (at_builtin; refine app1 rfl _ _ rfl w.heap.size O on oc (orderL (t.take k)) rfl (Own.alloc ho _) wr.heap.size 1 x rfl ((Row.new _ _ _).cell 0) (by omega) (by simp; omega) ?_; intro O' oc' w2 ho2 b2)
          have S : HeadOrd w m t (.slice O' (on + 1) oc') (.int .i64 ((k : Int) + 1)) w2 := ⟨k + 1, O', on + 1, oc', hlt, by simp, rfl, by rw [E.out, R.out]; exact ho2, (hb.alloc hsz _).trans b2⟩
          replace S := Lib.hid S
          clear ho2 b2 ho hb R E
          go_wp2
          go_roundw
          case rel => exact S.out
          case measure => simp [intOf]; omega
      · have R := Lib.hid (show extV (orderL (t.take k)) x = orderL (t.take k) by unfold extV; rw [if_neg hneg])
        have S : HeadOrd w m t (.slice O on oc) (.int .i64 ((k : Int) + 1)) wr := ⟨k + 1, O, on, oc, hlt, by simp, rfl, by rw [E.out, R.out]; exact ho, hb⟩
        replace S := Lib.hid S
        have d1 : decide (x < 0) = false := by simp; omega
        clear ho hb R E
        go_wp2
        go_roundw
        case rel => exact S.out
        case measure => simp [intOf]; omega
    · have F : AnsList w (orderL t) (.returned (.slice O on oc)) wr := by
        rw [List.take_of_length_le (by rw [HL.out]; omega)] at ho
        exact ⟨O, on, oc, rfl, ho, hb⟩
      have HF := Lib.hid F
      clear F ho hb h
      go_wp2
      go_ret
      exact HF.out

/-- a number, when the first q places of the order have been looked at -/
def upTo (o : List Int) (x : Int) (q : Nat) : Int := if idx o x < q then -1 - (idx o x : Int) else x
/-- the head of the inner loop -/
def HeadIn (wr : World) (pn : Nat) (o : List Int) (x : Int) (n k : Value) (wi : World) : Prop := ∃ q d : Nat, q ≤ pn ∧ k = .int .i64 q ∧ n = .int .i64 (upTo o x q) ∧ wi = wr.drewN d
theorem upTo_yes {o : List Int} (hd : o.Nodup) {x : Int} {q : Nat} (hq : q < o.length) (h : o.getD q 0 = x) : upTo o x (q + 1) = -1 - (q : Int) := by
  unfold upTo
  rw [idx_nodup hd hq h, if_pos (by omega)]
theorem upTo_no {o : List Int} {x y : Int} {q : Nat} (hq : q < o.length) (h : o.getD q 0 = y) (hne : ¬ y = x) : upTo o x (q + 1) = upTo o x q := by
  unfold upTo
  have h1 : idx o x ≠ q := fun e => by
    by_cases hx : x ∈ o
    · have := idx_get hx
      rw [e, h] at this
      exact hne this
    · have := idx_not hx
      omega
  by_cases h2 : idx o x < q
  · rw [if_pos h2, if_pos (by omega)]
  · rw [if_neg h2, if_neg (by omega)]
/-- the head of the outer loop -/
def HeadBy (w : World) (m : Nat) (t o : List Int) (out i : Value) (wr : World) : Prop :=
  ∃ (k : Nat) (O : Option Addr) (on oc : Nat), k ≤ m ∧ i = .int .i64 k ∧ out = .slice O on oc ∧ Own wr w.heap.size (.slice O on oc) ((t.take k).map (ren o)) ∧ Below w.heap.size w wr

set_option maxHeartbeats 4000000 in
theorem l2By (P A : Option Addr) (pn pc m c : Nat) (o t : List Int) (w : World) (hp : Seg w w.heap.size P pn o) (h : Seg w w.heap.size A m t) (hpn : pn ≤ 1048576) (hm : m ≤ 1048576) (hd : o.Nodup) (ho : ∀ x ∈ t, x < 0 → x ∈ o) :
    Calls Try.prog 90 #[.slice P pn pc, .slice A m c] w (AnsList w (t.map (ren o))) := by
  have HL := Lib.hid h.1
  have HP := Lib.hid hp.1
  have HO := Lib.hid ho
  have HD := Lib.hid hd
  have S0 : HeadBy w m t o (.slice (some ⟨w.heap.size, 0, none⟩) 0 0) (.int .i64 0) (w.alloc (.cells #[] 2)) :=
    ⟨0, _, _, _, Nat.zero_le _, rfl, rfl, by simpa using own_empty w w.heap.size (Nat.le_refl _), (Below.refl _ _).alloc (Nat.le_refl _) _⟩
  have HS0 := Lib.hid S0
  clear S0 ho hd
  go_enter Try.func90, Try.ntmps90
  go_wp2_with fail
  go_loopw [5, 6] (fun out i wr => HeadBy w m t o out i wr) (fun _ i _ => m - (intOf i).toNat)
  case atStart => exact HS0.out
  case round =>
    obtain ⟨k, O, on, oc, hk, rfl, rfl, hown, hb⟩ := hrel
    clear HS0
    have hon : on ≤ m := by have h1 := Own.len hown; simp at h1; omega
    obtain ⟨wo, rfl⟩ : ∃ wo : World, wo = wr := ⟨_, rfl⟩
    by_cases hlt : k < m
    · obtain ⟨b, off, x, rfl, hbb, hx, ex⟩ := h.spot hlt
      have hx1 : wo.cell? ⟨b, off + k, none⟩ = some (.int .i64 x) := (hb.cell (p := ⟨b, off + k, none⟩) hbb).trans hx
      have hmem := mem_of_get (by rw [HL.out]; exact hlt) ex.out
      have E := Lib.hid (show (t.take (k + 1)).map (ren o) = (t.take k).map (ren o) ++ [ren o x] by rw [take_snoc (by rw [HL.out]; exact hlt) ex.out, List.map_append]; rfl)
      have hsz := hb.size
      have hpo := hp.below hb
      clear hx h ex
      by_cases hneg : x < 0
      · have hin := HO.out x hmem hneg
        have I0 : HeadIn wo pn o x (.int .i64 x) (.int .i64 0) wo := ⟨0, 0, Nat.zero_le _, rfl, by simp [upTo], rfl⟩
        have HI0 := Lib.hid I0
        have R := Lib.hid (show upTo o x pn = ren o x by unfold upTo ren; rw [if_pos hneg, if_pos (by rw [← HP.out]; exact idx_lt hin)])
        have REST := Lib.hid (fun (d : Nat) (O' : Option Addr) (oc' : Nat) (w2 : World) (ho2 : Own w2 w.heap.size (.slice O' (on + 1) oc') ((t.take k).map (ren o) ++ [ren o x])) (b2 : Below w.heap.size ((wo.drewN d).alloc (.cells #[.int .i64 (ren o x)] 2)) w2) =>
          (show HeadBy w m t o (.slice O' (on + 1) oc') (.int .i64 ((k : Int) + 1)) w2 from ⟨k + 1, O', on + 1, oc', hlt, by simp, rfl, by rw [E.out]; exact ho2, ((below_drewN hb d).alloc hsz _).trans b2⟩))
        clear I0 hin hmem hb
        go_wp2_with fail
        go_loopw [7, 8] (fun n q wi => HeadIn wo pn o x n q wi) (fun _ q _ => pn - (intOf q).toNat)
        case atStart => exact HI0.out
        case round =>
          obtain ⟨q, d, hq, rfl, rfl, hw⟩ := hrel
          clear HI0
          have hxr : wr.cell? ⟨b, off + k, none⟩ = some (.int .i64 x) := by rw [hw]; exact hx1
          have hpr : Seg wr w.heap.size P pn o := by rw [hw]; exact hpo
          have HW := Lib.hid hw
          clear hw
          by_cases hq2 : q < pn
          · obtain ⟨b2, off2, y, rfl, -, hy, ey⟩ := hpr.spot hq2
            by_cases he : y = x
            · have U := Lib.hid (upTo_yes HD.out (by rw [HP.out]; exact hq2) (ey.out.trans he))
              have S : ∀ nq : Nat, HeadIn wo pn o x (.int .i64 (-1 - (q : Int))) (.int .i64 ((q : Int) + 1)) (wr.drewN nq) := fun nq => ⟨q + 1, d + nq, hq2, by simp, by rw [U.out], by rw [HW.out, World.drewN_drewN]⟩
              replace S := Lib.hid S
              have e1 : (y == x) = true := by simp [he]
              clear hpr ey U hpo hp hx1 hown
              generalize upTo o x q = z at *
              go_wp2_with fail
              go_quiet (fail)
              go_wp2
              go_roundw
              case rel => exact S.out _
              case measure => simp [intOf]; omega
            · have U := Lib.hid (upTo_no (x := x) (by rw [HP.out]; exact hq2) ey.out he)
              have S : ∀ nq : Nat, HeadIn wo pn o x (.int .i64 (upTo o x q)) (.int .i64 ((q : Int) + 1)) (wr.drewN nq) := fun nq => ⟨q + 1, d + nq, hq2, by simp, by rw [U.out], by rw [HW.out, World.drewN_drewN]⟩
              replace S := Lib.hid S
              have e1 : (y == x) = false := by simp [he]
              clear hpr ey U hpo hp hx1 hown
              generalize upTo o x q = z at *
              go_wp2_with fail
              go_quiet (fail)
              go_wp2
              go_roundw
              case rel => exact S.out _
              case measure => simp [intOf]; omega
          · have hqp : q = pn := by omega
            subst hqp
            have hown2 : Own wr w.heap.size (.slice O on oc) ((t.take k).map (ren o)) := by rw [HW.out]; exact hown
            have hszr : w.heap.size ≤ wr.heap.size := by rw [HW.out]; exact hsz
            rw [R.out]
            clear hpr hpo hp hx1 hown
            generalize hz : ren o x = z at *
            go_wp2_with (at_builtin; refine app1 rfl _ _ rfl w.heap.size O on oc ((t.take k).map (ren o)) rfl (Own.alloc hown2 _) wr.heap.size 1 z rfl ((Row.new _ _ _).cell 0) (by omega) (by simp; omega) ?_; intro O' oc' w2 ho2 b2)
            have S := Lib.hid (REST.out d O' oc' w2 ho2 (by rw [← HW.out]; exact b2))
            clear ho2 b2 hown2 REST
            go_wp2
            go_roundw
            case rel => exact S.out
            case measure => simp [intOf]; omega
      · have RH := Lib.hid (show ren o x = x by unfold ren; rw [if_neg hneg])
        have d1 : decide (x < 0) = false := by simp; omega
        have REST := Lib.hid (fun (O' : Option Addr) (oc' : Nat) (w2 : World) (ho2 : Own w2 w.heap.size (.slice O' (on + 1) oc') ((t.take k).map (ren o) ++ [x])) (b2 : Below w.heap.size (wo.alloc (.cells #[.int .i64 x] 2)) w2) =>
          (show HeadBy w m t o (.slice O' (on + 1) oc') (.int .i64 ((k : Int) + 1)) w2 from ⟨k + 1, O', on + 1, oc', hlt, by simp, rfl, by rw [E.out, RH.out]; exact ho2, (hb.alloc hsz _).trans b2⟩))
        clear hmem hpo hb
        by_cases hp0 : 0 < pn
        all_goals
          go_wp2_with fail
          go_loopw [7, 8] (fun n q wi => n = .int .i64 x ∧ q = .int .i64 0 ∧ wi = wo) (fun _ _ _ => 0)
          case atStart => exact ⟨rfl, rfl, rfl⟩
          case round =>
            obtain ⟨rfl, rfl, hw⟩ := hrel
            subst hw
            go_wp2_with (at_builtin; refine app1 rfl _ _ rfl w.heap.size O on oc ((t.take k).map (ren o)) rfl (Own.alloc hown _) wr.heap.size 1 x rfl ((Row.new _ _ _).cell 0) (by omega) (by simp; omega) ?_; intro O' oc' w2 ho2 b2)
            have S := Lib.hid (REST.out O' oc' w2 ho2 b2)
            clear ho2 b2 hown REST
            go_wp2
            go_roundw
            case rel => exact S.out
            case measure => simp [intOf]; omega
    · have F : AnsList w (t.map (ren o)) (.returned (.slice O on oc)) wo := by
        rw [List.take_of_length_le (by rw [HL.out]; omega)] at hown
        exact ⟨O, on, oc, rfl, hown, hb⟩
      have HF := Lib.hid F
      clear F hown hb h hp
      go_wp2
      go_ret
      exact HF.out

set_option maxHeartbeats 1000000 in
theorem l2Renamed (A : Option Addr) (m c : Nat) (t : List Int) (w : World) (h : Seg w w.heap.size A m t) (hm : m ≤ 1048576) :
    Calls Try.prog 71 #[.slice A m c] w (AnsList w (renL t)) := by
  have L := Lib.hid (l2Order A m c t w h hm)
  have HL := Lib.hid h.1
  go_enter Try.func71, Try.ntmps71
  go_wp2_with fail
  refine L.out.mono ?_
  rintro e w1 ⟨P, pn, pc, rfl, o1, bb⟩
  have hpn : pn ≤ 1048576 := by rw [Own.len o1]; have := order_len t; have := HL.out; omega
  have L2 := Lib.hid (l2By P A pn pc m c (orderL t) t w1 (Own.seg o1) (h.next bb) hpn hm (order_nodup t) (fun x hx h0 => order_mem.2 ⟨hx, h0⟩))
  clear L o1 h
  go_wp2_with fail
  refine L2.out.mono ?_
  rintro e w2 ⟨Q, qn, qc, rfl, o2, b2⟩
  have F : AnsList w (renL t) (.returned (.slice Q qn qc)) w2 := ⟨Q, qn, qc, rfl, Own.lower o2 bb.size, next_trans bb b2⟩
  have HF := Lib.hid F
  clear F o2 b2 bb L2
  go_wp2
  go_ret
  exact HF.out

end Go.Proofs.Ytdkjafjphgcbjaa.rename
end

section
/-
  CONTRACTS: spec.SameTerm, slices.Equal at []int64 and impl.SameTerm answer whether two slices hold the same numbers. Conditions: the slices read as lists ('Seg'), at most 1048576 elements. By an AI agent.
-/
namespace Go.Proofs.Ytdkjafjphgcbjaa.same
open Go.RowKit Go.Proofs.Ytdkjafjphgcbjaa.base Go.Proofs.Ytdkjafjphgcbjaa.ints

set_option maxHeartbeats 400000 in
theorem specSame (A A' : Option Addr) (n m c c' : Nat) (xs ys : List Int) (w : World) (h : Seg w w.heap.size A n xs) (h' : Seg w w.heap.size A' m ys) (hn : n ≤ 1048576) (hm : m ≤ 1048576) :
    Calls Try.prog 70 #[.slice A n c, .slice A' m c'] w (AnsSame w xs ys) := by
  by_cases hnm : n = m
  · subst hnm
    go_enter Try.func70, Try.ntmps70
    go_wp2
    go_loopw [5] (fun i wr => HeadSame w n xs ys i wr) (fun i _ => n - (intOf i).toNat)
    case atStart => exact ⟨0, 0, Nat.zero_le _, rfl, rfl, fun j h => absurd h (Nat.not_lt_zero _)⟩
    case round =>
      obtain ⟨k, d, hk, rfl, rfl, hc⟩ := hrel
      by_cases hlt : k < n
      · obtain ⟨b, off, x, rfl, -, hx, ex⟩ := h.spot hlt
        obtain ⟨b', off', y, rfl, -, hx', ey⟩ := h'.spot hlt
        by_cases he : x = y
        · subst he
          have S := Lib.hid (alike_step (w := w) hlt hc ex ey)
          clear hc h h' ex ey
          go_wp2
          go_quiet (fail)
          go_wp2
          go_roundw
          case rel => exact S.out _
          case measure => simp [intOf]; omega
        · have S := Lib.hid (same_not (w := w) ex ey he)
          have hne : (x != y) = true := by simp [he]
          clear hc h h' ex ey he
          go_wp2
          go_quiet (fail)
          go_wp2
          go_ret
          rw [World.drewN_drewN]
          exact S.out _
      · have S := Lib.hid (same_yes (w := w) h.1 h'.1 hlt hc)
        clear hc h h'
        go_wp2
        go_ret
        exact S.out _
  · have S := Lib.hid (same_len (w := w) h.1 h'.1 hnm)
    have hne : ((n : Int) != (m : Int)) = true := by simp; omega
    clear h h'
    go_enter Try.func70, Try.ntmps70
    go_wp2
    go_ret
    exact S.out
set_option maxHeartbeats 400000 in
theorem libEqual (A A' : Option Addr) (n m c c' : Nat) (xs ys : List Int) (w : World) (h : Seg w w.heap.size A n xs) (h' : Seg w w.heap.size A' m ys) (hn : n ≤ 1048576) (hm : m ≤ 1048576) :
    Calls Try.prog 72 #[.slice A n c, .slice A' m c'] w (AnsSame w xs ys) := by
  by_cases hnm : n = m
  · subst hnm
    go_enter Try.func72, Try.ntmps72
    go_wp2
    go_loopw [13] (fun i wr => HeadSame w n xs ys i wr) (fun i _ => n - (intOf i).toNat)
    case atStart => exact ⟨0, 0, Nat.zero_le _, rfl, rfl, fun j h => absurd h (Nat.not_lt_zero _)⟩
    case round =>
      obtain ⟨k, d, hk, rfl, rfl, hc⟩ := hrel
      by_cases hlt : k < n
      · obtain ⟨b, off, x, rfl, -, hx, ex⟩ := h.spot hlt
        obtain ⟨b', off', y, rfl, -, hx', ey⟩ := h'.spot hlt
        by_cases he : x = y
        · subst he
          have S := Lib.hid (alike_step (w := w) hlt hc ex ey)
          clear hc h h' ex ey
          go_wp2
          go_quiet (fail)
          go_wp2
          go_roundw
          case rel => exact S.out _
          case measure => simp [intOf]; omega
        · have S := Lib.hid (same_not (w := w) ex ey he)
          have hne : (x != y) = true := by simp [he]
          clear hc h h' ex ey he
          go_wp2
          go_quiet (fail)
          go_wp2
          go_ret
          rw [World.drewN_drewN]
          exact S.out _
      · have S := Lib.hid (same_yes (w := w) h.1 h'.1 hlt hc)
        clear hc h h'
        go_wp2
        go_ret
        exact S.out _
  · have S := Lib.hid (same_len (w := w) h.1 h'.1 hnm)
    have hne : ((n : Int) != (m : Int)) = true := by simp; omega
    clear h h'
    go_enter Try.func72, Try.ntmps72
    go_wp2
    go_ret
    exact S.out

theorem implSame (A A' : Option Addr) (n m c c' : Nat) (xs ys : List Int) (w : World) (h : Seg w w.heap.size A n xs) (h' : Seg w w.heap.size A' m ys) (hn : n ≤ 1048576) (hm : m ≤ 1048576) :
    Calls Try.prog 106 #[.slice A n c, .slice A' m c'] w (AnsSame w xs ys) := by
  have L := Lib.hid (libEqual A A' n m c c' xs ys w h h' hn hm)
  clear h h'
  go_enter Try.func106, Try.ntmps106
  go_wp2_with fail
  refine L.out.mono ?_
  rintro e w' ⟨rfl, d, rfl⟩
  go_wp2
  go_ret
  exact ⟨rfl, d, rfl⟩
end Go.Proofs.Ytdkjafjphgcbjaa.same
end

section
/-
  CONTRACTS: spec.RuleOk, SystemOk. Conditions: the arguments read as data ('Rd'), at most 1048576 numbers. By an AI agent.
-/
namespace Go.Proofs.Ytdkjafjphgcbjaa.ruleSpec
open Go.RowKit Go.Proofs.Ytdkjafjphgcbjaa.renMath Go.Proofs.Ytdkjafjphgcbjaa.base Go.Proofs.Ytdkjafjphgcbjaa.ints Go.Proofs.Ytdkjafjphgcbjaa.sig Go.Proofs.Ytdkjafjphgcbjaa.term Go.Proofs.Ytdkjafjphgcbjaa.termOk Go.Proofs.Ytdkjafjphgcbjaa.marks Go.Proofs.Ytdkjafjphgcbjaa.app Go.Proofs.Ytdkjafjphgcbjaa.sym Go.Proofs.Ytdkjafjphgcbjaa.segs Go.Proofs.Ytdkjafjphgcbjaa.termFacts Go.Proofs.Ytdkjafjphgcbjaa.varsMath Go.Proofs.Ytdkjafjphgcbjaa.varsOf Go.Proofs.Ytdkjafjphgcbjaa.rename Go.Proofs.Ytdkjafjphgcbjaa.same Go.Proofs.Ytdkjafjphgcbjaa.count Go.Proofs.Ytdkjafjphgcbjaa.linear Go.Proofs.Ytdkjafjphgcbjaa.shape Go.Proofs.Ytdkjafjphgcbjaa.kindsR Go.Proofs.Ytdkjafjphgcbjaa.ruleMath
set_option maxRecDepth 100000

theorem box1 (w : World) (t : TypeId) (cs : Array Value) : ∃ W, W = w.alloc (.cells cs t) ∧ Row W w.heap.size t cs ∧ Below w.heap.size w W :=
  ⟨_, rfl, Row.new _ _ _, (Below.refl _ _).alloc (Nat.le_refl _) _⟩
theorem box2 (w : World) (t t' : TypeId) (cs cs' : Array Value) : ∃ W, W = (w.alloc (.cells cs t)).alloc (.cells cs' t') ∧ Row W w.heap.size t cs ∧ Row W (w.heap.size + 1) t' cs' ∧ Below w.heap.size w W := by
  refine ⟨_, rfl, ?_, ?_, ?_⟩
  · have := (Row.new w t cs).alloc (.cells cs' t'); simpa using this
  · have := Row.new (w.alloc (.cells cs t)) t' cs'; simpa using this
  · exact ((Below.refl _ _).alloc (Nat.le_refl _) _).alloc (by simp) _
theorem len_ints {xs : List Int} {n : Nat} (hl : xs.length = n) (h : sz sI xs ≤ 1048576) : n ≤ 1048576 := by rw [sz_ints, hl] at h; exact h
theorem rule_szs {d : Dat sRule} (h : sz sRule d ≤ 1048576) : sz sI d.1 ≤ 1048576 ∧ sz sI d.2 ≤ 1048576 := by
  simp only [sz] at h ⊢
  omega
theorem sys_szs {d : Dat sSystem} (h : sz sSystem d ≤ 1048576) : sz sI d.1 ≤ 1048576 ∧ sz sRuleS d.2 ≤ 1048576 := by
  have h : sz sI d.1 + sz sRuleS d.2 ≤ 1048576 := h
  omega
/-- a rule in memory -/
theorem rd_rule {w : World} {B : Nat} {l r : Value} {d : Dat sRule} (h : Rd w B sRule [l, r] d) (hz : sz sRule d ≤ 1048576) : ∃ A n c A' n' c', l = .slice A n c ∧ r = .slice A' n' c' ∧ Seg w B A n d.1 ∧ Cap A n c ∧ Seg w B A' n' d.2 ∧ Cap A' n' c' ∧ n ≤ 1048576 ∧ n' ≤ 1048576 := by
  obtain ⟨g0, g1⟩ := parts_Rule h
  obtain ⟨z0, z1⟩ := rule_szs hz
  obtain ⟨A, n, c, e, h1, h2⟩ := rd_ints.1 g0
  obtain ⟨A', n', c', e', h3, h4⟩ := rd_ints.1 g1
  exact ⟨A, n, c, A', n', c', e, e', h1, h2, h3, h4, len_ints h1.1 z0, len_ints h3.1 z1⟩

theorem defined_len {d : Dat sSystem} (h : sz sSystem d ≤ 1048576) : (definedI d.1 d.2).length ≤ 1048576 := by
  unfold definedI
  split
  · have h1 := def_len d.2
    have h2 := sz_len (sys_szs h).2
    exact Nat.le_trans h1 h2
  · simp
theorem cons_len {d : Dat sSystem} (h : sz sSystem d ≤ 1048576) : (consI d.1 d.2).length ≤ 1048576 := by
  unfold consI
  split
  · have h1 := sym_len (p := fun x => !isDef d.2 x) (List.length d.1)
    have h2 := (sys_szs h).1
    rw [sz_ints] at h2
    omega
  · simp
theorem renRI_len {sg : List Int} {d : Dat sRule} (h : sz sRule d ≤ 1048576) : sz sRule (renRI sg d) ≤ 1048576 := by
  unfold renRI
  split
  · show sz sI (renL d.1) + sz sI (byL (Go.Proofs.Ytdkjafjphgcbjaa.renMath.orderL d.1) d.2) ≤ 1048576
    have h2 : sz sI d.1 + sz sI d.2 ≤ 1048576 := h
    rw [sz_ints, sz_ints] at h2 ⊢
    rw [byL_len, Go.Proofs.Ytdkjafjphgcbjaa.renMath.ren_len]
    exact h2
  · show sz sI [] + sz sI [] ≤ 1048576
    rw [sz_ints]; simp
theorem rule_noL {sg : List Int} {d : Rl} (h : termOkB sg d.1 = false) : ruleOkB sg d = false := by unfold ruleOkB; rw [h]; rfl
theorem rule_noR {sg : List Int} {d : Rl} (h : termOkB sg d.2 = false) : ruleOkB sg d = false := by unfold ruleOkB; rw [h]; simp
theorem rule_var {sg : List Int} {d : Rl} (h : hd d.1 < 0) : ruleOkB sg d = false := by unfold ruleOkB; rw [decide_eq_true h]; simp
theorem rule_new {sg : List Int} {d : Rl} {x : Int} (hx : x ∈ d.2) (h0 : x < 0) (hn : x ∉ d.1) : ruleOkB sg d = false := by
  unfold ruleOkB
  have : d.2.any (newB d.1) = true := List.any_eq_true.2 ⟨x, hx, by unfold newB; exact decide_eq_true ⟨h0, hn⟩⟩
  rw [this]; simp
theorem rule_yes {sg : List Int} {d : Rl} {n : Nat} (h1 : termOkB sg d.1 = true) (h2 : termOkB sg d.2 = true) (h0 : ¬ hd d.1 < 0) (hl : d.2.length = n) (h : ∀ j, j < n → newB d.1 (d.2.getD j 0) = false) : ruleOkB sg d = true := by
  unfold ruleOkB
  have : d.2.any (newB d.1) = false := by
    rw [List.any_eq_false]
    intro x hx
    obtain ⟨i, hi, rfl⟩ := List.getElem_of_mem hx
    have := h i (by omega)
    have e : d.2.getD i 0 = d.2[i] := by simp [List.getD, hi]
    rw [e] at this; simp [this]
  rw [this, h1, h2, decide_eq_false h0]; rfl

def HeadRu (w : World) (T : TypeId) (cs : Array Value) (n : Nat) (d : Rl) (i : Value) (wr : World) : Prop :=
  ∃ k : Nat, k ≤ n ∧ i = .int .i64 k ∧ (∀ j, j < k → newB d.1 (d.2.getD j 0) = false) ∧ Row wr (w.heap.size + 1) T cs ∧ Below w.heap.size w wr
theorem headRu_step {w wr : World} {T : TypeId} {cs : Array Value} {n k : Nat} {d : Rl} {x : Int} (hk : k < n) (hlow : ∀ j, j < k → newB d.1 (d.2.getD j 0) = false) (ex : Hid (d.2.getD k 0 = x)) (h : ¬ x < 0 ∨ x ∈ d.1) (hr : Row wr (w.heap.size + 1) T cs) (hb : Below w.heap.size w wr) : HeadRu w T cs n d (.int .i64 ((k : Int) + 1)) wr :=
  ⟨k + 1, hk, by simp, fun j hj => by
    by_cases e : j = k
    · subst e
      rw [ex.out]; unfold newB
      exact decide_eq_false fun hh => by rcases h with h | h; exact h hh.1; exact hh.2 h
    · exact hlow j (by omega), hr, hb⟩

set_option maxHeartbeats 4000000 in
theorem specRuleOk (a l r : Value) (sg : List Int) (d : Dat sRule) (w : World) (h : Rd w w.heap.size sI [a] sg) (h' : Rd w w.heap.size sRule [l, r] d) (hz : sz sI sg ≤ 1048576) (hz' : sz sRule d ≤ 1048576) :
    Calls Try.prog 39 #[.agg #[a], .agg #[l, r]] w (AnsB w (ruleOkB sg d)) := by
  obtain ⟨A, n, c, rfl, hs, hc⟩ := rd_ints.1 h
  have hn := len_ints hs.1 hz
  obtain ⟨A1, n1, c1, A2, n2, c2, rfl, rfl, s1, k1, s2, k2, hn1, hn2⟩ := rd_rule h' hz'
  obtain ⟨W, hW, rA, rR, bel⟩ := box2 w 26 35 #[.slice A n c] #[.slice A1 n1 c1, .slice A2 n2 c2]
  have HW := Lib.hid hW
  have HL1 := Lib.hid s1.1
  have HL2 := Lib.hid s2.1
  have L1 := Lib.hid (specTermOk A A1 n c n1 c1 sg d.1 W (hs.next bel) (s1.next bel) hn hn1)
  have L2 := Lib.hid (fun (w1 : World) (bb : Below w.heap.size w w1) => specTermOk A A2 n c n2 c2 sg d.2 w1 (hs.next bb) (s2.next bb) hn hn2)
  clear hW h h' hz hz' hs hc k1 k2
  cases ok1 : termOkB sg d.1 with
  | false =>
    have HS := Lib.hid ok1
    clear ok1 s1 s2
    go_enter Try.func39, Try.ntmps39
    go_wp2_with fail
    rw [← HW.out]
    refine L1.out.mono ?_
    rintro e w1 ⟨he, bb⟩
    rw [HS.out] at he
    subst he
    have F := Lib.hid (ansB (b := ruleOkB sg d) (a := false) (by rw [rule_noL HS.out]) (next_trans bel bb))
    clear bb bel rA rR
    go_wp2
    go_ret
    exact F.out
  | true =>
    have hp1 := (term_len ok1).1
    rw [s1.1] at hp1
    obtain ⟨b, off, x, rfl, hbB, hx, ex⟩ := s1.spot (k := 0) (by omega)
    have HS := Lib.hid ok1
    have EX := Lib.hid (show hd d.1 = x from ex.out)
    have i0 : (0 : Int) < (n1 : Int) := by omega
    clear ok1 ex
    go_enter Try.func39, Try.ntmps39
    go_wp2_with fail
    rw [← HW.out]
    refine L1.out.mono ?_
    rintro e w1 ⟨he, bb⟩
    rw [HS.out] at he
    subst he
    replace rA := rA.next bb
    replace rR := rR.next bb
    replace bel := next_trans bel bb
    have cA : w1.cell? ⟨w.heap.size, 0, none⟩ = some (.slice A n c) := rA.cell 0
    have cR : w1.cell? ⟨w.heap.size + 1, 1, none⟩ = some (.slice A2 n2 c2) := rR.cell 1
    clear bb L1
    go_wp2_with fail
    refine (L2.out w1 bel).mono ?_
    cases ok2 : termOkB sg d.2 with
    | false =>
      have HS2 := Lib.hid ok2
      clear ok2
      rintro e w2 ⟨he, bb⟩
      rw [HS2.out] at he
      subst he
      have F := Lib.hid (ansB (b := ruleOkB sg d) (a := false) (by rw [rule_noR HS2.out]) (next_trans bel bb))
      clear bb bel rA rR cA cR s1 s2
      go_wp2
      go_ret
      exact F.out
    | true =>
      have HS2 := Lib.hid ok2
      clear ok2
      rintro e w2 ⟨he, bb⟩
      rw [HS2.out] at he
      subst he
      replace rR := rR.next bb
      replace bel := next_trans bel bb
      have cR0 : w2.cell? ⟨w.heap.size + 1, 0, none⟩ = some (.slice (some ⟨b, off, none⟩) n1 c1) := rR.cell 0
      have cX : w2.cell? ⟨b, off, none⟩ = some (.int .i64 x) := by have := (bel.cell (p := ⟨b, off + 0, none⟩) hbB).trans hx; simpa using this
      clear bb rA cA cR L2
      by_cases hneg : x < 0
      · have F := Lib.hid (ansB (b := ruleOkB sg d) (a := false) (by rw [rule_var (by rw [EX.out]; exact hneg)]) bel)
        have hdx : decide (x < 0) = true := decide_eq_true hneg
        clear bel rR s1 s2
        go_wp2
        go_ret
        exact F.out
      · have hdx : decide (x < 0) = false := decide_eq_false hneg
        have H0 : Hid (HeadRu w 35 #[.slice (some ⟨b, off, none⟩) n1 c1, .slice A2 n2 c2] n2 d (.int .i64 0) w2) := Lib.hid ⟨0, Nat.zero_le _, rfl, fun j hj => absurd hj (Nat.not_lt_zero _), rR, bel⟩
        clear bel rR
        go_wp2_with fail
        go_loopw [5] (fun i wr => HeadRu w 35 #[.slice (some ⟨b, off, none⟩) n1 c1, .slice A2 n2 c2] n2 d i wr) (fun i _ => n2 - (intOf i).toNat)
        case atStart => exact H0.out
        case round =>
          obtain ⟨k, hk, rfl, hlow, rr, hb⟩ := hrel
          have HLOW := Lib.hid hlow
          clear hlow H0
          have cR0 : wr.cell? ⟨w.heap.size + 1, 0, none⟩ = some (.slice (some ⟨b, off, none⟩) n1 c1) := rr.cell 0
          have cR1 : wr.cell? ⟨w.heap.size + 1, 1, none⟩ = some (.slice A2 n2 c2) := rr.cell 1
          by_cases hlt : k < n2
          · obtain ⟨b2, off2, y, rfl, hbB2, hy, ey⟩ := s2.spot hlt
            have hy1 : wr.cell? ⟨b2, off2 + k, none⟩ = some (.int .i64 y) := (hb.cell (p := ⟨b2, off2 + k, none⟩) hbB2).trans hy
            have hmem := mem_of_get (by rw [HL2.out]; exact hlt) ey.out
            have j0 : (0 : Int) ≤ (k : Int) := by omega
            have j1 : (k : Int) < (n2 : Int) := by omega
            have LH := Lib.hid (fun d' : Nat => l1Has (some ⟨b, off, none⟩) n1 c1 d.1 y (wr.drewN d') (((s1.next hb).drewN d')) hn1)
            by_cases hyn : y < 0
            · have hdy : decide (y < 0) = true := decide_eq_true hyn
              by_cases hin : y ∈ d.1
              · have E := Lib.hid (decide_eq_true hin)
                have S := Lib.hid (fun d' : Nat => headRu_step (w := w) (wr := wr.drewN d') hlt HLOW.out ey (.inr hin) (rr.drewN d') (below_drewN hb d'))
                clear s1 s2 rr hb hmem hin hy ey
                go_wp2_with fail
                go_quiet ((go_at_call 61; exact Calls.quiet_of_same (v := .bool true) ((LH.out _).mono fun _ _ ⟨h1, h2⟩ => ⟨by rw [h2, E.out], h1.symm⟩)))
                go_wp2
                go_roundw
                case rel => exact S.out _
                case measure => simp [intOf]; omega
              · have E := Lib.hid (decide_eq_false hin)
                have F := Lib.hid (fun d' : Nat => ansB (w' := wr.drewN d') (b := ruleOkB sg d) (a := false) (by rw [rule_new hmem hyn hin]) (below_drewN hb d'))
                clear s1 s2 rr hb hmem hin hy ey
                go_wp2_with fail
                go_quiet ((go_at_call 61; exact Calls.quiet_of_same (v := .bool false) ((LH.out _).mono fun _ _ ⟨h1, h2⟩ => ⟨by rw [h2, E.out], h1.symm⟩)))
                go_wp2
                go_ret
                exact F.out _
            · have S := Lib.hid (fun d' : Nat => headRu_step (w := w) (wr := wr.drewN d') hlt HLOW.out ey (.inl hyn) (rr.drewN d') (below_drewN hb d'))
              have hdy : decide (y < 0) = false := decide_eq_false hyn
              clear s1 s2 rr hb hmem hy ey
              go_wp2_with fail
              go_quiet (fail)
              go_wp2
              go_roundw
              case rel => exact S.out _
              case measure => simp [intOf]; omega
          · have F := Lib.hid (ansB (b := ruleOkB sg d) (a := true) (by rw [rule_yes HS.out HS2.out (by rw [EX.out]; omega) HL2.out (fun j hj => HLOW.out j (by omega))]) hb)
            clear s1 s2 rr hb
            go_wp2
            go_ret
            exact F.out

/-! ### spec.SystemOk -/
def HeadSy (w : World) (T : TypeId) (cs : Array Value) (n : Nat) (f : Rl → Bool) (rs : List Rl) (i : Value) (wr : World) : Prop :=
  ∃ k : Nat, k ≤ n ∧ i = .int .i64 k ∧ (∀ j, j < k → f (rs.getD j ([], [])) = true) ∧ Row wr w.heap.size T cs ∧ Below w.heap.size w wr
theorem headSy_step {w wr : World} {T : TypeId} {cs : Array Value} {n k : Nat} {f : Rl → Bool} {rs : List Rl} {x : Rl} (hk : k < n) (hlow : ∀ j, j < k → f (rs.getD j ([], [])) = true) (ex : Hid (rs.getD k ([], []) = x)) (h : f x = true) (hr : Row wr w.heap.size T cs) (hb : Below w.heap.size w wr) : HeadSy w T cs n f rs (.int .i64 ((k : Int) + 1)) wr :=
  ⟨k + 1, hk, by simp, fun j hj => by
    by_cases e : j = k
    · subst e; rw [ex.out]; exact h
    · exact hlow j (by omega), hr, hb⟩

/-- a system in memory: the arities, the rules -/
theorem rd_sys {w : World} {B : Nat} {a v : Value} {d : Dat sSystem} (h : Rd w B sSystem [a, v] d) (hz : sz sSystem d ≤ 1048576) : ∃ A n c A' n' c', a = .slice A n c ∧ v = .slice A' n' c' ∧ Seg w B A n d.1 ∧ Cap A n c ∧ Cap A' n' c' ∧ d.2.length = n' ∧ n ≤ 1048576 ∧ n' ≤ 1048576 ∧ Rd w B sRuleS [.slice A' n' c'] d.2 ∧ Rd w B sI [.slice A n c] d.1 ∧ (∀ j, j < n' → sz sRule (d.2.getD j ([], [])) ≤ 1048576) := by
  obtain ⟨g0, g1⟩ := parts_System h
  obtain ⟨z0, z1⟩ := sys_szs hz
  obtain ⟨A, n, c, e, h1, h2⟩ := rd_ints.1 g0
  obtain ⟨A', c', e', h3⟩ := g1.slice
  subst e e'
  exact ⟨A, n, c, A', d.2.length, c', rfl, rfl, h1, h2, h3, rfl, len_ints h1.1 z0, sz_len z1, g1, g0, fun j hj => sz_each z1 hj⟩
/-- rule k of a slice of rules -/
theorem rd_at {w wr : World} {B : Nat} {A : Option Addr} {n c : Nat} {rs : List Rl} {k : Nat} (h : Rd w B sRuleS [.slice A n c] rs) (hb : Below B w wr) (hl : rs.length = n) (hk : k < n) : ∃ b off l r x, A = some ⟨b, off, none⟩ ∧ b < B ∧ Hid (rs.getD k ([], []) = x) ∧ wr.cell? ⟨b, off + k * 2, none⟩ = some l ∧ wr.cell? ⟨b, off + k * 2 + 1, none⟩ = some r ∧ Rd wr B sRule [l, r] x := by
  obtain ⟨b, off, n2, c2, es, ev, -, -, hbB, hel, hp, hr⟩ := h.elem (j := k) (by omega)
  injection ev with e1 e2 e3
  subst e1 e2 e3
  obtain ⟨v0, v1, rfl⟩ := cells_Rule hr
  have hpw := hp.keep (w' := wr) (fun p hp => hb.cell (p := p) (by rw [hp]; exact hbB))
  exact ⟨b, off, v0, v1, _, rfl, hbB, Lib.hid rfl, hpw 0 (by simp), hpw 1 (by simp), hr.below hb⟩

set_option maxHeartbeats 4000000 in
theorem specSystemOk (a v : Value) (d : Dat sSystem) (w : World) (h : Rd w w.heap.size sSystem [a, v] d) (hz : sz sSystem d ≤ 1048576) :
    Calls Try.prog 23 #[.agg #[a, v]] w (AnsB w (sysOkB d.1 d.2)) := by
  have hzs := Lib.hid (sys_szs hz)
  obtain ⟨A, n, c, A', m, c', rfl, rfl, hs, hc, hc', hm, hn, hm1, hrs, hsg, hE⟩ := rd_sys h hz
  obtain ⟨W, hW, rA, bel⟩ := box1 w 29 #[.slice A n c, .slice A' m c']
  have HW := Lib.hid hW
  have HM := Lib.hid hm
  have HE := Lib.hid hE
  have HR := Lib.hid hrs
  have L1 := Lib.hid (specSigOk A n c d.1 W (hs.next bel) hn)
  have LR := Lib.hid (fun (w1 : World) (l r : Value) (x : Dat sRule) (bb : Below w.heap.size w w1) (hx : Rd w1 w1.heap.size sRule [l, r] x) (hzx : sz sRule x ≤ 1048576) => specRuleOk (.slice A n c) l r d.1 x w1 (hsg.next bb) hx hzs.out.1 hzx)
  clear hW h hz hs hc hc' hm hE hrs hsg
  cases ok1 : sigOkB d.1 with
  | false =>
    have HS := Lib.hid ok1
    clear ok1
    go_enter Try.func23, Try.ntmps23
    go_wp2_with fail
    rw [← HW.out]
    refine L1.out.mono ?_
    rintro e w1 ⟨he, bb⟩
    rw [HS.out] at he
    subst he
    have F := Lib.hid (ansB (b := sysOkB d.1 d.2) (a := false) (by rw [sys_sig HS.out]) (next_trans bel bb))
    clear bb bel rA
    go_wp2
    go_ret
    exact F.out
  | true =>
    have HS := Lib.hid ok1
    clear ok1
    go_enter Try.func23, Try.ntmps23
    go_wp2_with fail
    rw [← HW.out]
    refine L1.out.mono ?_
    rintro e w1 ⟨he, bb⟩
    rw [HS.out] at he
    subst he
    replace rA := rA.next bb
    replace bel := next_trans bel bb
    have cR : w1.cell? ⟨w.heap.size, 1, none⟩ = some (.slice A' m c') := rA.cell 1
    clear bb L1
    by_cases h12 : m ≤ 12
    · have H0 : Hid (HeadSy w 29 #[.slice A n c, .slice A' m c'] m (ruleOkB d.1) d.2 (.int .i64 0) w1) := Lib.hid ⟨0, Nat.zero_le _, rfl, fun j hj => absurd hj (Nat.not_lt_zero _), rA, bel⟩
      clear rA bel
      go_wp2_with fail
      go_loopw [3] (fun i wr => HeadSy w 29 #[.slice A n c, .slice A' m c'] m (ruleOkB d.1) d.2 i wr) (fun i _ => m - (intOf i).toNat)
      case atStart => exact H0.out
      case round =>
        obtain ⟨k, hk, rfl, hlow, rr, hb⟩ := hrel
        have HLOW := Lib.hid hlow
        clear hlow H0 cR
        by_cases hlt : k < m
        · obtain ⟨b, off, l, r, x, rfl, hbB, ex, hc0, hc1, hx⟩ := rd_at HR.out hb HM.out hlt
          have cA : wr.cell? ⟨w.heap.size, 0, none⟩ = some (.slice A n c) := rr.cell 0
          have cR : wr.cell? ⟨w.heap.size, 1, none⟩ = some (.slice (some ⟨b, off, none⟩) m c') := rr.cell 1
          have hzx : sz sRule x ≤ 1048576 := by have := HE.out k hlt; rw [ex.out] at this; exact this
          have L := Lib.hid (LR.out wr.drew l r x hb.drew ((hx.more hb.size).keep (fun _ _ => rfl)) hzx)
          have i0 : (0 : Int) ≤ (k : Int) := by omega
          have i1 : (k : Int) < (m : Int) := by omega
          have hbr : b < wr.drew.heap.size := Nat.lt_of_lt_of_le hbB hb.size
          have rd := rr.drew
          have hbd := hb.drew
          clear hx rr hb hzx
          cases ok : ruleOkB d.1 x with
          | false =>
            have HO := Lib.hid ok
            clear ok
            have BAD := Lib.hid (show sysOkB d.1 d.2 = false from sys_bad (k := k) (by rw [HM.out]; exact hlt) (by rw [ex.out]; exact HO.out))
            have bA := rd.lt
            go_wp2_with fail
            go_region_held3 (fun w' => w'.cell? ⟨w.heap.size, 0, none⟩ = some (.slice A n c) ∧ w'.cell? ⟨w.heap.size, 1, none⟩ = some (.slice (some ⟨b, off, none⟩) m c') ∧ w'.cell? ⟨b, off + k * 2, none⟩ = some l ∧ w'.cell? ⟨b, off + k * 2 + 1, none⟩ = some r)
              (go_keep)
              (first
                | (go_at_call 39; refine L.out.mono ?_; rintro e w2 ⟨he, bb⟩; rw [HO.out] at he; subst he; have c1 : w2.cell? ⟨w.heap.size, 0, none⟩ = some (.slice A n c) := (rd.next bb).cell 0; have c2 : w2.cell? ⟨w.heap.size, 1, none⟩ = some (.slice (some ⟨b, off, none⟩) m c') := (rd.next bb).cell 1; have c3 := (bb.cell (p := ⟨b, off + k * 2, none⟩) hbr).trans hc0; have c4 := (bb.cell (p := ⟨b, off + k * 2 + 1, none⟩) hbr).trans hc1))
            have F := Lib.hid (ansB (b := sysOkB d.1 d.2) (a := false) BAD.out.symm (next_trans hbd bb))
            clear bb rd hbd L c1 c2 c3 c4 cA cR hc0 hc1
            go_wp2
            go_ret
            exact F.out
          | true =>
            have HO := Lib.hid ok
            clear ok
            have bA := rd.lt
            go_wp2_with fail
            go_region_held3 (fun w' => w'.cell? ⟨w.heap.size, 0, none⟩ = some (.slice A n c) ∧ w'.cell? ⟨w.heap.size, 1, none⟩ = some (.slice (some ⟨b, off, none⟩) m c') ∧ w'.cell? ⟨b, off + k * 2, none⟩ = some l ∧ w'.cell? ⟨b, off + k * 2 + 1, none⟩ = some r)
              (go_keep)
              (first
                | (go_at_call 39; refine L.out.mono ?_; rintro e w2 ⟨he, bb⟩; rw [HO.out] at he; subst he; have c1 : w2.cell? ⟨w.heap.size, 0, none⟩ = some (.slice A n c) := (rd.next bb).cell 0; have c2 : w2.cell? ⟨w.heap.size, 1, none⟩ = some (.slice (some ⟨b, off, none⟩) m c') := (rd.next bb).cell 1; have c3 := (bb.cell (p := ⟨b, off + k * 2, none⟩) hbr).trans hc0; have c4 := (bb.cell (p := ⟨b, off + k * 2 + 1, none⟩) hbr).trans hc1))
            have F := Lib.hid (headSy_step (f := ruleOkB d.1) (w := w) hlt HLOW.out ex HO.out (rd.next bb) (next_trans hbd bb))
            clear bb rd hbd L c1 c2 c3 c4 cA cR hc0 hc1
            go_wp2
            go_roundw
            case rel => exact F.out
            case measure => simp [intOf]; omega
        · have cR : wr.cell? ⟨w.heap.size, 1, none⟩ = some (.slice A' m c') := rr.cell 1
          have F := Lib.hid (ansB (b := sysOkB d.1 d.2) (a := true) (by rw [sys_good HS.out (by rw [HM.out]; exact h12) (fun j hj => HLOW.out j (by rw [HM.out] at hj; omega))]) hb)
          clear rr hb
          go_wp2
          go_ret
          exact F.out
    · have i1 : (12 : Int) < (m : Int) := by omega
      have F := Lib.hid (ansB (b := sysOkB d.1 d.2) (a := false) (by rw [sys_long HM.out h12]) bel)
      clear bel rA
      go_wp2
      go_ret
      exact F.out
end Go.Proofs.Ytdkjafjphgcbjaa.ruleSpec
end

section
/-
  CONTRACTS: slices.IndexFunc, slices.ContainsFunc over whatever test. Conditions: the slice reads as data ("Rd"), at most 1048576 elements. Written by a program of mine (mkany.py). By an AI agent.
-/
namespace Go.Proofs.Ytdkjafjphgcbjaa.anyR
open Go.RowKit Go.Proofs.Ytdkjafjphgcbjaa.base Go.Proofs.Ytdkjafjphgcbjaa.ints Go.Proofs.Ytdkjafjphgcbjaa.sig Go.Proofs.Ytdkjafjphgcbjaa.segs Go.Proofs.Ytdkjafjphgcbjaa.varsOf Go.Proofs.Ytdkjafjphgcbjaa.shape Go.Proofs.Ytdkjafjphgcbjaa.kindsR Go.Proofs.Ytdkjafjphgcbjaa.ruleMath
set_option maxRecDepth 100000

theorem any_of {α : Type} [Inhabited α] {f : α → Bool} {xs : List α} {k : Nat} {x z : α} (hk : k < xs.length) (ex : xs.getD k z = x) (h : f x = true) : xs.any f = true := by
  rw [List.any_eq_true]
  refine ⟨xs[k], List.getElem_mem hk, ?_⟩
  have : xs.getD k z = xs[k] := by simp [List.getD, hk]
  rw [← this, ex]; exact h
theorem none_of {α : Type} {f : α → Bool} {xs : List α} {z : α} (h : ∀ j, j < xs.length → f (xs.getD j z) = false) : xs.any f = false := by
  rw [List.any_eq_false]
  intro x hx
  obtain ⟨i, hi, rfl⟩ := List.getElem_of_mem hx
  have := h i hi
  simpa [List.getD, hi] using this
theorem mem_at {α : Type} {xs : List α} {k : Nat} {x z : α} (hk : k < xs.length) (ex : xs.getD k z = x) : x ∈ xs := by
  have : xs.getD k z = xs[k] := by simp [List.getD, hk]
  rw [← ex, this]; exact List.getElem_mem hk

/-- function g tests f on what lies in xs, as long as what lies in w lies -/
def TestsI (g : Nat) (fa lb : Array Value) (w : World) (xs : List Int) (f : Int → Bool) : Prop := ∀ (W : World) (x : Int), Below w.heap.size w W → x ∈ xs → Calls Try.prog g (fa ++ #[.int .i64 x] ++ lb) W (AnsB W (f x))
def AnsIxI (w : World) (f : Int → Bool) (xs : List Int) (e : Ending) (w' : World) : Prop := ∃ z : Int, e = .returned (.int .i64 z) ∧ -1 ≤ z ∧ z ≤ 1048576 ∧ decide (0 ≤ z) = xs.any f ∧ Below w.heap.size w w'
def HeadIxI (w : World) (n : Nat) (f : Int → Bool) (xs : List Int) (i : Value) (wr : World) : Prop := ∃ k : Nat, k ≤ n ∧ i = .int .i64 k ∧ (∀ j, j < k → f (xs.getD j 0) = false) ∧ Below w.heap.size w wr

set_option maxHeartbeats 2000000 in
theorem indexFuncI (g : Nat) (fa lb : Array Value) (eg : ∀ args w, (callFunc g args).run Try.prog w = .ok (.enter g args) w) (f : Int → Bool) (A : Option Addr) (n c : Nat) (xs : List Int) (w : World) (hT : TestsI g fa lb w xs f)
    (h : Rd w w.heap.size sI [.slice A n c] xs) (hl : xs.length = n) (hn : n ≤ 1048576) :
    Calls Try.prog 104 #[.slice A n c, .func (.func g) fa lb] w (AnsIxI w f xs) := by
  have HL := Lib.hid hl
  have HK := Lib.hid hT
  have HR := Lib.hid h
  have HH : Hid (HeadIxI w n f xs (.int .i64 0) w) := Lib.hid ⟨0, Nat.zero_le _, rfl, fun j hj => absurd hj (Nat.not_lt_zero _), Below.refl _ _⟩
  clear hT h hl
  go_enter Try.func104, Try.ntmps104
  go_wp2_with fail
  go_loopw [8] (fun i wr => HeadIxI w n f xs i wr) (fun i _ => n - (intOf i).toNat)
  case atStart => exact HH.out
  case round =>
    obtain ⟨k, hk, rfl, hlow, hb⟩ := hrel
    have HLOW := Lib.hid hlow
    clear hlow HH
    by_cases hlt : k < n
    · have hkD : k < xs.length := by rw [HL.out]; exact hlt
      obtain ⟨b, off, x, rfl, hbB, hx0, ex⟩ := HR.out.seg.spot hlt
      have hx : wr.cell? ⟨b, off + k, none⟩ = some (.int .i64 x) := (hb.cell (p := ⟨b, off + k, none⟩) hbB).trans hx0
      have hcall := HK.out wr x hb (mem_at hkD ex.out)
      obtain ⟨v, hv⟩ : ∃ v, f x = v := ⟨_, rfl⟩
      rw [hv] at hcall
      have HV := Lib.hid hv
      have HC := Lib.hid hcall
      have i0 : (0 : Int) ≤ (k : Int) := by omega
      have i1 : (k : Int) < (n : Int) := by omega
      clear hv hcall
      cases v with
      | true =>
        go_wp2_with (first
          | (go_at_fn g; refine HC.out.mono ?_; rintro e w1 ⟨rfl, bb⟩))
        have F : AnsIxI w f xs (.returned (.int .i64 (k : Int))) w1 := ⟨k, rfl, by omega, by omega, by rw [decide_eq_true (by omega)]; exact (any_of hkD ex.out HV.out).symm, next_trans hb bb⟩
        have HF := Lib.hid F
        clear F bb hb HC
        go_wp2
        go_ret
        exact HF.out
      | false =>
        go_wp2_with (first
          | (go_at_fn g; refine HC.out.mono ?_; rintro e w1 ⟨rfl, bb⟩))
        have S1 : HeadIxI w n f xs (.int .i64 ((k : Int) + 1)) w1 := ⟨k + 1, hlt, by simp, fun j hj => by
          by_cases e : j = k
          · rw [e, ex.out]; exact HV.out
          · exact HLOW.out j (by omega), next_trans hb bb⟩
        have HS1 := Lib.hid S1
        clear S1 bb hb HC
        go_wp2
        go_roundw
        case rel => exact HS1.out
        case measure => simp [intOf]; omega
    · have F : AnsIxI w f xs (.returned (.int .i64 (-1))) wr := ⟨-1, rfl, by omega, by omega, (none_of (fun j hj => HLOW.out j (by rw [HL.out] at hj; omega))).symm, hb⟩
      have HF := Lib.hid F
      clear F hb
      go_wp2
      go_ret
      exact HF.out
theorem containsFuncI (g : Nat) (fa lb : Array Value) (eg : ∀ args w, (callFunc g args).run Try.prog w = .ok (.enter g args) w) (f : Int → Bool) (A : Option Addr) (n c : Nat) (xs : List Int) (w : World) (hT : TestsI g fa lb w xs f)
    (h : Rd w w.heap.size sI [.slice A n c] xs) (hl : xs.length = n) (hn : n ≤ 1048576) :
    Calls Try.prog 68 #[.slice A n c, .func (.func g) fa lb] w (AnsB w (xs.any f)) := by
  have L := Lib.hid (indexFuncI g fa lb eg f A n c xs w hT h hl hn)
  clear h hl hT
  go_enter Try.func68, Try.ntmps68
  go_wp2_with fail
  refine L.out.mono ?_
  rintro e w' ⟨z, rfl, h1, h2, hz, bb⟩
  have HZ := Lib.hid hz
  have HB := Lib.hid bb
  clear hz L bb
  go_wp2
  go_ret
  exact ⟨by rw [← HZ.out]; rfl, HB.out⟩

/-- function g tests f on what lies in xs, as long as what lies in w lies -/
def TestsRule (g : Nat) (fa lb : Array Value) (w : World) (xs : List (Dat sRule)) (f : Dat sRule → Bool) : Prop := ∀ (W : World) (l r : Value) (x : Dat sRule), Below w.heap.size w W → x ∈ xs → Rd W W.heap.size sRule [l, r] x → Calls Try.prog g (fa ++ #[.agg #[l, r]] ++ lb) W (AnsB W (f x))
def AnsIxRule (w : World) (f : Dat sRule → Bool) (xs : List (Dat sRule)) (e : Ending) (w' : World) : Prop := ∃ z : Int, e = .returned (.int .i64 z) ∧ -1 ≤ z ∧ z ≤ 1048576 ∧ decide (0 ≤ z) = xs.any f ∧ Below w.heap.size w w'
def HeadIxRule (w : World) (n : Nat) (f : Dat sRule → Bool) (xs : List (Dat sRule)) (i : Value) (wr : World) : Prop := ∃ k : Nat, k ≤ n ∧ i = .int .i64 k ∧ (∀ j, j < k → f (xs.getD j (dft sRule)) = false) ∧ Below w.heap.size w wr

set_option maxHeartbeats 2000000 in
theorem indexFuncRule (g : Nat) (fa lb : Array Value) (eg : ∀ args w, (callFunc g args).run Try.prog w = .ok (.enter g args) w) (f : Dat sRule → Bool) (A : Option Addr) (n c : Nat) (xs : List (Dat sRule)) (w : World) (hT : TestsRule g fa lb w xs f)
    (h : Rd w w.heap.size sRuleS [.slice A n c] xs) (hl : xs.length = n) (hn : n ≤ 1048576) :
    Calls Try.prog 123 #[.slice A n c, .func (.func g) fa lb] w (AnsIxRule w f xs) := by
  have HL := Lib.hid hl
  have HK := Lib.hid hT
  have HR := Lib.hid h
  have HH : Hid (HeadIxRule w n f xs (.int .i64 0) w) := Lib.hid ⟨0, Nat.zero_le _, rfl, fun j hj => absurd hj (Nat.not_lt_zero _), Below.refl _ _⟩
  clear hT h hl
  go_enter Try.func123, Try.ntmps123
  go_wp2_with fail
  go_loopw [8] (fun i wr => HeadIxRule w n f xs i wr) (fun i _ => n - (intOf i).toNat)
  case atStart => exact HH.out
  case round =>
    obtain ⟨k, hk, rfl, hlow, hb⟩ := hrel
    have HLOW := Lib.hid hlow
    clear hlow HH
    by_cases hlt : k < n
    · have hkD : k < xs.length := by rw [HL.out]; exact hlt
      obtain ⟨b, off, n2, c2, es, ev, -, -, hbB, hel, hp, hr⟩ := HR.out.elem hkD
      injection ev with e1 e2 e3
      subst e1 e2 e3
      obtain ⟨l, r, rfl⟩ := cells_Rule hr
      have hpw := hp.keep (w' := wr) (fun p hp => hb.cell (p := p) (by rw [hp]; exact hbB))
      have c0 : wr.cell? ⟨b, off + k * 2, none⟩ = some l := hpw 0 (by simp)
      have c1 : wr.cell? ⟨b, off + k * 2 + 1, none⟩ = some r := hpw 1 (by simp)
      obtain ⟨x, hx⟩ : ∃ x, xs.getD k (dft sRule) = x := ⟨_, rfl⟩
      have ex := Lib.hid hx
      rw [hx] at hr
      have hcall := HK.out wr l r x hb (mem_at hkD hx) ((hr.below hb).more hb.size)
      clear hpw hp hel hr
      clear hx
      obtain ⟨v, hv⟩ : ∃ v, f x = v := ⟨_, rfl⟩
      rw [hv] at hcall
      have HV := Lib.hid hv
      have HC := Lib.hid hcall
      have i0 : (0 : Int) ≤ (k : Int) := by omega
      have i1 : (k : Int) < (n : Int) := by omega
      clear hv hcall
      cases v with
      | true =>
        go_wp2_with (first
          | (go_at_fn g; refine HC.out.mono ?_; rintro e w1 ⟨rfl, bb⟩))
        have F : AnsIxRule w f xs (.returned (.int .i64 (k : Int))) w1 := ⟨k, rfl, by omega, by omega, by rw [decide_eq_true (by omega)]; exact (any_of hkD ex.out HV.out).symm, next_trans hb bb⟩
        have HF := Lib.hid F
        clear F bb hb HC
        go_wp2
        go_ret
        exact HF.out
      | false =>
        go_wp2_with (first
          | (go_at_fn g; refine HC.out.mono ?_; rintro e w1 ⟨rfl, bb⟩))
        have S1 : HeadIxRule w n f xs (.int .i64 ((k : Int) + 1)) w1 := ⟨k + 1, hlt, by simp, fun j hj => by
          by_cases e : j = k
          · rw [e, ex.out]; exact HV.out
          · exact HLOW.out j (by omega), next_trans hb bb⟩
        have HS1 := Lib.hid S1
        clear S1 bb hb HC
        go_wp2
        go_roundw
        case rel => exact HS1.out
        case measure => simp [intOf]; omega
    · have F : AnsIxRule w f xs (.returned (.int .i64 (-1))) wr := ⟨-1, rfl, by omega, by omega, (none_of (fun j hj => HLOW.out j (by rw [HL.out] at hj; omega))).symm, hb⟩
      have HF := Lib.hid F
      clear F hb
      go_wp2
      go_ret
      exact HF.out
theorem containsFuncRule (g : Nat) (fa lb : Array Value) (eg : ∀ args w, (callFunc g args).run Try.prog w = .ok (.enter g args) w) (f : Dat sRule → Bool) (A : Option Addr) (n c : Nat) (xs : List (Dat sRule)) (w : World) (hT : TestsRule g fa lb w xs f)
    (h : Rd w w.heap.size sRuleS [.slice A n c] xs) (hl : xs.length = n) (hn : n ≤ 1048576) :
    Calls Try.prog 107 #[.slice A n c, .func (.func g) fa lb] w (AnsB w (xs.any f)) := by
  have L := Lib.hid (indexFuncRule g fa lb eg f A n c xs w hT h hl hn)
  clear h hl hT
  go_enter Try.func107, Try.ntmps107
  go_wp2_with fail
  refine L.out.mono ?_
  rintro e w' ⟨z, rfl, h1, h2, hz, bb⟩
  have HZ := Lib.hid hz
  have HB := Lib.hid bb
  clear hz L bb
  go_wp2
  go_ret
  exact ⟨by rw [← HZ.out]; rfl, HB.out⟩

end Go.Proofs.Ytdkjafjphgcbjaa.anyR
end

section
/-
  CONTRACTS: slices.Contains at []int64, impl.RuleOk and its closure, impl.systemOf, system.some, system.defines and its closure. Conditions: the arguments read as data ('Rd'), at most 1048576 numbers. By an AI agent.
-/
namespace Go.Proofs.Ytdkjafjphgcbjaa.ruleImpl
open Go.RowKit Go.Proofs.Ytdkjafjphgcbjaa.base Go.Proofs.Ytdkjafjphgcbjaa.ints Go.Proofs.Ytdkjafjphgcbjaa.sig Go.Proofs.Ytdkjafjphgcbjaa.term Go.Proofs.Ytdkjafjphgcbjaa.termOk Go.Proofs.Ytdkjafjphgcbjaa.marks Go.Proofs.Ytdkjafjphgcbjaa.app Go.Proofs.Ytdkjafjphgcbjaa.sym Go.Proofs.Ytdkjafjphgcbjaa.segs Go.Proofs.Ytdkjafjphgcbjaa.termFacts Go.Proofs.Ytdkjafjphgcbjaa.varsMath Go.Proofs.Ytdkjafjphgcbjaa.varsOf Go.Proofs.Ytdkjafjphgcbjaa.rename Go.Proofs.Ytdkjafjphgcbjaa.same Go.Proofs.Ytdkjafjphgcbjaa.count Go.Proofs.Ytdkjafjphgcbjaa.linear Go.Proofs.Ytdkjafjphgcbjaa.shape Go.Proofs.Ytdkjafjphgcbjaa.kindsR Go.Proofs.Ytdkjafjphgcbjaa.ruleMath Go.Proofs.Ytdkjafjphgcbjaa.ruleSpec Go.Proofs.Ytdkjafjphgcbjaa.anyR
set_option maxRecDepth 100000

theorem containsI (A : Option Addr) (n c : Nat) (xs : List Int) (x : Int) (w : World) (h : Seg w w.heap.size A n xs) (hn : n ≤ 1048576) :
    Calls Try.prog 67 #[.slice A n c, .int .i64 x] w fun e w' => w = w' ∧ e = .returned (.bool (decide (x ∈ xs))) := by
  have L := Lib.hid (indexOf A n c xs x w h hn)
  clear h
  go_enter Try.func67, Try.ntmps67
  go_wp2_with fail
  refine L.out.mono ?_
  rintro e w' ⟨rfl, rfl⟩
  have E : decide (0 ≤ indexI xs x) = decide (x ∈ xs) := decide_eq_decide.2 (by unfold indexI; split <;> simp_all)
  have HE := Lib.hid E
  clear L E
  generalize indexI xs x = z at *
  go_wp2
  go_ret
  exact ⟨rfl, by rw [← HE.out]; rfl⟩

set_option maxHeartbeats 1000000 in
/-- the closure of RuleOk: a variable that L lacks -/
theorem ruleNew (g : Nat) (A1 : Option Addr) (n1 c1 : Nat) (r : Value) (t : List Int) (x : Int) (W : World) (hr : Row W g 35 #[.slice A1 n1 c1, r]) (h : Seg W W.heap.size A1 n1 t) (hn : n1 ≤ 1048576) :
    Calls Try.prog 66 #[.int .i64 x, .pointer (some ⟨g, 0, none⟩)] W (AnsB W (newB t x)) := by
  have L := Lib.hid (containsI A1 n1 c1 t x W h hn)
  have c0 : W.cell? ⟨g, 0, none⟩ = some (.slice A1 n1 c1) := hr.cell 0
  clear h hr
  by_cases hx : x < 0
  · have hd : decide (x < 0) = true := decide_eq_true hx
    have E : (!decide (x ∈ t)) = newB t x := by unfold newB; by_cases h : x ∈ t <;> simp [h, hx]
    have HE := Lib.hid E
    clear E
    go_enter Try.func66, Try.ntmps66
    go_wp2_with fail
    refine L.out.mono ?_
    rintro e w' ⟨rfl, rfl⟩
    have F : AnsB W (newB t x) (.returned (.bool (!decide (x ∈ t)))) W := ⟨by rw [HE.out], Below.refl _ _⟩
    have HF := Lib.hid F
    clear L F
    generalize decide (x ∈ t) = z at *
    go_wp2
    go_ret
    exact HF.out
  · have hd : decide (x < 0) = false := decide_eq_false hx
    have F : AnsB W (newB t x) (.returned (.bool false)) W := ⟨by unfold newB; rw [decide_eq_false (fun h => hx h.1)], Below.refl _ _⟩
    have HF := Lib.hid F
    clear F L
    go_enter Try.func66, Try.ntmps66
    go_wp2
    go_ret
    exact HF.out

theorem rule_all {sg : List Int} {d : Rl} (h1 : termOkB sg d.1 = true) (h2 : termOkB sg d.2 = true) (h0 : ¬ hd d.1 < 0) : ruleOkB sg d = !d.2.any (newB d.1) := by
  unfold ruleOkB; rw [h1, h2, decide_eq_false h0]; rfl

set_option maxHeartbeats 4000000 in
theorem implRuleOk (a l r : Value) (sg : List Int) (d : Dat sRule) (w : World) (h : Rd w w.heap.size sI [a] sg) (h' : Rd w w.heap.size sRule [l, r] d) (hz : sz sI sg ≤ 1048576) (hz' : sz sRule d ≤ 1048576) :
    Calls Try.prog 25 #[.agg #[a], .agg #[l, r]] w (AnsB w (ruleOkB sg d)) := by
  have g1 := (parts_Rule h').2
  obtain ⟨A, n, c, rfl, hs, hc⟩ := rd_ints.1 h
  have hn := len_ints hs.1 hz
  obtain ⟨A1, n1, c1, A2, n2, c2, rfl, rfl, s1, k1, s2, k2, hn1, hn2⟩ := rd_rule h' hz'
  obtain ⟨W, hW, rA, rR, bel⟩ := box2 w 26 35 #[.slice A n c] #[.slice A1 n1 c1, .slice A2 n2 c2]
  have HW := Lib.hid hW
  have HL1 := Lib.hid s1.1
  have HL2 := Lib.hid s2.1
  have L1 := Lib.hid (implTermOk A A1 n c n1 c1 sg d.1 W (hs.next bel) (s1.next bel) hn hn1)
  have L2 := Lib.hid (fun (w1 : World) (bb : Below w.heap.size w w1) => implTermOk A A2 n c n2 c2 sg d.2 w1 (hs.next bb) (s2.next bb) hn hn2)
  have LC := Lib.hid (fun (w1 : World) (bb : Below w.heap.size w w1) (hr : Row w1 (w.heap.size + 1) 35 #[.slice A1 n1 c1, .slice A2 n2 c2]) => containsFuncI 66 #[] #[.pointer (some ⟨w.heap.size + 1, 0, none⟩)] (fun _ _ => rfl) (newB d.1) A2 n2 c2 d.2 w1
    (fun W x hW _ => ruleNew (w.heap.size + 1) A1 n1 c1 (.slice A2 n2 c2) d.1 x W (hr.next hW) (s1.next (next_trans bb hW)) hn1) (g1.next bb) s2.1 hn2)
  clear hW h h' hz hz' hs hc k1 k2 g1
  cases ok1 : termOkB sg d.1 with
  | false =>
    have HS := Lib.hid ok1
    clear ok1 s1 s2
    go_enter Try.func25, Try.ntmps25
    go_wp2_with fail
    rw [← HW.out]
    refine L1.out.mono ?_
    rintro e w1 ⟨he, bb⟩
    rw [HS.out] at he
    subst he
    have F := Lib.hid (ansB (b := ruleOkB sg d) (a := false) (by rw [rule_noL HS.out]) (next_trans bel bb))
    clear bb bel rA rR
    go_wp2
    go_ret
    exact F.out
  | true =>
    have hp1 := (term_len ok1).1
    rw [s1.1] at hp1
    obtain ⟨b, off, x, rfl, hbB, hx, ex⟩ := s1.spot (k := 0) (by omega)
    have HS := Lib.hid ok1
    have EX := Lib.hid (show hd d.1 = x from ex.out)
    have i0 : (0 : Int) < (n1 : Int) := by omega
    clear ok1 ex
    go_enter Try.func25, Try.ntmps25
    go_wp2_with fail
    rw [← HW.out]
    refine L1.out.mono ?_
    rintro e w1 ⟨he, bb⟩
    rw [HS.out] at he
    subst he
    replace rA := rA.next bb
    replace rR := rR.next bb
    replace bel := next_trans bel bb
    have cA : w1.cell? ⟨w.heap.size, 0, none⟩ = some (.slice A n c) := rA.cell 0
    have cR : w1.cell? ⟨w.heap.size + 1, 1, none⟩ = some (.slice A2 n2 c2) := rR.cell 1
    clear bb L1
    go_wp2_with fail
    refine (L2.out w1 bel).mono ?_
    cases ok2 : termOkB sg d.2 with
    | false =>
      have HS2 := Lib.hid ok2
      clear ok2
      rintro e w2 ⟨he, bb⟩
      rw [HS2.out] at he
      subst he
      have F := Lib.hid (ansB (b := ruleOkB sg d) (a := false) (by rw [rule_noR HS2.out]) (next_trans bel bb))
      clear bb bel rA rR cA cR s1 s2
      go_wp2
      go_ret
      exact F.out
    | true =>
      have HS2 := Lib.hid ok2
      clear ok2
      rintro e w2 ⟨he, bb⟩
      rw [HS2.out] at he
      subst he
      replace rR := rR.next bb
      replace bel := next_trans bel bb
      have cR0 : w2.cell? ⟨w.heap.size + 1, 0, none⟩ = some (.slice (some ⟨b, off, none⟩) n1 c1) := rR.cell 0
      have cX : w2.cell? ⟨b, off, none⟩ = some (.int .i64 x) := by have := (bel.cell (p := ⟨b, off + 0, none⟩) hbB).trans hx; simpa using this
      clear bb rA cA cR L2
      by_cases hneg : x < 0
      · have F := Lib.hid (ansB (b := ruleOkB sg d) (a := false) (by rw [rule_var (by rw [EX.out]; exact hneg)]) bel)
        have hdx : decide (x < 0) = true := decide_eq_true hneg
        clear bel rR s1 s2 LC
        go_wp2
        go_ret
        exact F.out
      · have hdx : decide (x < 0) = false := decide_eq_false hneg
        have cR1 : w2.cell? ⟨w.heap.size + 1, 1, none⟩ = some (.slice A2 n2 c2) := rR.cell 1
        have LC2 := Lib.hid (LC.out w2 bel rR)
        have hmf : ∀ (fn : Fn) (first cap : Array Value) (w : World), (Instr.makeFunc fn first cap).run Try.prog w = .ok (.func fn first cap) w := fun _ _ _ _ => rfl
        have E := Lib.hid (rule_all HS.out HS2.out (by rw [EX.out]; exact hneg))
        clear LC s1 s2
        go_wp2_with fail
        refine LC2.out.mono ?_
        obtain ⟨z, hzz⟩ : ∃ z, d.2.any (newB d.1) = z := ⟨_, rfl⟩
        rw [hzz] at E
        rintro e w3 ⟨he, bb⟩
        rw [hzz] at he
        subst he
        have F := Lib.hid (ansB (b := ruleOkB sg d) (a := !z) E.out.symm (next_trans bel bb))
        clear bb bel rR cR0 cR1 cX LC2 E hzz
        go_wp2
        go_ret
        exact F.out
end Go.Proofs.Ytdkjafjphgcbjaa.ruleImpl
end

section
/-
  CONTRACTS: spec.l6SameRule, SameSystem, LeftLinearIn, CollapsingIn, l6Doubles, DuplicatingIn. Conditions: the arguments read as data ('Rd'), at most 1048576 numbers. By an AI agent.
-/
namespace Go.Proofs.Ytdkjafjphgcbjaa.ruleSpec
open Go.RowKit Go.Proofs.Ytdkjafjphgcbjaa.base Go.Proofs.Ytdkjafjphgcbjaa.ints Go.Proofs.Ytdkjafjphgcbjaa.sig Go.Proofs.Ytdkjafjphgcbjaa.term Go.Proofs.Ytdkjafjphgcbjaa.termOk Go.Proofs.Ytdkjafjphgcbjaa.marks Go.Proofs.Ytdkjafjphgcbjaa.app Go.Proofs.Ytdkjafjphgcbjaa.sym Go.Proofs.Ytdkjafjphgcbjaa.segs Go.Proofs.Ytdkjafjphgcbjaa.termFacts Go.Proofs.Ytdkjafjphgcbjaa.varsMath Go.Proofs.Ytdkjafjphgcbjaa.varsOf Go.Proofs.Ytdkjafjphgcbjaa.rename Go.Proofs.Ytdkjafjphgcbjaa.same Go.Proofs.Ytdkjafjphgcbjaa.count Go.Proofs.Ytdkjafjphgcbjaa.linear Go.Proofs.Ytdkjafjphgcbjaa.shape Go.Proofs.Ytdkjafjphgcbjaa.kindsR Go.Proofs.Ytdkjafjphgcbjaa.ruleMath
set_option maxRecDepth 100000

theorem same_noL {x y : Rl} (h : decide (x.1 = y.1) = false) : sameRB x y = false := by
  unfold sameRB
  exact decide_eq_false fun e => (of_decide_eq_false h) (by rw [e])
theorem same_L {x y : Rl} (h : decide (x.1 = y.1) = true) : sameRB x y = decide (x.2 = y.2) := by
  unfold sameRB
  have h := of_decide_eq_true h
  exact decide_eq_decide.2 ⟨fun e => by rw [e], fun e => by obtain ⟨x1, x2⟩ := x; obtain ⟨y1, y2⟩ := y; simp_all⟩

set_option maxHeartbeats 4000000 in
theorem specSameRule (l r l' r' : Value) (x y : Dat sRule) (w : World) (h : Rd w w.heap.size sRule [l, r] x) (h' : Rd w w.heap.size sRule [l', r'] y) (hz : sz sRule x ≤ 1048576) (hz' : sz sRule y ≤ 1048576) :
    Calls Try.prog 87 #[.agg #[l, r], .agg #[l', r']] w (AnsB w (sameRB x y)) := by
  obtain ⟨A1, n1, c1, A2, n2, c2, rfl, rfl, s1, k1, s2, k2, hn1, hn2⟩ := rd_rule h hz
  obtain ⟨B1, m1, e1, B2, m2, e2, rfl, rfl, t1, q1, t2, q2, hm1, hm2⟩ := rd_rule h' hz'
  obtain ⟨W, hW, rA, rB, bel⟩ := box2 w 35 35 #[.slice A1 n1 c1, .slice A2 n2 c2] #[.slice B1 m1 e1, .slice B2 m2 e2]
  have HW := Lib.hid hW
  have L1 := Lib.hid (specSame A1 B1 n1 m1 c1 e1 x.1 y.1 W (s1.next bel) (t1.next bel) hn1 hm1)
  have L2 := Lib.hid (fun (w1 : World) (bb : Below w.heap.size w w1) => specSame A2 B2 n2 m2 c2 e2 x.2 y.2 w1 (s2.next bb) (t2.next bb) hn2 hm2)
  clear hW h h' hz hz' k1 k2 q1 q2 s1 s2 t1 t2
  cases ok1 : decide (x.1 = y.1) with
  | false =>
    have HS := Lib.hid ok1
    clear ok1
    go_enter Try.func87, Try.ntmps87
    go_wp2_with fail
    rw [← HW.out]
    refine L1.out.mono ?_
    rintro e w1 ⟨he, d, rfl⟩
    rw [HS.out] at he
    subst he
    have F := Lib.hid (ansB (b := sameRB x y) (a := false) (by rw [same_noL HS.out]) (below_drewN bel d))
    clear bel rA rB
    go_wp2
    go_ret
    exact F.out
  | true =>
    have HS := Lib.hid ok1
    clear ok1
    go_enter Try.func87, Try.ntmps87
    go_wp2_with fail
    rw [← HW.out]
    refine L1.out.mono ?_
    rintro e w1 ⟨he, d, hw1⟩
    rw [HS.out] at he
    subst he
    have rA1 : Row w1 w.heap.size 35 #[.slice A1 n1 c1, .slice A2 n2 c2] := by rw [hw1]; exact rA.drewN d
    have rB1 : Row w1 (w.heap.size + 1) 35 #[.slice B1 m1 e1, .slice B2 m2 e2] := by rw [hw1]; exact rB.drewN d
    have bel1 : Below w.heap.size w w1 := by rw [hw1]; exact below_drewN bel d
    have cA : w1.cell? ⟨w.heap.size, 1, none⟩ = some (.slice A2 n2 c2) := rA1.cell 1
    have cB : w1.cell? ⟨w.heap.size + 1, 1, none⟩ = some (.slice B2 m2 e2) := rB1.cell 1
    clear hw1 L1 rA rB bel
    go_wp2_with fail
    refine (L2.out w1 bel1).mono ?_
    rintro e w2 ⟨he, d2, rfl⟩
    rw [← same_L HS.out] at he
    subst he
    have F := Lib.hid (ansB (b := sameRB x y) (a := sameRB x y) rfl (below_drewN bel1 d2))
    clear bel1 rA1 rB1 cA cB L2
    go_wp2
    go_ret
    exact F.out

/-! ### SameSystem -/
def HeadSS (w : World) (T : TypeId) (cs cs' : Array Value) (n : Nat) (rs rs' : List Rl) (i : Value) (wr : World) : Prop :=
  ∃ k : Nat, k ≤ n ∧ i = .int .i64 k ∧ (∀ j, j < k → rs.getD j ([], []) = rs'.getD j ([], [])) ∧ Row wr w.heap.size T cs ∧ Row wr (w.heap.size + 1) T cs' ∧ Below w.heap.size w wr
theorem headSS_step {w wr : World} {T : TypeId} {cs cs' : Array Value} {n k : Nat} {rs rs' : List Rl} {x y : Rl} (hk : k < n) (hlow : ∀ j, j < k → rs.getD j ([], []) = rs'.getD j ([], [])) (ex : Hid (rs.getD k ([], []) = x)) (ey : Hid (rs'.getD k ([], []) = y)) (h : sameRB x y = true) (hr : Row wr w.heap.size T cs) (hr' : Row wr (w.heap.size + 1) T cs') (hb : Below w.heap.size w wr) : HeadSS w T cs cs' n rs rs' (.int .i64 ((k : Int) + 1)) wr :=
  ⟨k + 1, hk, by simp, fun j hj => by
    by_cases e : j = k
    · subst e; rw [ex.out, ey.out]; exact of_decide_eq_true h
    · exact hlow j (by omega), hr, hr', hb⟩
theorem ss_sig {sg sg' : List Int} {rs rs' : List Rl} (h : decide (sg = sg') = false) : sameSB sg sg' rs rs' = false := by unfold sameSB; rw [h]; simp
theorem ss_len {sg sg' : List Int} {rs rs' : List Rl} {n m : Nat} (hn : rs.length = n) (hm : rs'.length = m) (h : n ≠ m) : sameSB sg sg' rs rs' = false := by
  unfold sameSB
  rw [decide_eq_false (p := rs = rs') (fun e => by rw [e] at hn; omega)]; simp
theorem ss_rule {sg sg' : List Int} {rs rs' : List Rl} {k : Nat} {x y : Rl} (ex : rs.getD k ([], []) = x) (ey : rs'.getD k ([], []) = y) (h : sameRB x y = false) : sameSB sg sg' rs rs' = false := by
  unfold sameSB
  rw [decide_eq_false (p := rs = rs') (fun e => by rw [e] at ex; exact (of_decide_eq_false h) (by rw [← ex, ← ey]))]; simp
theorem ss_yes {sg sg' : List Int} {rs rs' : List Rl} {n : Nat} (h1 : sysOkB sg rs = true) (h2 : decide (sg = sg') = true) (hn : rs.length = n) (hm : rs'.length = n) (h : ∀ j, j < n → rs.getD j ([], []) = rs'.getD j ([], [])) : sameSB sg sg' rs rs' = true := by
  unfold sameSB
  rw [h1, h2, decide_eq_true (lists_eq (by omega) (fun j hj => h j (by omega)))]; rfl
theorem ss_no {sg sg' : List Int} {rs rs' : List Rl} (h : sysOkB sg rs = false) : sameSB sg sg' rs rs' = false := by unfold sameSB; rw [h]; rfl

set_option maxHeartbeats 8000000 in
theorem specSameSystem (a v a' v' : Value) (d d' : Dat sSystem) (w : World) (h : Rd w w.heap.size sSystem [a, v] d) (h' : Rd w w.heap.size sSystem [a', v'] d') (hz : sz sSystem d ≤ 1048576) (hz' : sz sSystem d' ≤ 1048576) :
    Calls Try.prog 47 #[.agg #[a, v], .agg #[a', v']] w (AnsB w (sameSB d.1 d'.1 d.2 d'.2)) := by
  have S1 := fun (w1 : World) (bb : Below w.heap.size w w1) => specSystemOk a v d w1 (h.next bb) hz
  have S2 := fun (w1 : World) (bb : Below w.heap.size w w1) => specSystemOk a' v' d' w1 (h'.next bb) hz'
  obtain ⟨A, n, c, V, m, cv, rfl, rfl, hs, hc, hcv, hm, hn, hm1, hrs, hsg, hE⟩ := rd_sys h hz
  obtain ⟨A', n', c', V', m', cv', rfl, rfl, hs', hc', hcv', hm', hn', hm1', hrs', hsg', hE'⟩ := rd_sys h' hz'
  obtain ⟨W, hW, rA, rB, bel⟩ := box2 w 29 29 #[.slice A n c, .slice V m cv] #[.slice A' n' c', .slice V' m' cv']
  have HW := Lib.hid hW
  have HM := Lib.hid hm
  have HM' := Lib.hid hm'
  have HE := Lib.hid hE
  have HE' := Lib.hid hE'
  have HR := Lib.hid hrs
  have HR' := Lib.hid hrs'
  have LS1 := Lib.hid (S1 W bel)
  have LS2 := Lib.hid S2
  have LT := Lib.hid (fun (w1 : World) (bb : Below w.heap.size w w1) => specSame A A' n n' c c' d.1 d'.1 w1 (hs.next bb) (hs'.next bb) hn hn')
  clear hW h h' hz hz' hs hs' hc hc' hcv hcv' hm hm' hE hE' hrs hrs' hsg hsg' S1 S2
  cases ok1 : sysOkB d.1 d.2 with
  | false =>
    have HS := Lib.hid ok1
    clear ok1
    go_enter Try.func47, Try.ntmps47
    go_wp2_with fail
    rw [← HW.out]
    refine LS1.out.mono ?_
    rintro e w1 ⟨he, bb⟩
    rw [HS.out] at he
    subst he
    have F := Lib.hid (ansB (b := sameSB d.1 d'.1 d.2 d'.2) (a := false) (by rw [ss_no HS.out]) (next_trans bel bb))
    clear bel rA rB bb
    go_wp2
    go_ret
    exact F.out
  | true =>
    have HS := Lib.hid ok1
    clear ok1
    go_enter Try.func47, Try.ntmps47
    go_wp2_with fail
    rw [← HW.out]
    refine LS1.out.mono ?_
    rintro e w1 ⟨he, bb⟩
    rw [HS.out] at he
    subst he
    replace rA := rA.next bb
    replace rB := rB.next bb
    replace bel := next_trans bel bb
    have b0 : w1.cell? ⟨w.heap.size + 1, 0, none⟩ = some (.slice A' n' c') := rB.cell 0
    have b1 : w1.cell? ⟨w.heap.size + 1, 1, none⟩ = some (.slice V' m' cv') := rB.cell 1
    clear bb LS1
    go_wp2_with fail
    refine (LS2.out w1 bel).mono ?_
    cases ok2 : sysOkB d'.1 d'.2 with
    | false =>
      have HS2 := Lib.hid ok2
      clear ok2
      rintro e w2 ⟨he, bb⟩
      subst he
      have F := Lib.hid (ansB (b := sameSB d.1 d'.1 d.2 d'.2) (a := false) (by rw [same_sys HS2.out]) (next_trans bel bb))
      clear bel rA rB bb b0 b1
      go_wp2
      go_ret
      exact F.out
    | true =>
      have HS2 := Lib.hid ok2
      clear ok2
      rintro e w2 ⟨he, bb⟩
      subst he
      replace rA := rA.next bb
      replace rB := rB.next bb
      replace bel := next_trans bel bb
      have a0 : w2.cell? ⟨w.heap.size, 0, none⟩ = some (.slice A n c) := rA.cell 0
      have b0' : w2.cell? ⟨w.heap.size + 1, 0, none⟩ = some (.slice A' n' c') := rB.cell 0
      clear bb LS2 b0 b1
      go_wp2_with fail
      refine (LT.out w2 bel).mono ?_
      cases ok3 : decide (d.1 = d'.1) with
      | false =>
        have HS3 := Lib.hid ok3
        clear ok3
        rintro e w3 ⟨he, dd, rfl⟩
        rw [HS3.out] at he
        subst he
        have F := Lib.hid (ansB (b := sameSB d.1 d'.1 d.2 d'.2) (a := false) (by rw [ss_sig HS3.out]) (below_drewN bel dd))
        clear bel rA rB a0 b0'
        go_wp2
        go_ret
        exact F.out
      | true =>
        have HS3 := Lib.hid ok3
        clear ok3
        rintro e w3 ⟨he, dd, hw3⟩
        rw [HS3.out] at he
        subst he
        replace rA := rA.drewN dd
        replace rB := rB.drewN dd
        replace bel := below_drewN bel dd
        rw [← hw3] at rA rB bel
        have a1 : w3.cell? ⟨w.heap.size, 1, none⟩ = some (.slice V m cv) := rA.cell 1
        have b1 : w3.cell? ⟨w.heap.size + 1, 1, none⟩ = some (.slice V' m' cv') := rB.cell 1
        clear a0 b0' hw3 LT
        by_cases hmm : m = m'
        · subst hmm
          have H0 : Hid (HeadSS w 29 #[.slice A n c, .slice V m cv] #[.slice A' n' c', .slice V' m cv'] m d.2 d'.2 (.int .i64 0) w3) := Lib.hid ⟨0, Nat.zero_le _, rfl, fun j hj => absurd hj (Nat.not_lt_zero _), rA, rB, bel⟩
          clear rA rB bel
          go_wp2_with fail
          go_loopw [5] (fun i wr => HeadSS w 29 #[.slice A n c, .slice V m cv] #[.slice A' n' c', .slice V' m cv'] m d.2 d'.2 i wr) (fun i _ => m - (intOf i).toNat)
          case atStart => exact H0.out
          case round =>
            obtain ⟨k, hk, rfl, hlow, rr, rr', hb⟩ := hrel
            have HLOW := Lib.hid hlow
            clear hlow H0 a1 b1
            by_cases hlt : k < m
            · obtain ⟨b, off, l, r, x, rfl, hbB, ex, hc0, hc1, hx⟩ := rd_at HR.out hb HM.out hlt
              obtain ⟨b', off', l', r', y, rfl, hbB', ey, hc0', hc1', hy⟩ := rd_at HR'.out hb HM'.out hlt
              have a1 : wr.cell? ⟨w.heap.size, 1, none⟩ = some (.slice (some ⟨b, off, none⟩) m cv) := rr.cell 1
              have b1 : wr.cell? ⟨w.heap.size + 1, 1, none⟩ = some (.slice (some ⟨b', off', none⟩) m cv') := rr'.cell 1
              have hzx : sz sRule x ≤ 1048576 := by have := HE.out k hlt; rw [ex.out] at this; exact this
              have hzy : sz sRule y ≤ 1048576 := by have := HE'.out k hlt; rw [ey.out] at this; exact this
              have L := Lib.hid (specSameRule l r l' r' x y wr.drew ((hx.more hb.size).keep (fun _ _ => rfl)) ((hy.more hb.size).keep (fun _ _ => rfl)) hzx hzy)
              have i0 : (0 : Int) ≤ (k : Int) := by omega
              have i1 : (k : Int) < (m : Int) := by omega
              have hbr : b < wr.drew.heap.size := Nat.lt_of_lt_of_le hbB hb.size
              have hbr' : b' < wr.drew.heap.size := Nat.lt_of_lt_of_le hbB' hb.size
              have rd := rr.drew
              have rd' := rr'.drew
              have hbd := hb.drew
              clear hx hy rr rr' hb hzx hzy
              cases ok : sameRB x y with
              | false =>
                have HO := Lib.hid ok
                clear ok
                have BAD := Lib.hid (show sameSB d.1 d'.1 d.2 d'.2 = false from ss_rule ex.out ey.out HO.out)
                go_wp2_with fail
                go_region_held3 (fun w' => w'.cell? ⟨w.heap.size, 1, none⟩ = some (.slice (some ⟨b, off, none⟩) m cv) ∧ w'.cell? ⟨w.heap.size + 1, 1, none⟩ = some (.slice (some ⟨b', off', none⟩) m cv') ∧ w'.cell? ⟨b, off + k * 2, none⟩ = some l ∧ w'.cell? ⟨b, off + k * 2 + 1, none⟩ = some r ∧ w'.cell? ⟨b', off' + k * 2, none⟩ = some l' ∧ w'.cell? ⟨b', off' + k * 2 + 1, none⟩ = some r')
                  (go_keep)
                  (first
                    | (go_at_call 87; refine L.out.mono ?_; rintro e w4 ⟨he, bb⟩; rw [HO.out] at he; subst he; have x1 : w4.cell? ⟨w.heap.size, 1, none⟩ = some (.slice (some ⟨b, off, none⟩) m cv) := (rd.next bb).cell 1; have x2 : w4.cell? ⟨w.heap.size + 1, 1, none⟩ = some (.slice (some ⟨b', off', none⟩) m cv') := (rd'.next bb).cell 1; have x3 := (bb.cell (p := ⟨b, off + k * 2, none⟩) hbr).trans hc0; have x4 := (bb.cell (p := ⟨b, off + k * 2 + 1, none⟩) hbr).trans hc1; have x5 := (bb.cell (p := ⟨b', off' + k * 2, none⟩) hbr').trans hc0'; have x6 := (bb.cell (p := ⟨b', off' + k * 2 + 1, none⟩) hbr').trans hc1'))
                have F := Lib.hid (ansB (b := sameSB d.1 d'.1 d.2 d'.2) (a := false) BAD.out.symm (next_trans hbd bb))
                clear bb rd rd' hbd L x1 x2 x3 x4 x5 x6 a1 b1 hc0 hc1 hc0' hc1'
                go_wp2
                go_ret
                exact F.out
              | true =>
                have HO := Lib.hid ok
                clear ok
                go_wp2_with fail
                go_region_held3 (fun w' => w'.cell? ⟨w.heap.size, 1, none⟩ = some (.slice (some ⟨b, off, none⟩) m cv) ∧ w'.cell? ⟨w.heap.size + 1, 1, none⟩ = some (.slice (some ⟨b', off', none⟩) m cv') ∧ w'.cell? ⟨b, off + k * 2, none⟩ = some l ∧ w'.cell? ⟨b, off + k * 2 + 1, none⟩ = some r ∧ w'.cell? ⟨b', off' + k * 2, none⟩ = some l' ∧ w'.cell? ⟨b', off' + k * 2 + 1, none⟩ = some r')
                  (go_keep)
                  (first
                    | (go_at_call 87; refine L.out.mono ?_; rintro e w4 ⟨he, bb⟩; rw [HO.out] at he; subst he; have x1 : w4.cell? ⟨w.heap.size, 1, none⟩ = some (.slice (some ⟨b, off, none⟩) m cv) := (rd.next bb).cell 1; have x2 : w4.cell? ⟨w.heap.size + 1, 1, none⟩ = some (.slice (some ⟨b', off', none⟩) m cv') := (rd'.next bb).cell 1; have x3 := (bb.cell (p := ⟨b, off + k * 2, none⟩) hbr).trans hc0; have x4 := (bb.cell (p := ⟨b, off + k * 2 + 1, none⟩) hbr).trans hc1; have x5 := (bb.cell (p := ⟨b', off' + k * 2, none⟩) hbr').trans hc0'; have x6 := (bb.cell (p := ⟨b', off' + k * 2 + 1, none⟩) hbr').trans hc1'))
                have F := Lib.hid (headSS_step (w := w) hlt HLOW.out ex ey HO.out (rd.next bb) (rd'.next bb) (next_trans hbd bb))
                clear bb rd rd' hbd L x1 x2 x3 x4 x5 x6 a1 b1 hc0 hc1 hc0' hc1'
                go_wp2
                go_roundw
                case rel => exact F.out
                case measure => simp [intOf]; omega
            · have a1 : wr.cell? ⟨w.heap.size, 1, none⟩ = some (.slice V m cv) := rr.cell 1
              have F := Lib.hid (ansB (b := sameSB d.1 d'.1 d.2 d'.2) (a := true) (by rw [ss_yes HS.out HS3.out HM.out HM'.out (fun j hj => HLOW.out j (by omega))]) hb)
              clear rr rr' hb
              go_wp2
              go_ret
              exact F.out
        · have hne : ((m : Int) != (m' : Int)) = true := by simp; omega
          have F := Lib.hid (ansB (b := sameSB d.1 d'.1 d.2 d'.2) (a := false) (by rw [ss_len HM.out HM'.out hmm]) bel)
          clear bel rA rB
          go_wp2
          go_ret
          exact F.out

/-! ### LeftLinearIn -/
theorem ll_no {sg : List Int} {rs : List Rl} (h : sysOkB sg rs = false) : leftLinB sg rs = false := by unfold leftLinB; rw [h]; rfl
theorem ll_bad {sg : List Int} {rs : List Rl} {k : Nat} {x : Rl} (hk : k < rs.length) (ex : rs.getD k ([], []) = x) (h : linB x.1 = false) : leftLinB sg rs = false := by
  unfold leftLinB leftB
  rw [any_round hk (f := fun r => !linB r.1) (by rw [ex, h]; rfl)]; simp
theorem ll_yes {sg : List Int} {rs : List Rl} (h : sysOkB sg rs = true) (hl : ∀ j, j < rs.length → linB (rs.getD j ([], [])).1 = true) : leftLinB sg rs = true := by
  unfold leftLinB leftB
  rw [h, any_rounds (f := fun r => !linB r.1) (fun j hj => by rw [hl j hj]; rfl)]; rfl

set_option maxHeartbeats 4000000 in
theorem specLeftLinearIn (a v : Value) (d : Dat sSystem) (w : World) (h : Rd w w.heap.size sSystem [a, v] d) (hz : sz sSystem d ≤ 1048576) :
    Calls Try.prog 32 #[.agg #[a, v]] w (AnsB w (leftLinB d.1 d.2)) := by
  have S1 := fun (w1 : World) (bb : Below w.heap.size w w1) => specSystemOk a v d w1 (h.next bb) hz
  obtain ⟨A, n, c, V, m, cv, rfl, rfl, hs, hc, hcv, hm, hn, hm1, hrs, hsg, hE⟩ := rd_sys h hz
  obtain ⟨W, hW, rA, bel⟩ := box1 w 29 #[.slice A n c, .slice V m cv]
  have HW := Lib.hid hW
  have HM := Lib.hid hm
  have HE := Lib.hid hE
  have HR := Lib.hid hrs
  have LS1 := Lib.hid (S1 W bel)
  clear hW h hz hs hc hcv hm hE hrs hsg S1
  cases ok1 : sysOkB d.1 d.2 with
  | false =>
    have HS := Lib.hid ok1
    clear ok1
    go_enter Try.func32, Try.ntmps32
    go_wp2_with fail
    rw [← HW.out]
    refine LS1.out.mono ?_
    rintro e w1 ⟨he, bb⟩
    rw [HS.out] at he
    subst he
    have F := Lib.hid (ansB (b := leftLinB d.1 d.2) (a := false) (by rw [ll_no HS.out]) (next_trans bel bb))
    clear bel rA bb
    go_wp2
    go_ret
    exact F.out
  | true =>
    have HS := Lib.hid ok1
    clear ok1
    go_enter Try.func32, Try.ntmps32
    go_wp2_with fail
    rw [← HW.out]
    refine LS1.out.mono ?_
    rintro e w1 ⟨he, bb⟩
    rw [HS.out] at he
    subst he
    have H0 : Hid (HeadSy w 29 #[.slice A n c, .slice V m cv] m (fun x => linB x.1) d.2 (.int .i64 0) w1) := Lib.hid ⟨0, Nat.zero_le _, rfl, fun j hj => absurd hj (Nat.not_lt_zero _), rA.next bb, next_trans bel bb⟩
    clear rA bel bb LS1
    go_wp2_with fail
    go_loopw [3] (fun i wr => HeadSy w 29 #[.slice A n c, .slice V m cv] m (fun x => linB x.1) d.2 i wr) (fun i _ => m - (intOf i).toNat)
    case atStart => exact H0.out
    case round =>
      obtain ⟨k, hk, rfl, hlow, rr, hb⟩ := hrel
      have HLOW := Lib.hid hlow
      clear hlow H0
      by_cases hlt : k < m
      · obtain ⟨b, off, l, r, x, rfl, hbB, ex, hc0, hc1, hx⟩ := rd_at HR.out hb HM.out hlt
        have a1 : wr.cell? ⟨w.heap.size, 1, none⟩ = some (.slice (some ⟨b, off, none⟩) m cv) := rr.cell 1
        have hzx : sz sRule x ≤ 1048576 := by have := HE.out k hlt; rw [ex.out] at this; exact this
        obtain ⟨A1, n1, c1, A2, n2, c2, rfl, rfl, s1, k1, s2, k2, hn1, hn2⟩ := rd_rule hx hzx
        have L := Lib.hid (l2Linear A1 n1 c1 x.1 wr (s1.more hb.size) hn1)
        have i0 : (0 : Int) ≤ (k : Int) := by omega
        have i1 : (k : Int) < (m : Int) := by omega
        clear hx hzx s1 s2 k1 k2
        cases ok : linB x.1 with
        | false =>
          have HO := Lib.hid ok
          clear ok
          have F := Lib.hid (ansB (b := leftLinB d.1 d.2) (a := false) (by rw [ll_bad (by rw [HM.out]; exact hlt) ex.out HO.out]) hb)
          clear rr hb
          go_wp2_with fail
          refine L.out.mono ?_
          rintro e w2 ⟨rfl, he⟩
          rw [HO.out] at he
          subst he
          clear L
          go_wp2
          go_ret
          exact F.out
        | true =>
          have HO := Lib.hid ok
          clear ok
          have F := Lib.hid (headSy_step (f := fun x => linB x.1) (w := w) hlt HLOW.out ex HO.out rr hb)
          clear rr hb
          go_wp2_with fail
          refine L.out.mono ?_
          rintro e w2 ⟨rfl, he⟩
          rw [HO.out] at he
          subst he
          clear L
          go_wp2
          go_roundw
          case rel => exact F.out
          case measure => simp [intOf]; omega
      · have a1 : wr.cell? ⟨w.heap.size, 1, none⟩ = some (.slice V m cv) := rr.cell 1
        have F := Lib.hid (ansB (b := leftLinB d.1 d.2) (a := true) (by rw [ll_yes HS.out (fun j hj => HLOW.out j (by rw [HM.out] at hj; omega))]) hb)
        clear rr hb
        go_wp2
        go_ret
        exact F.out

/-! ### CollapsingIn: the system is asked in each round -/
theorem cl_no {sg : List Int} {rs : List Rl} (h : sysOkB sg rs = false) : collB sg rs = false := by unfold collB; rw [h]; rfl
theorem cl_bad {sg : List Int} {rs : List Rl} {k : Nat} {x : Rl} (h : sysOkB sg rs = true) (hk : k < rs.length) (ex : rs.getD k ([], []) = x) (h2 : fallsB x = true) : collB sg rs = true := by
  unfold collB
  rw [h, any_round hk (f := fallsB) (by rw [ex, h2])]; rfl
theorem cl_yes {sg : List Int} {rs : List Rl} (hl : ∀ j, j < rs.length → fallsB (rs.getD j ([], [])) = false) : collB sg rs = false := by
  unfold collB
  rw [any_rounds (f := fallsB) hl]; simp

set_option maxHeartbeats 4000000 in
theorem specCollapsingIn (a v : Value) (d : Dat sSystem) (w : World) (h : Rd w w.heap.size sSystem [a, v] d) (hz : sz sSystem d ≤ 1048576) :
    Calls Try.prog 34 #[.agg #[a, v]] w (AnsB w (collB d.1 d.2)) := by
  have S1 := fun (w1 : World) (bb : Below w.heap.size w w1) => specSystemOk a v d w1 (h.next bb) hz
  obtain ⟨A, n, c, V, m, cv, rfl, rfl, hs, hc, hcv, hm, hn, hm1, hrs, hsg, hE⟩ := rd_sys h hz
  obtain ⟨W, hW, rA, bel⟩ := box1 w 29 #[.slice A n c, .slice V m cv]
  have HW := Lib.hid hW
  have HM := Lib.hid hm
  have HE := Lib.hid hE
  have HR := Lib.hid hrs
  have LS := Lib.hid S1
  have H0 : Hid (HeadSy w 29 #[.slice A n c, .slice V m cv] m (fun x => !fallsB x) d.2 (.int .i64 0) W) := Lib.hid ⟨0, Nat.zero_le _, rfl, fun j hj => absurd hj (Nat.not_lt_zero _), rA, bel⟩
  clear hW h hz hs hc hcv hm hE hrs hsg S1 rA bel
  go_enter Try.func34, Try.ntmps34
  go_wp2_with fail
  rw [← HW.out]
  go_loopw [3] (fun i wr => HeadSy w 29 #[.slice A n c, .slice V m cv] m (fun x => !fallsB x) d.2 i wr) (fun i _ => m - (intOf i).toNat)
  case atStart => exact H0.out
  case round =>
    obtain ⟨k, hk, rfl, hlow, rr, hb⟩ := hrel
    have HLOW := Lib.hid hlow
    clear hlow H0
    have a0 : wr.cell? ⟨w.heap.size, 0, none⟩ = some (.slice A n c) := rr.cell 0
    have a1 : wr.cell? ⟨w.heap.size, 1, none⟩ = some (.slice V m cv) := rr.cell 1
    by_cases hlt : k < m
    · have i1 : (k : Int) < (m : Int) := by omega
      cases ok : sysOkB d.1 d.2 with
      | false =>
        have HO := Lib.hid ok
        clear ok
        go_wp2_with fail
        refine (LS.out wr hb).mono ?_
        rintro e w2 ⟨he, bb⟩
        rw [HO.out] at he
        subst he
        have F := Lib.hid (ansB (b := collB d.1 d.2) (a := false) (by rw [cl_no HO.out]) (next_trans hb bb))
        clear rr hb bb a0 a1
        go_wp2
        go_ret
        exact F.out
      | true =>
        have HO := Lib.hid ok
        have HZ := Lib.hid ((sys_parts ok).2.2)
        clear ok
        go_wp2_with fail
        refine (LS.out wr hb).mono ?_
        rintro e w2 ⟨he, bb⟩
        rw [HO.out] at he
        subst he
        replace rr := rr.next bb
        replace hb := next_trans hb bb
        obtain ⟨b, off, l, r, x, rfl, hbB, ex, hc0, hc1, hx⟩ := rd_at HR.out hb HM.out hlt
        have a1' : w2.cell? ⟨w.heap.size, 1, none⟩ = some (.slice (some ⟨b, off, none⟩) m cv) := rr.cell 1
        have hzx : sz sRule x ≤ 1048576 := by have := HE.out k hlt; rw [ex.out] at this; exact this
        have hrx : ruleOkB d.1 x = true := HZ.out x (by rw [← ex.out]; exact rl_mem (by rw [HM.out]; exact hlt))
        obtain ⟨A1, n1, c1, A2, n2, c2, rfl, rfl, s1, k1, s2, k2, hn1, hn2⟩ := rd_rule hx hzx
        have hp := (term_len (rule_parts hrx).2.1).1
        rw [s2.1] at hp
        obtain ⟨b2, off2, y, rfl, hbB2, hy, ey⟩ := s2.spot (k := 0) (by omega)
        have hy0 : w2.cell? ⟨b2, off2, none⟩ = some (.int .i64 y) := by simpa using hy
        have i2 : (0 : Int) < (n2 : Int) := by omega
        have i0 : (0 : Int) ≤ (k : Int) := by omega
        by_cases hyn : y < 0
        · have hd : decide (y < 0) = true := decide_eq_true hyn
          have F := Lib.hid (ansB (b := collB d.1 d.2) (a := true) (by rw [cl_bad HO.out (by rw [HM.out]; exact hlt) ex.out (by unfold fallsB ruleMath.hd; rw [ey.out]; exact hd)]) hb)
          clear hx hzx s1 s2 k1 k2 rr hb bb a0 a1 hrx hy ey hc0 LS
          go_wp2
          go_ret
          exact F.out
        · have hd : decide (y < 0) = false := decide_eq_false hyn
          have F := Lib.hid (headSy_step (f := fun x => !fallsB x) (w := w) hlt HLOW.out ex (by unfold fallsB ruleMath.hd; rw [ey.out, hd]; rfl) rr hb)
          clear hx hzx s1 s2 k1 k2 rr hb bb a0 a1 hrx hy ey hc0 LS
          go_wp2
          go_roundw
          case rel => exact F.out
          case measure => simp [intOf]; omega
    · have F := Lib.hid (ansB (b := collB d.1 d.2) (a := false) (by rw [cl_yes (fun j hj => by have := HLOW.out j (by rw [HM.out] at hj; omega); simpa using this)]) hb)
      clear rr hb
      go_wp2
      go_ret
      exact F.out
end Go.Proofs.Ytdkjafjphgcbjaa.ruleSpec
end
