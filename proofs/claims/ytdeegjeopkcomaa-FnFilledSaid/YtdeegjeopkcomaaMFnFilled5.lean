/-
  MERGED: my texts CompImpl, Big, WFnFilled, one behind the other, as they are. By an AI agent.
-/
import Derived.Test.YtdeegjeopkcomaaMFnFilled4
import Derived.Deep.DeepCutAuto
import Derived.Laws.NewBlocks
import Derived.Laws.EntriesVeiled
section
/-
  CONTRACTS: slices.IndexFunc, slices.ContainsFunc over impl.tooLong, the closure of impl.Composed, impl.Composed. Conditions: the slices read as lists ('Seg', 'Segs'), at most 1048576 values. (The closure's region by wip/tools/reg.py.) By an AI agent.
-/
namespace Go.Proofs.Ytdeegjeopkcomaa.compImpl
open Go.RowKit Go.Proofs.Ytdeegjeopkcomaa.base Go.Proofs.Ytdeegjeopkcomaa.ints Go.Proofs.Ytdeegjeopkcomaa.sig Go.Proofs.Ytdeegjeopkcomaa.cursor Go.Proofs.Ytdeegjeopkcomaa.marks Go.Proofs.Ytdeegjeopkcomaa.app Go.Proofs.Ytdeegjeopkcomaa.appAt Go.Proofs.Ytdeegjeopkcomaa.sym Go.Proofs.Ytdeegjeopkcomaa.segs Go.Proofs.Ytdeegjeopkcomaa.segsHelp Go.Proofs.Ytdeegjeopkcomaa.kinds Go.Proofs.Ytdeegjeopkcomaa.termFacts Go.Proofs.Ytdeegjeopkcomaa.fillMath Go.Proofs.Ytdeegjeopkcomaa.look Go.Proofs.Ytdeegjeopkcomaa.substOk Go.Proofs.Ytdeegjeopkcomaa.gives Go.Proofs.Ytdeegjeopkcomaa.shifted Go.Proofs.Ytdeegjeopkcomaa.filled Go.Proofs.Ytdeegjeopkcomaa.plainMath Go.Proofs.Ytdeegjeopkcomaa.plain Go.Proofs.Ytdeegjeopkcomaa.plainOf Go.Proofs.Ytdeegjeopkcomaa.compMath Go.Proofs.Ytdeegjeopkcomaa.compSpec
set_option maxRecDepth 100000

def AnsIdx (w : World) (xss : List (List Int)) (e : Ending) (w' : World) : Prop := w = w' ∧ ∃ z : Int, e = .returned (.int .i64 z) ∧ -1 ≤ z ∧ z ≤ 1048576 ∧ decide (0 ≤ z) = anyLong xss
def HeadIdx (w : World) (n : Nat) (xss : List (List Int)) (i : Value) (wr : World) : Prop := ∃ k : Nat, k ≤ n ∧ i = .int .i64 k ∧ (∀ j, j < k → ¬ 60 < (xss.getD j []).length) ∧ w = wr

set_option maxHeartbeats 2000000 in
theorem indexLong (A : Option Addr) (n c : Nat) (xss : List (List Int)) (w : World) (h : Segs w w.heap.size A n xss) (hn : n ≤ 1048576) (hE : ∀ j, (xss.getD j []).length ≤ 1048576) :
    Calls Try.prog 107 #[.slice A n c, .func (.func 66) #[] #[]] w (AnsIdx w xss) := by
  have HE := Lib.hid hE
  have HL := Lib.hid h.1
  have HH : Hid (HeadIdx w n xss (.int .i64 0) w) := Lib.hid ⟨0, Nat.zero_le _, rfl, fun j hj => absurd hj (Nat.not_lt_zero _), rfl⟩
  clear hE
  go_enter Try.func107, Try.ntmps107
  go_wp2_with fail
  go_loopw [8] (fun i wr => HeadIdx w n xss i wr) (fun i _ => n - (intOf i).toNat)
  case atStart => exact HH.out
  case round =>
    obtain ⟨k, hk, rfl, hlow, rfl⟩ := hrel
    have HLOW := Lib.hid hlow
    clear hlow HH
    by_cases hlt : k < n
    · obtain ⟨b, off, A', n', cc, rfl, hbB, hx, hseg, hcap⟩ := h.spot hlt
      have hn' : n' ≤ 1048576 := by rw [← hseg.1]; exact HE.out k
      have HG := Lib.hid hseg.1
      have i0 : (0 : Int) ≤ (k : Int) := by omega
      have i1 : (k : Int) < (n : Int) := by omega
      clear hseg hcap h
      go_wp2_with fail
      refine (tooLong A' n' cc w (by omega)).mono ?_
      rintro e w' ⟨rfl, rfl⟩
      by_cases h60 : 60 < n'
      · rw [decide_eq_true h60]
        have F : AnsIdx w xss (.returned (.int .i64 (k : Int))) w := ⟨rfl, k, rfl, by omega, by omega, by rw [decide_eq_true (by omega)]; exact (anyLong_iff.2 ⟨k, by rw [HG.out]; exact h60⟩).symm⟩
        have HF := Lib.hid F
        clear F hx
        go_wp2
        go_ret
        exact HF.out
      · rw [decide_eq_false h60]
        have S1 : HeadIdx w n xss (.int .i64 ((k : Int) + 1)) w := ⟨k + 1, hlt, by simp, fun j hj => by
          by_cases e : j = k
          · rw [e, HG.out]; exact h60
          · exact HLOW.out j (by omega), rfl⟩
        have HS1 := Lib.hid S1
        clear S1 hx
        go_wp2
        go_roundw
        case rel => exact HS1.out
        case measure => simp [intOf]; omega
    · have F : AnsIdx w xss (.returned (.int .i64 (-1))) w := ⟨rfl, -1, rfl, by omega, by omega, by
        cases e : anyLong xss with
        | false => rfl
        | true =>
          obtain ⟨i, hi⟩ := anyLong_iff.1 e
          by_cases hin : i < n
          · exact absurd hi (HLOW.out i (by omega))
          · rw [show xss.getD i [] = [] by simp [List.getD, HL.out, hin]] at hi
            simp at hi⟩
      have HF := Lib.hid F
      clear F h
      go_wp2
      go_ret
      exact HF.out
theorem containsLong (A : Option Addr) (n c : Nat) (xss : List (List Int)) (w : World) (h : Segs w w.heap.size A n xss) (hn : n ≤ 1048576) (hE : ∀ j, (xss.getD j []).length ≤ 1048576) :
    Calls Try.prog 71 #[.slice A n c, .func (.func 66) #[] #[]] w fun e w' => w = w' ∧ e = .returned (.bool (anyLong xss)) := by
  have L := Lib.hid (indexLong A n c xss w h hn hE)
  clear h hE
  go_enter Try.func71, Try.ntmps71
  go_wp2_with fail
  refine L.out.mono ?_
  rintro e w' ⟨rfl, z, rfl, h1, h2, hz⟩
  have HZ := Lib.hid hz
  clear hz L
  go_wp2
  go_ret
  exact ⟨rfl, by rw [← HZ.out]; rfl⟩

/-- the composition of two look-ups -/
theorem lookBoth (b8 b9 l8 l9 : Nat) (S : Option Addr) (m c : Nat) (T : Option Addr) (q cq : Nat) (sg : List Int) (ss us : List (List Int)) (w : World) (hok : substOkB sg ss = true) (hok2 : substOkB sg us = true) (z8 : b8 < w.heap.size) (z9 : b9 < w.heap.size) (y8 : l8 < w.heap.size) (y9 : l9 < w.heap.size)
    (c8 : w.cell? ⟨b8, 0, none⟩ = some (.func (.func 105) #[] #[.pointer (some ⟨l8, 0, none⟩)])) (c9 : w.cell? ⟨b9, 0, none⟩ = some (.func (.func 105) #[] #[.pointer (some ⟨l9, 0, none⟩)]))
    (k8 : w.cell? ⟨l8, 0, none⟩ = some (.slice S m c)) (k9 : w.cell? ⟨l9, 0, none⟩ = some (.slice T q cq)) (h : Segs w w.heap.size S m ss) (h' : Segs w w.heap.size T q us) :
    Looks 69 #[.pointer (some ⟨b9, 0, none⟩), .pointer (some ⟨b8, 0, none⟩)] w (compL us ss) 24 := by
  intro W i hb hi
  have hsz := hb.size
  have p8 : W.cell? ⟨b8, 0, none⟩ = some (.func (.func 105) #[] #[.pointer (some ⟨l8, 0, none⟩)]) := (hb.cell (p := ⟨b8, 0, none⟩) z8).trans c8
  have p9 : W.cell? ⟨b9, 0, none⟩ = some (.func (.func 105) #[] #[.pointer (some ⟨l9, 0, none⟩)]) := (hb.cell (p := ⟨b9, 0, none⟩) z9).trans c9
  have m24 : m ≤ 1048576 := by have := (substOk_parts hok).2.1; rw [h.1] at this; omega
  have q24 : q ≤ 1048576 := by have := (substOk_parts hok2).2.1; rw [h'.1] at this; omega
  have L1 : Calls Try.prog 105 #[.int .i64 (i : Int), .pointer (some ⟨l8, 0, none⟩)] W.drew (AnsLook w.heap.size W.drew (givesL ss i)) := lookSubstC l8 S m c ss w y8 k8 h m24 W.drew i hb.drew hi
  have LU := (lookSubstC l9 T q cq us w y9 k9 h' q24).next hb.drew
  have tok := gives_ok hok hi
  have hv := Lib.hid (fun x hx => (term_mem (x := x) tok hx).1)
  have h60 := Lib.hid (gives_len hok i)
  have hM2 := Lib.hid (gives_len hok2)
  have HL1 := Lib.hid L1
  have EC := Lib.hid (show fillL (givesL us) (givesL ss i) = compL us ss i from rfl)
  clear hb z8 z9 y8 y9 c8 c9 k8 k9 h h' tok L1
  show Calls Try.prog 69 #[.int .i64 (i : Int), .pointer (some ⟨b9, 0, none⟩), .pointer (some ⟨b8, 0, none⟩)] W _
  go_enter Try.func69, Try.ntmps69
  go_wp2_with fail
  refine wp_region_held_drew (S := (fun w' => w'.cell? ⟨b8, 0, none⟩ = some (.func (.func 105) #[] #[.pointer (some ⟨l8, 0, none⟩)]) ∧ w'.cell? ⟨b9, 0, none⟩ = some (.func (.func 105) #[] #[.pointer (some ⟨l9, 0, none⟩)]))) (by kernel_rfl) ⟨p8, p9⟩ (fun hHeld => ?_)
  refine wpAnyH_take (i := 0) (v := ?_) rfl (by kernel_rfl) (by kernel_rfl) (by kernel_rfl) (fun _ _ _ h => h) (Or.inl ⟨by rfl, ?_⟩) (by assumption) ?_
  rotate_left 1
  · (intro w0 hSw; (try dsimp only at hSw); go_simp; try with_reducible rfl)
  try simp only [Act.put, List.setIfInBounds_toArray, List.set_cons_zero, List.set_cons_succ, List.getElem_toArray, List.getElem_cons_zero, List.getElem_cons_succ]
  refine wpAnyH_take (i := 1) (v := ?_) rfl (by kernel_rfl) (by kernel_rfl) (by kernel_rfl) (fun _ _ _ h => h) (Or.inl ⟨by rfl, ?_⟩) (by assumption) ?_
  rotate_left 1
  · (intro w0 hSw; (try dsimp only at hSw); go_simp; try with_reducible rfl)
  try simp only [Act.put, List.setIfInBounds_toArray, List.set_cons_zero, List.set_cons_succ, List.getElem_toArray, List.getElem_cons_zero, List.getElem_cons_succ]
  refine wpAnyH_take (i := 2) (v := ?_) rfl (by kernel_rfl) (by kernel_rfl) (by kernel_rfl) (fun _ _ _ h => h) (Or.inl ⟨by rfl, ?_⟩) (by assumption) ?_
  rotate_left 1
  · (intro w0 hSw; (try dsimp only at hSw); go_simp; try with_reducible rfl)
  try simp only [Act.put, List.setIfInBounds_toArray, List.set_cons_zero, List.set_cons_succ, List.getElem_toArray, List.getElem_cons_zero, List.getElem_cons_succ]
  refine wpAnyH_ready (rs := [3]) (by kernel_rfl) (by simp) (AllReadyH.cons rfl (fun K hK => ?_) AllReadyH.nil)
  go_simp
  refine HL1.out.mono ?_; rintro e w3 ⟨X, xn, xc, rfl, s1, -, -, b1⟩; have x8 : w3.cell? ⟨b8, 0, none⟩ = some (.func (.func 105) #[] #[.pointer (some ⟨l8, 0, none⟩)]) := (b1.cell (p := ⟨b8, 0, none⟩) (World.block_lt_of_cell? _ _ p8)).trans p8; have x9 : w3.cell? ⟨b9, 0, none⟩ = some (.func (.func 105) #[] #[.pointer (some ⟨l9, 0, none⟩)]) := (b1.cell (p := ⟨b9, 0, none⟩) (World.block_lt_of_cell? _ _ p9)).trans p9; go_wp2_with fail
  refine hK.out _ _ ?_ (fun hHeld => ?_)
  · first | assumption | (dsimp only; assumption) | exact ⟨by assumption, by assumption⟩
  clear hK K
  try simp only [Act.put, List.setIfInBounds_toArray, List.set_cons_zero, List.set_cons_succ, List.getElem_toArray, List.getElem_cons_zero, List.getElem_cons_succ]
  refine wpAnyH_ready (rs := [4]) (by kernel_rfl) (by simp) (AllReadyH.cons rfl (fun K hK => ?_) AllReadyH.nil)
  go_simp
  refine (fill 105 #[.pointer (some ⟨l9, 0, none⟩)] (enters_of Try.func105 (by kernel_rfl) rfl) X xn xc (givesL ss i) (givesL us) w3 (LU.next b1) s1 (by rw [← s1.1]; exact h60.out) hv.out (fun j => Nat.le_trans (hM2.out j) (by omega))).mono ?_; rintro e w4 ⟨Y, yn, yc, rfl, oy, b2⟩; have t8 := World.block_lt_of_cell? _ _ x8; have t9 := World.block_lt_of_cell? _ _ x9; have y8 := (b2.cell (p := ⟨b8, 0, none⟩) t8).trans x8; have y9 := (b2.cell (p := ⟨b9, 0, none⟩) t9).trans x9; clear t8 t9; go_wp2_with fail
  refine hK.out _ _ ?_ (fun hHeld => ?_)
  · first | assumption | (dsimp only; assumption) | exact ⟨by assumption, by assumption⟩
  clear hK K
  try simp only [Act.put, List.setIfInBounds_toArray, List.set_cons_zero, List.set_cons_succ, List.getElem_toArray, List.getElem_cons_zero, List.getElem_cons_succ]
  refine wpAnyH_take (i := 5) (v := ?_) rfl (by kernel_rfl) (by kernel_rfl) (by kernel_rfl) (fun _ _ _ h => h) (Or.inl ⟨by rfl, ?_⟩) (by assumption) ?_
  rotate_left 1
  · (intro w0 hSw; (try dsimp only at hSw); go_simp; try with_reducible rfl)
  try simp only [Act.put, List.setIfInBounds_toArray, List.set_cons_zero, List.set_cons_succ, List.getElem_toArray, List.getElem_cons_zero, List.getElem_cons_succ]
  refine wpAnyH_done (by kernel_rfl) ?_ _
  have F : AnsLook w.heap.size W (compL us ss i) (.returned (.slice Y yn yc)) w4 := by
    rw [← EC.out]
    exact look_new (w := W) (Own.lower oy (show W.drew.heap.size ≤ w3.heap.size from b1.size)) (next_trans (drew_below W) (next_trans b1 b2))
  have HF := Lib.hid F
  clear F oy s1 b1 b2 HL1 LU p8 p9 x8 x9
  go_wp2
  go_ret
  exact HF.out

/-- what lies behind the two look-ups' making: their variables at b8 and b9, what they have captured at l8 and l9 -/
def Two (w : World) (S : Option Addr) (m c : Nat) (T : Option Addr) (q cq : Nat) (p8 p9 : Value) (wx : World) : Prop :=
  ∃ b8 b9 l8 l9 : Nat, p8 = .pointer (some ⟨b8, 0, none⟩) ∧ p9 = .pointer (some ⟨b9, 0, none⟩) ∧ wx.cell? ⟨b8, 0, none⟩ = some (.func (.func 105) #[] #[.pointer (some ⟨l8, 0, none⟩)]) ∧ wx.cell? ⟨b9, 0, none⟩ = some (.func (.func 105) #[] #[.pointer (some ⟨l9, 0, none⟩)]) ∧
    wx.cell? ⟨l8, 0, none⟩ = some (.slice S m c) ∧ wx.cell? ⟨l9, 0, none⟩ = some (.slice T q cq) ∧ Below w.heap.size w wx

theorem two_mk {w wx : World} {S T : Option Addr} {m c q cq b8 b9 l8 l9 : Nat} (h8 : wx.cell? ⟨b8, 0, none⟩ = some (.func (.func 105) #[] #[.pointer (some ⟨l8, 0, none⟩)])) (h9 : wx.cell? ⟨b9, 0, none⟩ = some (.func (.func 105) #[] #[.pointer (some ⟨l9, 0, none⟩)])) (k8 : wx.cell? ⟨l8, 0, none⟩ = some (.slice S m c)) (k9 : wx.cell? ⟨l9, 0, none⟩ = some (.slice T q cq))
    (hb : Below w.heap.size w wx) : Two w S m c T q cq (.pointer (some ⟨b8, 0, none⟩)) (.pointer (some ⟨b9, 0, none⟩)) wx := ⟨b8, b9, l8, l9, rfl, rfl, h8, h9, k8, k9, hb⟩
theorem keep_alloc {w : World} {a : Addr} {v : Value} {o : Obj} (h : w.cell? a = some v) : (w.alloc o).cell? a = some v := (World.cell?_alloc_some w a o (by rw [h]; rfl)).trans h
theorem cell_top {w : World} {v : Value} {t : TypeId} {n : Nat} (hn : n = w.heap.size) : (w.alloc (.cells #[v] t)).cell? ⟨n, 0, none⟩ = some v := by subst hn; simp
theorem keep_set {w : World} {p a : Addr} {u v : Value} (hne : p.block ≠ a.block) (h : w.cell? a = some v) : (w.setCell p u).cell? a = some v := (World.cell?_setCell_far w p a u hne).trans h

set_option maxHeartbeats 8000000 in
theorem implComposed (A S T : Option Addr) (n c m c' q cq : Nat) (sg : List Int) (ss us : List (List Int)) (w : World) (h : Seg w w.heap.size A n sg) (h' : Segs w w.heap.size S m ss) (h2 : Segs w w.heap.size T q us) (hn : n ≤ 1048576) (ht : tot ss ≤ 1048576) (ht2 : tot us ≤ 1048576) :
    Calls Try.prog 23 #[.agg #[.slice A n c], .agg #[.slice S m c'], .agg #[.slice T q cq]] w (AnsSubB w (composedI sg ss us) (composedB sg ss us)) := by
  obtain ⟨W, hW, rA, r1, r2, r3, bel⟩ := boxes4 w A n c S m c' T q cq
  have HW := Lib.hid hW
  have HT2 := Lib.hid ht2
  have s := h.next bel
  have s1 := h'.next bel
  have s2 := h2.next bel
  have L := Lib.hid (implSubstOk A S n c m c' sg ss W s s1 hn ht)
  clear hW ht ht2 h h' h2
  cases hok : substOkB sg ss with
  | false =>
    have HS := Lib.hid hok
    clear hok s s1 s2
    go_enter Try.func23, Try.ntmps23
    go_wp2_with fail
    rw [← HW.out]
    refine L.out.mono ?_
    rintro e w1 ⟨he, bb⟩
    rw [HS.out] at he
    subst he
    replace r3 := r3.next bb
    replace bel := next_trans bel bb
    have cR : w1.cell? ⟨w.heap.size + 3, 0, none⟩ = some (.slice none 0 0) := r3.cell 0
    have fR : w1.frozen? ⟨w.heap.size + 3, 0, none⟩ = false := r3.free 0
    have F1 := Lib.hid (subB_no (sg := sg) (ss := ss) (us := us) (composed_s HS.out) bel)
    have F2 := Lib.hid (subB_no (sg := sg) (ss := ss) (us := us) (composed_s HS.out) ((bel).setCell (p := ⟨w.heap.size + 3, 0, none⟩) (by simp) (.slice none 0 0)))
    clear bb bel rA r1 r2 r3
    go_wp2
    first
      | exact bodyPost_ret (v := .tuple #[.agg #[.slice none 0 0], .bool false]) (by simp [results, Try.results23, go_sem, cR]) rfl F1.out
      | exact bodyPost_ret (v := .tuple #[.agg #[.slice none 0 0], .bool false]) (by simp [results, Try.results23, go_sem, cR]) rfl F2.out
  | true =>
    have HS := Lib.hid hok
    clear hok
    have hmf : ∀ (fn : Fn) (first cap : Array Value) (w : World), (Instr.makeFunc fn first cap).run Try.prog w = .ok (.func fn first cap) w := fun _ _ _ _ => rfl
    go_enter Try.func23, Try.ntmps23
    go_wp2_with fail
    rw [← HW.out]
    refine L.out.mono ?_
    rintro e w1 ⟨he, bb⟩
    rw [HS.out] at he
    subst he
    replace s := s.next bb
    replace s1 := s1.next bb
    replace s2 := s2.next bb
    replace rA := rA.next bb
    replace r1 := r1.next bb
    replace r2 := r2.next bb
    replace r3 := r3.next bb
    replace bel := next_trans bel bb
    have cA : w1.cell? ⟨w.heap.size, 0, none⟩ = some (.slice A n c) := rA.cell 0
    have cT : w1.cell? ⟨w.heap.size + 2, 0, none⟩ = some (.slice T q cq) := r2.cell 0
    have L2 := Lib.hid (implSubstOk A T n c q cq sg us w1 s s2 hn HT2.out)
    clear bb L rA
    cases hok2 : substOkB sg us with
    | false =>
      have HS2 := Lib.hid hok2
      clear hok2 s s1 s2
      go_wp2_with fail
      refine L2.out.mono ?_
      rintro e w2 ⟨he, bb⟩
      rw [HS2.out] at he
      subst he
      replace r3 := r3.next bb
      replace bel := next_trans bel bb
      have cR : w2.cell? ⟨w.heap.size + 3, 0, none⟩ = some (.slice none 0 0) := r3.cell 0
      have fR : w2.frozen? ⟨w.heap.size + 3, 0, none⟩ = false := r3.free 0
      have F1 := Lib.hid (subB_no (sg := sg) (ss := ss) (us := us) (composed_u HS2.out) bel)
      have F2 := Lib.hid (subB_no (sg := sg) (ss := ss) (us := us) (composed_u HS2.out) ((bel).setCell (p := ⟨w.heap.size + 3, 0, none⟩) (by simp) (.slice none 0 0)))
      clear bb bel r1 r2 r3 cA cT L2 hmf
      go_wp2
      first
        | exact bodyPost_ret (v := .tuple #[.agg #[.slice none 0 0], .bool false]) (by simp [results, Try.results23, go_sem, cR]) rfl F1.out
        | exact bodyPost_ret (v := .tuple #[.agg #[.slice none 0 0], .bool false]) (by simp [results, Try.results23, go_sem, cR]) rfl F2.out
    | true =>
      have HS2 := Lib.hid hok2
      clear hok2
      go_wp2_with fail
      refine L2.out.mono ?_
      rintro e w2 ⟨he, bb⟩
      rw [HS2.out] at he
      subst he
      replace s1 := s1.next bb
      replace s2 := s2.next bb
      replace r1 := r1.next bb
      replace r2 := r2.next bb
      replace r3 := r3.next bb
      replace bel := next_trans bel bb
      clear bb L2 cA cT s
      have cS : w2.cell? ⟨w.heap.size + 1, 0, none⟩ = some (.slice S m c') := r1.cell 0
      have cT : w2.cell? ⟨w.heap.size + 2, 0, none⟩ = some (.slice T q cq) := r2.cell 0
      have z1 := r1.lt
      have z2 := r2.lt
      clear r1 r2
      go_wp2_with fail
      go_cut [8, 9] (fun p8 p9 wx => Two w2 S m c' T q cq p8 p9 wx)
      case first =>
        have HB := Lib.hid bel
        have H3 := Lib.hid r3
        have HS1 := Lib.hid s1
        have HS2 := Lib.hid s2
        clear bel r3 s1 s2
        go_region_held3 (fun w' => w'.cell? ⟨w.heap.size + 1, 0, none⟩ = some (.slice S m c') ∧ w'.cell? ⟨w.heap.size + 2, 0, none⟩ = some (.slice T q cq))
          (((simp only [World.cell?_drew]); (refine ⟨?_, ?_⟩ <;> (repeat (first | exact cS | exact cT | apply keep_alloc)))))
          (first | (go_at_call 64; refine (lookupIn _ _ _ _).mono ?_; rintro e w3 ⟨rfl, rfl⟩))
        all_goals
          go_wp2_with fail
          go_meet
          apply two_mk
          · (simp only [World.cell?_drew]; (repeat (first | (refine cell_top ?_; (simp <;> omega); done) | refine keep_alloc ?_)))
          · (simp only [World.cell?_drew]; (repeat (first | (refine cell_top ?_; (simp <;> omega); done) | refine keep_alloc ?_)))
          · (simp only [World.cell?_drew]; (repeat (first | (refine cell_top ?_; (simp <;> omega); done) | refine keep_alloc ?_)))
          · (simp only [World.cell?_drew]; (repeat (first | (refine cell_top ?_; (simp <;> omega); done) | refine keep_alloc ?_)))
          · (refine Below.drew ?_; (repeat (refine Below.alloc ?_ (by first | (simp; done) | (simp; omega)) _)); exact Below.refl _ _)
      case rest =>
        rename World => wc
        obtain ⟨b8, b9, l8, l9, rfl, rfl, c8, c9, k8, k9, bc⟩ := hcut
        replace s1 := s1.next bc
        replace s2 := s2.next bc
        replace r3 := r3.next bc
        replace bel := next_trans bel bc
        have LB := lookBoth b8 b9 l8 l9 S m c' T q cq sg ss us wc HS.out HS2.out (World.block_lt_of_cell? _ _ c8) (World.block_lt_of_cell? _ _ c9) (World.block_lt_of_cell? _ _ k8) (World.block_lt_of_cell? _ _ k9) c8 c9 k8 k9 s1 s2
        have LP := Lib.hid (plain 69 #[.pointer (some ⟨b9, 0, none⟩), .pointer (some ⟨b8, 0, none⟩)] (enters_of Try.func69 (by kernel_rfl) rfl) (compL us ss) wc LB (comp_pos us ss) (fun i => Nat.le_trans (comp_len HS.out HS2.out i) (by omega)))
        have HE := Lib.hid (plain_each (L := compL us ss) (m := 24) (comp_len HS.out HS2.out))
        have HLN := Lib.hid (plain_len (compL us ss) 24)
        have AL := Lib.hid (anyLong_comp us ss)
        have CB := Lib.hid (composed_b HS.out HS2.out)
        clear LB c8 c9 k8 k9 bc s1 s2 cS cT z1 z2
        go_wp2_with fail
        refine LP.out.mono ?_
        rintro e w4 ⟨O, on, oc, rfl, ho, b4⟩
        have hlt3 := r3.lt
        have bel4 := next_trans bel b4
        have r4 := (r3.next b4).alloc (.cells #[.slice O on oc] 29)
        have B5 : Below w4.heap.size w4 (w4.alloc (.cells #[.slice O on oc] 29)) := (Below.refl _ _).alloc (Nat.le_refl _) _
        have ho5 := ho.next B5
        have bel5 := next_trans bel4 B5
        have hon : on ≤ 24 := by rw [← ho.len]; exact HLN.out
        have LC := Lib.hid (containsLong O on oc (plainL (compL us ss) 24) (w4.alloc (.cells #[.slice O on oc] 29)) ho5.segs (by omega) (fun j => Nat.le_trans (HE.out j) (by omega)))
        have cR : (w4.alloc (.cells #[.slice O on oc] 29)).cell? ⟨w.heap.size + 3, 0, none⟩ = some (.slice none 0 0) := r4.cell 0
        have fR : (w4.alloc (.cells #[.slice O on oc] 29)).frozen? ⟨w.heap.size + 3, 0, none⟩ = false := r4.free 0
        have cO : (w4.alloc (.cells #[.slice O on oc] 29)).cell? ⟨w4.heap.size, 0, none⟩ = some (.slice O on oc) := (Row.new w4 _ _).cell 0
        have F1 := Lib.hid (fun hno : composedB sg ss us = false => subB_no hno bel5)
        have F2 := Lib.hid (fun hno : composedB sg ss us = false => subB_no hno (bel5.setCell (p := ⟨w.heap.size + 3, 0, none⟩) (by simp) (.slice none 0 0)))
        have F3 : Hid (composedB sg ss us = true → AnsSubB w (composedI sg ss us) (composedB sg ss us) (.returned (.tuple #[.agg #[.slice O on oc], .bool true])) ((w4.alloc (.cells #[.slice O on oc] 29)).setCell ⟨w.heap.size + 3, 0, none⟩ (.slice O on oc))) :=
          Lib.hid fun hyes => ⟨O, on, oc, by rw [hyes], by rw [composed_yes hyes]; have hwc := bel.size; exact (owns_put ho5 r4 hlt3 0 _).wider hwc (by simp), bel5.setCell (by simp) _⟩
        clear r3 r4 ho ho5 B5 b4 bel bel4 bel5 LP
        go_wp2_with fail
        refine LC.out.mono ?_
        rintro e w6 ⟨rfl, rfl⟩
        rw [AL.out]
        cases hc : compOk us ss with
        | false =>
          have hno : composedB sg ss us = false := CB.out.trans hc
          have G1 := Lib.hid (F1.out hno)
          have G2 := Lib.hid (F2.out hno)
          clear hc hno F1 F2 F3 LC
          go_wp2
          first
            | exact bodyPost_ret (v := .tuple #[.agg #[.slice none 0 0], .bool false]) (by simp [results, Try.results23, go_sem, cR]) rfl G1.out
            | exact bodyPost_ret (v := .tuple #[.agg #[.slice none 0 0], .bool false]) (by simp [results, Try.results23, go_sem, cR]) rfl G2.out
        | true =>
          have G3 := Lib.hid (F3.out (CB.out.trans hc))
          clear hc F1 F2 F3 LC
          go_wp2
          exact bodyPost_ret (v := .tuple #[.agg #[.slice O on oc], .bool true]) (by simp [results, Try.results23, go_sem, cR]) rfl G3.out
end Go.Proofs.Ytdeegjeopkcomaa.compImpl
end

section
/-
  CONTRACT: laws.big: more than 4096 bytes. Conditions: none. By an AI agent.
-/
namespace Go.Proofs.Ytdeegjeopkcomaa.bigs
open Go.RowKit Go.Proofs.Ytdeegjeopkcomaa.base Go.Proofs.Ytdeegjeopkcomaa.ints

theorem bigAns (A : Option Addr) (n c : Nat) (b : Bool) (w : World) (hb : decide (4096 < n) = b) (hn : n ≤ 9223372036854775807) : Calls Try.prog 17 #[.slice A n c] w fun e w' => w = w' ∧ e = .returned (.bool b) := by
  cases b with
  | true =>
    have h : (4096 : Int) < (n : Int) := by have := of_decide_eq_true hb; omega
    clear hb
    go_enter Try.func17, Try.ntmps17
    go_wp2
    go_ret
    exact ⟨rfl, rfl⟩
  | false =>
    have h : ¬ (4096 : Int) < (n : Int) := by have := of_decide_eq_false hb; omega
    have h2 : decide (4096 < n) = false := hb
    clear hb
    go_enter Try.func17, Try.ntmps17
    go_wp2
    go_ret
    exact ⟨rfl, rfl⟩
end Go.Proofs.Ytdeegjeopkcomaa.bigs
end

section
/-
  THE WALK of laws.FnFilled: it returns true, whatever the bytes, and writes nothing that was there. Conditions: the slice holds bytes. By an AI agent.
-/
namespace Go.Proofs.Ytdeegjeopkcomaa.wFnFilled
open Go.RowKit Go.Proofs.Ytdeegjeopkcomaa.base Go.Proofs.Ytdeegjeopkcomaa.ints Go.Proofs.Ytdeegjeopkcomaa.sig Go.Proofs.Ytdeegjeopkcomaa.same Go.Proofs.Ytdeegjeopkcomaa.term Go.Proofs.Ytdeegjeopkcomaa.cursor Go.Proofs.Ytdeegjeopkcomaa.termOk Go.Proofs.Ytdeegjeopkcomaa.marks Go.Proofs.Ytdeegjeopkcomaa.app Go.Proofs.Ytdeegjeopkcomaa.sym Go.Proofs.Ytdeegjeopkcomaa.segs Go.Proofs.Ytdeegjeopkcomaa.segsHelp Go.Proofs.Ytdeegjeopkcomaa.dice Go.Proofs.Ytdeegjeopkcomaa.drawVar Go.Proofs.Ytdeegjeopkcomaa.drawSS Go.Proofs.Ytdeegjeopkcomaa.varsOf Go.Proofs.Ytdeegjeopkcomaa.substOk Go.Proofs.Ytdeegjeopkcomaa.gives Go.Proofs.Ytdeegjeopkcomaa.filled Go.Proofs.Ytdeegjeopkcomaa.compMath Go.Proofs.Ytdeegjeopkcomaa.compSpec Go.Proofs.Ytdeegjeopkcomaa.compImpl Go.Proofs.Ytdeegjeopkcomaa.plainFacts Go.Proofs.Ytdeegjeopkcomaa.bigs

/-- what stands after the draws: variables at v3, v4, v8 -/
structure F1 (w : World) (v3 v4 v8 : Nat) (S : Option Addr) (sn sc : Nat) (sg : List Int) (B : Option Addr) (m cB : Nat) (ss : List (List Int)) (O : Option Addr) (on : Nat) (t : List Int) (U : Option Addr) (q cU : Nat) (us : List (List Int)) (wr : World) : Prop where
  s : Seg wr wr.heap.size S sn sg
  b : Segs wr wr.heap.size B m ss
  o : Seg wr wr.heap.size O on t
  u : Segs wr wr.heap.size U q us
  r3 : Row wr v3 26 #[.slice S sn sc]
  r4 : Row wr v4 29 #[.slice B m cB]
  r8 : Row wr v8 29 #[.slice U q cU]
  bel : Below w.heap.size w wr
section
variable {w : World} {v3 v4 v8 : Nat} {S : Option Addr} {sn sc : Nat} {sg : List Int} {B : Option Addr} {m cB : Nat} {ss : List (List Int)} {O : Option Addr} {on : Nat} {t : List Int} {U : Option Addr} {q cU : Nat} {us : List (List Int)} {wr w' : World}
theorem F1.next (f : F1 w v3 v4 v8 S sn sc sg B m cB ss O on t U q cU us wr) (hb : Below wr.heap.size wr w') : F1 w v3 v4 v8 S sn sc sg B m cB ss O on t U q cU us w' :=
  ⟨f.s.next hb, f.b.next hb, f.o.next hb, f.u.next hb, f.r3.next hb, f.r4.next hb, f.r8.next hb, next_trans f.bel hb⟩
end
theorem below_alloc (w : World) (x : Obj) : Below w.heap.size w (w.alloc x) := (Below.refl _ _).alloc (Nat.le_refl _) _
theorem below_drewN (w : World) (d : Nat) : Below w.heap.size w (w.drewN d) := ⟨rfl, rfl, rfl, Nat.le_refl _, fun _ _ => rfl⟩

set_option maxRecDepth 100000 in
set_option maxHeartbeats 8000000 in
theorem law (A : Option Addr) (n c : Nat) (_ : List Int) (w : World) (h : SegB w w.heap.size A n) (hN : n ≤ 9223372036854775807) :
    Calls Try.prog 3 #[.slice A n c] w (Fine w) := by
  by_cases hbig : n ≤ 4096
  · have LB := Lib.hid (bigAns A n c false w (by simp; omega) hN)
    go_enter Try.func3, Try.ntmps3
    go_wp2_with fail
    refine LB.out.mono ?_
    rintro e w' ⟨rfl, rfl⟩
    clear LB
    go_wp2_with fail
    refine (drawFilled A n c w h hbig).mono ?_
    rintro e w2 ⟨S, sn, sc, sg, B, m, cB, ss, O, on, oc, t, rfl, s1, s2, s3, hsn, hst, hon, b2⟩
    obtain ⟨v3, h3⟩ : ∃ v, w2.heap.size = v := ⟨_, rfl⟩
    obtain ⟨W, hW⟩ : ∃ W, W = (w2.alloc (.cells #[.slice S sn sc] 26)).alloc (.cells #[.slice B m cB] 29) := ⟨_, rfl⟩
    have bb : Below w2.heap.size w2 W := by rw [hW]; exact (below_alloc _ _).trans ((below_alloc _ _).mono (by simp))
    have r3 : Row W v3 26 #[.slice S sn sc] := by rw [hW, ← h3]; exact (Row.new _ _ _).alloc _
    have r4 : Row W (v3 + 1) 29 #[.slice B m cB] := by rw [hW, ← h3]; have := Row.new (w2.alloc (.cells #[.slice S sn sc] 26)) 29 #[.slice B m cB]; simpa using this
    have b3 := next_trans b2 bb
    have hB := segB_below h b3
    replace s1 := s1.next bb
    replace s2 := s2.next bb
    replace s3 := s3.next bb
    have HW := Lib.hid hW
    have H3 := Lib.hid h3
    clear h hW h3 bb b2
    go_wp2_with fail
    rw [← HW.out, H3.out]
    refine (drawComposed A n c W hB hbig).mono ?_
    rintro e w4 ⟨S', sn', sc', sg', B', m', cB', xs', U, q, cU, us, rfl, q1, q2, q3, hsn', hxt', hut, b4⟩
    obtain ⟨v6, h6⟩ : ∃ v, w4.heap.size = v := ⟨_, rfl⟩
    obtain ⟨W2, hW2⟩ : ∃ W, W = ((w4.alloc (.cells #[.slice S' sn' sc'] 26)).alloc (.cells #[.slice B' m' cB'] 29)).alloc (.cells #[.slice U q cU] 29) := ⟨_, rfl⟩
    have bb : Below w4.heap.size w4 W2 := by rw [hW2]; exact ((below_alloc _ _).trans ((below_alloc _ _).mono (by simp))).trans ((below_alloc _ _).mono (by simp; omega))
    have T : F1 w v3 (v3 + 1) (v6 + 2) S sn sc sg B m cB ss O on t U q cU us W2 := by
      have b5 := next_trans b4 bb
      exact ⟨s1.next b5, s2.next b5, s3.next b5, q3.next bb, r3.next b5, r4.next b5, by rw [hW2, ← h6]; have := Row.new ((w4.alloc (.cells #[.slice S' sn' sc'] 26)).alloc (.cells #[.slice B' m' cB'] 29)) 29 #[.slice U q cU]; simpa using this, next_trans b3 b5⟩
    have k3 : (((w4.alloc (.cells #[.slice S' sn' sc'] 26)).alloc (.cells #[.slice B' m' cB'] 29)).alloc (.cells #[.slice U q cU] 29)).cell? ⟨v3, 0, none⟩ = some (.slice S sn sc) := by rw [← hW2]; exact T.r3.cell 0
    have k4 : (((w4.alloc (.cells #[.slice S' sn' sc'] 26)).alloc (.cells #[.slice B' m' cB'] 29)).alloc (.cells #[.slice U q cU] 29)).cell? ⟨v3 + 1, 0, none⟩ = some (.slice B m cB) := by rw [← hW2]; exact T.r4.cell 0
    obtain ⟨v4, h4⟩ : ∃ v, v3 + 1 = v := ⟨_, rfl⟩
    obtain ⟨v8, h8⟩ : ∃ v, v6 + 2 = v := ⟨_, rfl⟩
    rw [h4, h8] at T
    have HW2 := Lib.hid hW2
    have H4 := Lib.hid h4
    have H6 := Lib.hid h6
    have H8 := Lib.hid h8
    clear s1 s2 s3 q1 q2 q3 r3 r4 bb b3 b4 hW2 h6 h4 h8 hsn' hxt' hB
    have c3 : W2.cell? ⟨v3, 0, none⟩ = some (.slice S sn sc) := T.r3.cell 0
    have c4 : W2.cell? ⟨v4, 0, none⟩ = some (.slice B m cB) := T.r4.cell 0
    obtain ⟨b, hb⟩ : ∃ b, filledB sg ss t = b := ⟨_, rfl⟩
    obtain ⟨xs, hxs⟩ : ∃ xs, filledL sg ss t = xs := ⟨_, rfl⟩
    have HB := Lib.hid hb
    have HX := Lib.hid hxs
    have hxl : xs.length ≤ 60 := by rw [← hxs]; exact filled_len _ _ _
    have HBB := Lib.hid (show (b != b) = false by simp)
    clear hb hxs
    go_wp2_with fail
    rw [← HW2.out, H6.out, H4.out, H8.out]
    clear k3 k4
    refine (implFilled S B O sn sc m cB on oc sg ss t _ T.s T.b T.o (by omega) hst (by omega)).mono ?_
    rintro e w5 ⟨X, xn, xc, he, ox, bb⟩
    rw [HB.out] at he
    subst he
    rw [HX.out] at ox
    have sx := Own.seg ox
    have hxn : xn ≤ 60 := by rw [Own.len ox]; exact hxl
    have HXN := Lib.hid (Own.len ox)
    replace T := T.next bb
    clear bb ox
    replace c3 : w5.cell? ⟨v3, 0, none⟩ = some (.slice S sn sc) := T.r3.cell 0
    replace c4 : w5.cell? ⟨v4, 0, none⟩ = some (.slice B m cB) := T.r4.cell 0
    go_wp2_with fail
    refine (specFilled S B O sn sc m cB on oc sg ss t _ T.s T.b T.o (by omega) hst (by omega)).mono ?_
    rintro e w6 ⟨P, pn, pc, he, sp, bb⟩
    rw [HB.out] at he
    subst he
    rw [HX.out] at sp
    have hpn : pn ≤ 60 := by rw [← sp.1]; exact hxl
    replace T := T.next bb
    replace sx := sx.next bb
    clear bb c3 c4
    have ebb := HBB.out
    go_wp2_with fail
    refine (implSame X P xn pn xc pc xs xs _ sx sp (by omega) (by omega)).mono ?_
    rintro e w7 ⟨he, d1, rfl⟩
    rw [decide_eq_true rfl] at he
    subst he
    have bb := below_drewN w6 d1
    replace T := T.next bb
    replace sx := sx.next bb
    clear bb sp ebb
    generalize w6.drewN d1 = w7 at *
    have c3 : w7.cell? ⟨v3, 0, none⟩ = some (.slice S sn sc) := T.r3.cell 0
    have c4 : w7.cell? ⟨v4, 0, none⟩ = some (.slice B m cB) := T.r4.cell 0
    have c8 : w7.cell? ⟨v8, 0, none⟩ = some (.slice U q cU) := T.r8.cell 0
    obtain ⟨b2, hb2⟩ : ∃ b2, composedB sg ss us = b2 := ⟨_, rfl⟩
    obtain ⟨cs, hcs⟩ : ∃ cs, composedI sg ss us = cs := ⟨_, rfl⟩
    have HB2 := Lib.hid hb2
    have HC := Lib.hid hcs
    have hct : tot cs ≤ 1048576 := by rw [← hcs]; exact composed_tot
    clear hb2 hcs
    go_wp2_with fail
    refine (implComposed S B U sn sc m cB q cU sg ss us _ T.s T.b T.u (by omega) hst hut).mono ?_
    rintro e w8 ⟨C, cn, cc, he, oc8, bb⟩
    rw [HB2.out] at he
    subst he
    rw [HC.out] at oc8
    replace T := T.next bb
    replace sx := sx.next bb
    obtain ⟨v13, h13⟩ : ∃ v, w8.heap.size = v := ⟨_, rfl⟩
    obtain ⟨W9, hW9⟩ : ∃ W, W = w8.alloc (.cells #[.slice C cn cc] 29) := ⟨_, rfl⟩
    have bb9 : Below w8.heap.size w8 W9 := by rw [hW9]; exact below_alloc _ _
    have rC : Row W9 v13 29 #[.slice C cn cc] := by rw [hW9, ← h13]; exact Row.new _ _ _
    have sC := (oc8.segs).next bb9
    replace T := T.next bb9
    replace sx := sx.next bb9
    have HW9 := Lib.hid hW9
    have H13 := Lib.hid h13
    have k3 : (w8.alloc (.cells #[.slice C cn cc] 29)).cell? ⟨v3, 0, none⟩ = some (.slice S sn sc) := by rw [← hW9]; exact T.r3.cell 0
    have k8 : (w8.alloc (.cells #[.slice C cn cc] 29)).cell? ⟨v8, 0, none⟩ = some (.slice U q cU) := by rw [← hW9]; exact T.r8.cell 0
    clear bb bb9 oc8 hW9 h13
    replace c3 : W9.cell? ⟨v3, 0, none⟩ = some (.slice S sn sc) := T.r3.cell 0
    replace c8 : W9.cell? ⟨v8, 0, none⟩ = some (.slice U q cU) := T.r8.cell 0
    clear c4
    obtain ⟨b3, hb3⟩ : ∃ b3, filledB sg us xs = b3 := ⟨_, rfl⟩
    obtain ⟨ys, hys⟩ : ∃ ys, filledL sg us xs = ys := ⟨_, rfl⟩
    have HB3 := Lib.hid hb3
    have HY := Lib.hid hys
    have hyl : ys.length ≤ 60 := by rw [← hys]; exact filled_len _ _ _
    clear hb3 hys
    go_wp2_with fail
    rw [← HW9.out, H13.out]
    clear k3 k8
    refine (implFilled S U X sn sc q cU xn xc sg us xs _ T.s T.u sx (by omega) hut (by omega)).mono ?_
    rintro e w10 ⟨Y, yn, yc, he, oy, bb⟩
    rw [HB3.out] at he
    subst he
    rw [HY.out] at oy
    have sy := Own.seg oy
    have hyn : yn ≤ 60 := by rw [Own.len oy]; exact hyl
    replace T := T.next bb
    replace rC := rC.next bb
    replace sC := sC.next bb
    clear bb oy sx c8
    replace c3 : w10.cell? ⟨v3, 0, none⟩ = some (.slice S sn sc) := T.r3.cell 0
    have c13 : w10.cell? ⟨v13, 0, none⟩ = some (.slice C cn cc) := rC.cell 0
    obtain ⟨b4, hb4⟩ : ∃ b4, filledB sg cs t = b4 := ⟨_, rfl⟩
    obtain ⟨zs, hzs⟩ : ∃ zs, filledL sg cs t = zs := ⟨_, rfl⟩
    have HB4 := Lib.hid hb4
    have HZ := Lib.hid hzs
    have hzl : zs.length ≤ 60 := by rw [← hzs]; exact filled_len _ _ _
    clear hb4 hzs
    go_wp2_with fail
    refine (implFilled S C O sn sc cn cc on oc sg cs t _ T.s sC T.o (by omega) hct (by omega)).mono ?_
    rintro e w11 ⟨Z, zn, zc, he, oz, bb⟩
    rw [HB4.out] at he
    subst he
    rw [HZ.out] at oz
    have sz := Own.seg oz
    have hzn : zn ≤ 60 := by rw [Own.len oz]; exact hzl
    replace T := T.next bb
    replace rC := rC.next bb
    replace sC := sC.next bb
    replace sy := sy.next bb
    clear bb oz
    replace c3 : w11.cell? ⟨v3, 0, none⟩ = some (.slice S sn sc) := T.r3.cell 0
    replace c13 : w11.cell? ⟨v13, 0, none⟩ = some (.slice C cn cc) := rC.cell 0
    cases b with
    | false =>
      have hx0 : xn = 0 := by rw [HXN.out, ← HX.out]; unfold filledL; rw [if_neg (by rw [HB.out]; simp)]; rfl
      subst hx0
      have TB := Lib.hid T.bel
      clear T rC sC sy sz c3 c13
      go_wp2
      go_ret
      exact ⟨rfl, TB.out⟩
    | true =>
      cases b2 with
      | false =>
        have TB := Lib.hid T.bel
        clear T rC sC sy sz c3 c13
        go_wp2
        go_ret
        exact ⟨rfl, TB.out⟩
      | true =>
        cases b3 with
        | false =>
          have TB := Lib.hid T.bel
          clear T rC sC sy sz c3 c13
          go_wp2
          go_ret
          exact ⟨rfl, TB.out⟩
        | true =>
          have CF := comp_facts HB2.out HB.out (by rw [HX.out]; exact HB3.out)
          rw [HC.out, HX.out, HB4.out, HZ.out, HY.out] at CF
          obtain ⟨f1, f2, f3⟩ := CF
          subst f2
          subst f3
          have HF := Lib.hid f1
          clear f1
          go_wp2_with fail
          refine (implSame Y Z yn zn yc zc _ _ _ sy sz (by omega) (by omega)).mono ?_
          rintro e w12 ⟨he, d2, rfl⟩
          rw [decide_eq_true rfl] at he
          subst he
          have bb := below_drewN w11 d2
          replace T := T.next bb
          replace rC := rC.next bb
          replace sC := sC.next bb
          clear bb sy sz c3 c13
          generalize w11.drewN d2 = w12 at *
          have c3 : w12.cell? ⟨v3, 0, none⟩ = some (.slice S sn sc) := T.r3.cell 0
          have c13 : w12.cell? ⟨v13, 0, none⟩ = some (.slice C cn cc) := rC.cell 0
          go_wp2_with fail
          refine (implSubstOk S C sn sc cn cc sg cs _ T.s sC (by omega) hct).mono ?_
          rintro e w13 ⟨he, bb⟩
          rw [HF.out] at he
          subst he
          have TB := Lib.hid (T.next bb).bel
          clear bb T rC sC c3 c13
          go_wp2
          go_ret
          exact ⟨rfl, TB.out⟩
  · have LB := Lib.hid (bigAns A n c true w (by simp; omega) hN)
    clear h
    go_enter Try.func3, Try.ntmps3
    go_wp2_with fail
    refine LB.out.mono ?_
    rintro e w' ⟨rfl, rfl⟩
    clear LB
    go_wp2
    go_ret
    exact ⟨rfl, Below.refl _ _⟩
end Go.Proofs.Ytdeegjeopkcomaa.wFnFilled
end
