/-
  CONTRACTS: spec.Composed. Conditions: the slices read as lists ('Seg', 'Segs'), at most 1048576 values. (The region's walk by wip/tools/reg.py.) By an AI agent.
-/
import Derived.Test.YtdeegjeopkcomaaCompMath
import Derived.Test.YtdeegjeopkcomaaFilled
import Derived.Test.YtdeegjeopkcomaaMax
import Derived.Deep.RegionHeld3
namespace Go.Proofs.Ytdeegjeopkcomaa.compSpec
open Go.RowKit Go.Proofs.Ytdeegjeopkcomaa.base Go.Proofs.Ytdeegjeopkcomaa.ints Go.Proofs.Ytdeegjeopkcomaa.sig Go.Proofs.Ytdeegjeopkcomaa.cursor Go.Proofs.Ytdeegjeopkcomaa.marks Go.Proofs.Ytdeegjeopkcomaa.app Go.Proofs.Ytdeegjeopkcomaa.appAt Go.Proofs.Ytdeegjeopkcomaa.sym Go.Proofs.Ytdeegjeopkcomaa.segs Go.Proofs.Ytdeegjeopkcomaa.segsHelp Go.Proofs.Ytdeegjeopkcomaa.kinds Go.Proofs.Ytdeegjeopkcomaa.termFacts Go.Proofs.Ytdeegjeopkcomaa.fillMath Go.Proofs.Ytdeegjeopkcomaa.substOk Go.Proofs.Ytdeegjeopkcomaa.gives Go.Proofs.Ytdeegjeopkcomaa.shifted Go.Proofs.Ytdeegjeopkcomaa.filled Go.Proofs.Ytdeegjeopkcomaa.plainMath Go.Proofs.Ytdeegjeopkcomaa.plain Go.Proofs.Ytdeegjeopkcomaa.plainOf Go.Proofs.Ytdeegjeopkcomaa.compMath Go.Proofs.Ytdeegjeopkcomaa.maxi
set_option maxRecDepth 100000

/-- a substitution of the call's own, and whether -/
def AnsSubB (w : World) (xss : List (List Int)) (b : Bool) (e : Ending) (w' : World) : Prop := ∃ A n c, e = .returned (.tuple #[.agg #[.slice A n c], .bool b]) ∧ Owns w' w.heap.size w'.heap.size A n c xss ∧ Below w.heap.size w w'
theorem subB_no {w w' : World} {sg : List Int} {ss us : List (List Int)} (h : composedB sg ss us = false) (hb : Below w.heap.size w w') : AnsSubB w (composedI sg ss us) (composedB sg ss us) (.returned (.tuple #[.agg #[.slice none 0 0], .bool false])) w' :=
  ⟨none, 0, 0, by rw [h], by rw [composed_no h]; exact Owns.nil _ _ _, hb⟩
/-- four boxes: three parameters and the result -/
theorem boxes4 (w : World) (A : Option Addr) (n c : Nat) (S : Option Addr) (m c' : Nat) (T : Option Addr) (q cq : Nat) : ∃ W, W = (((w.alloc (.cells #[.slice A n c] 26)).alloc (.cells #[.slice S m c'] 29)).alloc (.cells #[.slice T q cq] 29)).alloc (.cells #[.slice none 0 0] 29) ∧
    Row W w.heap.size 26 #[.slice A n c] ∧ Row W (w.heap.size + 1) 29 #[.slice S m c'] ∧ Row W (w.heap.size + 2) 29 #[.slice T q cq] ∧ Row W (w.heap.size + 3) 29 #[.slice none 0 0] ∧ Below w.heap.size w W := by
  obtain ⟨W, hW, r1, r2, b⟩ := boxes2 w A n c S m c'
  have hz : W.heap.size = w.heap.size + 2 := by rw [hW]; simp
  have hz2 : (W.alloc (.cells #[.slice T q cq] 29)).heap.size = w.heap.size + 3 := by simp [hz]
  refine ⟨_, rfl, ?_, ?_, ?_, ?_, ?_⟩
  · rw [← hW]; exact (r1.alloc _).alloc _
  · rw [← hW]; exact (r2.alloc _).alloc _
  · rw [← hW, ← hz]; exact (Row.new _ _ _).alloc _
  · rw [← hW, ← hz2]; exact Row.new _ _ _
  · rw [← hW]; exact (b.alloc b.size _).alloc (by simp; have := b.size; omega) _

/-- the head of the loop: the result so far lies in block o -/
def HeadC (w : World) (o M : Nat) (S : Option Addr) (m c : Nat) (T : Option Addr) (q cq : Nat) (ss us : List (List Int)) (i : Value) (wr : World) : Prop :=
  ∃ (k : Nat) (A : Option Addr) (cA : Nat), k ≤ M ∧ i = .int .i64 k ∧ (∀ j, j < k → (compL us ss j).length ≤ 60) ∧ Owns wr (o + 1) wr.heap.size A k cA (outL us ss k) ∧ Row wr (w.heap.size + 1) 29 #[.slice S m c] ∧ Row wr (w.heap.size + 2) 29 #[.slice T q cq] ∧
    Row wr (w.heap.size + 3) 29 #[.slice none 0 0] ∧ Row wr o 29 #[.slice A k cA] ∧ Below w.heap.size w wr
theorem headC_step {w wr w5 w6 : World} {S T A A' : Option Addr} {o M m c q cq k cA c' : Nat} {ss us : List (List Int)} (hk : k < M) (hoz : w.heap.size + 3 < o) (hlow : ∀ j, j < k → (compL us ss j).length ≤ 60) (hkk : (compL us ss k).length ≤ 60) (ho : Owns w6 (o + 1) w6.heap.size A' (k + 1) c' (outL us ss (k + 1)))
    (r1 : Row wr (w.heap.size + 1) 29 #[.slice S m c]) (r2 : Row wr (w.heap.size + 2) 29 #[.slice T q cq]) (r3 : Row wr (w.heap.size + 3) 29 #[.slice none 0 0]) (ro : Row wr o 29 #[.slice A k cA]) (hb : Below w.heap.size w wr)
    (bb : Below wr.heap.size wr w5) (hg : w5.grownBy w6 (blk A)) (hA : ∀ z, blk A = some z → o + 1 ≤ z) :
    HeadC w o M S m c T q cq ss us (.int .i64 ((k : Int) + 1)) (w6.setCell ⟨o, 0, none⟩ (.slice A' (k + 1) c')) := by
  have q1 := Row.away (r1.next bb) hg (fun e => by have := hA _ e; omega)
  have q2 := Row.away (r2.next bb) hg (fun e => by have := hA _ e; omega)
  have q3 := Row.away (r3.next bb) hg (fun e => by have := hA _ e; omega)
  have qo := Row.away (ro.next bb) hg (fun e => by have := hA _ e; omega)
  have hbb : Below w.heap.size w w6 := (hb.trans (bb.mono hb.size)).grown hg (by have := hb.size; have := bb.size; omega) (fun z hz => by have := hA z hz; omega)
  refine ⟨k + 1, A', c', hk, by simp, fun j hj => ?_, ?_, q1.far (by simp; omega) _, q2.far (by simp; omega) _, q3.far (by simp; omega) _, ?_, hbb.setCell (by simp; omega) _⟩
  · by_cases e : j = k
    · rw [e]; exact hkk
    · exact hlow j (by omega)
  · have := owns_put ho qo (by omega) 0 (.slice A' (k + 1) c')
    simpa using this
  · have := qo.put 0 (.slice A' (k + 1) c')
    simpa using this

set_option maxHeartbeats 8000000 in
theorem specComposed (A S T : Option Addr) (n c m c' q cq : Nat) (sg : List Int) (ss us : List (List Int)) (w : World) (h : Seg w w.heap.size A n sg) (h' : Segs w w.heap.size S m ss) (h2 : Segs w w.heap.size T q us) (hn : n ≤ 1048576) (ht : tot ss ≤ 1048576) (ht2 : tot us ≤ 1048576) :
    Calls Try.prog 56 #[.agg #[.slice A n c], .agg #[.slice S m c'], .agg #[.slice T q cq]] w (AnsSubB w (composedI sg ss us) (composedB sg ss us)) := by
  obtain ⟨W, hW, rA, r1, r2, r3, bel⟩ := boxes4 w A n c S m c' T q cq
  have HW := Lib.hid hW
  have HL1 := Lib.hid h'.1
  have HL2 := Lib.hid h2.1
  have HT1 := Lib.hid ht
  have HT2 := Lib.hid ht2
  have s := h.next bel
  have s1 := h'.next bel
  have s2 := h2.next bel
  have L := Lib.hid (specSubstOk A S n c m c' sg ss W s s1 hn ht)
  clear hW ht ht2
  cases hok : substOkB sg ss with
  | false =>
    have HS := Lib.hid hok
    clear hok s s1 s2 h h' h2
    go_enter Try.func56, Try.ntmps56
    go_wp2_with fail
    rw [← HW.out]
    refine L.out.mono ?_
    rintro e w1 ⟨he, bb⟩
    rw [HS.out] at he
    subst he
    replace r3 := r3.next bb
    replace bel := next_trans bel bb
    have cR : w1.cell? ⟨w.heap.size + 3, 0, none⟩ = some (.slice none 0 0) := r3.cell 0
    have fR : w1.frozen? ⟨w.heap.size + 3, 0, none⟩ = false := r3.free 0
    have F1 := Lib.hid (subB_no (sg := sg) (ss := ss) (us := us) (composed_s HS.out) bel)
    have F2 := Lib.hid (subB_no (sg := sg) (ss := ss) (us := us) (composed_s HS.out) ((bel).setCell (p := ⟨w.heap.size + 3, 0, none⟩) (by simp) (.slice none 0 0)))
    clear bb bel rA r1 r2 r3
    go_wp2
    first
      | exact bodyPost_ret (v := .tuple #[.agg #[.slice none 0 0], .bool false]) (by simp [results, Try.results56, go_sem, cR]) rfl F1.out
      | exact bodyPost_ret (v := .tuple #[.agg #[.slice none 0 0], .bool false]) (by simp [results, Try.results56, go_sem, cR]) rfl F2.out
  | true =>
    have HS := Lib.hid hok
    clear hok
    go_enter Try.func56, Try.ntmps56
    go_wp2_with fail
    rw [← HW.out]
    refine L.out.mono ?_
    rintro e w1 ⟨he, bb⟩
    rw [HS.out] at he
    subst he
    replace s := s.next bb
    replace s1 := s1.next bb
    replace s2 := s2.next bb
    replace rA := rA.next bb
    replace r1 := r1.next bb
    replace r2 := r2.next bb
    replace r3 := r3.next bb
    replace bel := next_trans bel bb
    have cA : w1.cell? ⟨w.heap.size, 0, none⟩ = some (.slice A n c) := rA.cell 0
    have cT : w1.cell? ⟨w.heap.size + 2, 0, none⟩ = some (.slice T q cq) := r2.cell 0
    have L2 := Lib.hid (specSubstOk A T n c q cq sg us w1 s s2 hn HT2.out)
    clear bb L rA
    cases hok2 : substOkB sg us with
    | false =>
      have HS2 := Lib.hid hok2
      clear hok2 s s1 s2 h h' h2
      go_wp2_with fail
      refine L2.out.mono ?_
      rintro e w2 ⟨he, bb⟩
      rw [HS2.out] at he
      subst he
      replace r3 := r3.next bb
      replace bel := next_trans bel bb
      have cR : w2.cell? ⟨w.heap.size + 3, 0, none⟩ = some (.slice none 0 0) := r3.cell 0
      have fR : w2.frozen? ⟨w.heap.size + 3, 0, none⟩ = false := r3.free 0
      have F1 := Lib.hid (subB_no (sg := sg) (ss := ss) (us := us) (composed_u HS2.out) bel)
      have F2 := Lib.hid (subB_no (sg := sg) (ss := ss) (us := us) (composed_u HS2.out) ((bel).setCell (p := ⟨w.heap.size + 3, 0, none⟩) (by simp) (.slice none 0 0)))
      clear bb bel r1 r2 r3 cA cT L2
      go_wp2
      first
        | exact bodyPost_ret (v := .tuple #[.agg #[.slice none 0 0], .bool false]) (by simp [results, Try.results56, go_sem, cR]) rfl F1.out
        | exact bodyPost_ret (v := .tuple #[.agg #[.slice none 0 0], .bool false]) (by simp [results, Try.results56, go_sem, cR]) rfl F2.out
    | true =>
      have HS2 := Lib.hid hok2
      clear hok2
      go_wp2_with fail
      refine L2.out.mono ?_
      rintro e w2 ⟨he, bb⟩
      rw [HS2.out] at he
      subst he
      replace r1 := r1.next bb
      replace r2 := r2.next bb
      replace r3 := r3.next bb
      replace bel := next_trans bel bb
      clear bb L2 cA cT s s1 s2
      have hoz : w.heap.size + 3 < w2.heap.size := r3.lt
      have cS : w2.cell? ⟨w.heap.size + 1, 0, none⟩ = some (.slice S m c') := r1.cell 0
      have cT : w2.cell? ⟨w.heap.size + 2, 0, none⟩ = some (.slice T q cq) := r2.cell 0
      have k1 : (w2.alloc (.cells #[.slice none 0 0] 29)).cell? ⟨w.heap.size + 1, 0, none⟩ = some (.slice S m c') := (r1.alloc _).cell 0
      have k2 : (w2.alloc (.cells #[.slice none 0 0] 29)).cell? ⟨w.heap.size + 2, 0, none⟩ = some (.slice T q cq) := (r2.alloc _).cell 0
      obtain ⟨M, hM⟩ : ∃ M : Nat, M = max m q := ⟨_, rfl⟩
      have hM24 : M ≤ 24 := by
        have a1 := (substOk_parts HS.out).2.1
        have a2 := (substOk_parts HS2.out).2.1
        rw [HL1.out] at a1
        rw [HL2.out] at a2
        omega
      have HM := Lib.hid hM
      have H0 : HeadC w w2.heap.size M S m c' T q cq ss us (.int .i64 0) (w2.alloc (.cells #[.slice none 0 0] 29)) :=
        ⟨0, none, 0, Nat.zero_le _, rfl, fun j hj => absurd hj (Nat.not_lt_zero _), by simpa [outL] using Owns.nil _ _ _, r1.alloc _, r2.alloc _, r3.alloc _, Row.new _ _ _, bel.alloc bel.size _⟩
      have HH := Lib.hid H0
      clear H0 r1 r2 r3 bel hM
      go_wp2_with fail
      refine (max_any _ _ _).mono ?_
      rintro e w' ⟨rfl, rfl⟩
      rw [show max (m : Int) (q : Int) = (M : Int) by have := HM.out; omega]
      clear k1 k2 cS cT
      go_wp2_with fail
      go_loopw [10] (fun i wr => HeadC w w2.heap.size M S m c' T q cq ss us i wr) (fun i _ => M - (intOf i).toNat)
      case atStart => exact HH.out
      case round =>
        obtain ⟨k, O, cO, hk, rfl, hlow, ho, r1, r2, r3, ro, hb⟩ := hrel
        clear HH
        have HLOW := Lib.hid hlow
        clear hlow
        have cOut : wr.cell? ⟨w2.heap.size, 0, none⟩ = some (.slice O k cO) := ro.cell 0
        by_cases hlt : k < M
        · have i0 : (0 : Int) ≤ (k : Int) := by omega
          have i1 : (k : Int) < (M : Int) := by omega
          have HA : Hid (∀ z, blk O = some z → w2.heap.size + 1 ≤ z) := Lib.hid (fun z hz => by
            obtain ⟨vs, hown, _⟩ := ho.row
            exact (World.ownsRow.lt hown z (by rw [blk_own]; exact hz)).1)
          have cS : wr.cell? ⟨w.heap.size + 1, 0, none⟩ = some (.slice S m c') := r1.cell 0
          have cT : wr.cell? ⟨w.heap.size + 2, 0, none⟩ = some (.slice T q cq) := r2.cell 0
          have hrl := ro.lt
          have LG := Lib.hid (l2Gives S m c' ss k wr.drew (((h'.below hb).more hb.size).drew) HT1.out (by omega))
          have t2 := (((h2.below hb).more hb.size).drew)
          have d1 := r1.drew
          have d2 := r2.drew
          have tok := gives_ok HS.out (show k < 24 by omega)
          have hv := Lib.hid (fun x hx => (term_mem (x := x) tok hx).1)
          have h60 := Lib.hid (gives_len HS.out k)
          have hM2 := Lib.hid (gives_len HS2.out)
          have OS := Lib.hid (out_succ us ss k)
          obtain ⟨z, hz⟩ : ∃ z, fitsB us (givesL ss k) = z := ⟨_, rfl⟩
          obtain ⟨ys, hys⟩ : ∃ ys, fitL us (givesL ss k) = ys := ⟨_, rfl⟩
          have HZ := Lib.hid hz
          have HY := Lib.hid hys
          clear tok h h' h2 hz hys
          go_wp2_with fail
          refine wp_region_held_drew (S := (fun w' => w'.cell? ⟨w.heap.size + 1, 0, none⟩ = some (.slice S m c') ∧ w'.cell? ⟨w.heap.size + 2, 0, none⟩ = some (.slice T q cq))) (by kernel_rfl) ⟨cS, cT⟩ (fun hHeld => ?_)
          refine wpAnyH_take (i := 0) (v := ?_) rfl (by kernel_rfl) (by kernel_rfl) (by kernel_rfl) (fun _ _ _ h => h) (Or.inl ⟨by rfl, ?_⟩) (by assumption) ?_
          rotate_left 1
          · (intro w0 hSw; (try dsimp only at hSw); go_simp; try with_reducible rfl)
          try simp only [Act.put, List.setIfInBounds_toArray, List.set_cons_zero, List.set_cons_succ, List.getElem_toArray, List.getElem_cons_zero, List.getElem_cons_succ]
          refine wpAnyH_take (i := 1) (v := ?_) rfl (by kernel_rfl) (by kernel_rfl) (by kernel_rfl) (fun _ _ _ h => h) (Or.inl ⟨by rfl, ?_⟩) (by assumption) ?_
          rotate_left 1
          · (intro w0 hSw; (try dsimp only at hSw); go_simp; try with_reducible rfl)
          try simp only [Act.put, List.setIfInBounds_toArray, List.set_cons_zero, List.set_cons_succ, List.getElem_toArray, List.getElem_cons_zero, List.getElem_cons_succ]
          refine wpAnyH_take (i := 2) (v := ?_) rfl (by kernel_rfl) (by kernel_rfl) (by kernel_rfl) (fun _ _ _ h => h) (Or.inl ⟨by rfl, ?_⟩) (by assumption) ?_
          rotate_left 1
          · (intro w0 hSw; (try dsimp only at hSw); go_simp; try with_reducible rfl)
          try simp only [Act.put, List.setIfInBounds_toArray, List.set_cons_zero, List.set_cons_succ, List.getElem_toArray, List.getElem_cons_zero, List.getElem_cons_succ]
          refine wpAnyH_ready (rs := [3]) (by kernel_rfl) (by simp) (AllReadyH.cons rfl (fun K hK => ?_) AllReadyH.nil)
          go_simp
          refine LG.out.mono ?_; rintro e w3 ⟨X, xn, xc, rfl, oa, b1⟩; have u1 := d1.next b1; have u2 := d2.next b1; have x1 : w3.cell? ⟨w.heap.size + 1, 0, none⟩ = some (.slice S m c') := u1.cell 0; have x2 : w3.cell? ⟨w.heap.size + 2, 0, none⟩ = some (.slice T q cq) := u2.cell 0; go_wp2_with fail
          refine hK.out _ _ ?_ (fun hHeld => ?_)
          · first | assumption | (dsimp only; assumption) | exact ⟨by assumption, by assumption⟩
          clear hK K
          try simp only [Act.put, List.setIfInBounds_toArray, List.set_cons_zero, List.set_cons_succ, List.getElem_toArray, List.getElem_cons_zero, List.getElem_cons_succ]
          refine wpAnyH_ready (rs := [4]) (by kernel_rfl) (by simp) (AllReadyH.cons rfl (fun K hK => ?_) AllReadyH.nil)
          go_simp
          refine (l2Filled T X q cq xn xc us (givesL ss k) w3 (t2.next b1) (Own.seg oa) HT2.out (by rw [Own.len oa]; exact h60.out) hv.out hM2.out).mono ?_; rintro e w4 ⟨Y, yn, yc, he, ob, b2⟩; rw [HZ.out] at he; subst he; rw [HY.out] at ob; have x1 : w4.cell? ⟨w.heap.size + 1, 0, none⟩ = some (.slice S m c') := (u1.next b2).cell 0; have x2 : w4.cell? ⟨w.heap.size + 2, 0, none⟩ = some (.slice T q cq) := (u2.next b2).cell 0; go_wp2_with fail
          refine hK.out _ _ ?_ (fun hHeld => ?_)
          · first | assumption | (dsimp only; assumption) | exact ⟨by assumption, by assumption⟩
          clear hK K
          try simp only [Act.put, List.setIfInBounds_toArray, List.set_cons_zero, List.set_cons_succ, List.getElem_toArray, List.getElem_cons_zero, List.getElem_cons_succ]
          refine wpAnyH_take (i := 5) (v := ?_) rfl (by kernel_rfl) (by kernel_rfl) (by kernel_rfl) (fun _ _ _ h => h) (Or.inl ⟨by rfl, ?_⟩) (by assumption) ?_
          rotate_left 1
          · (intro w0 hSw; (try dsimp only at hSw); go_simp; try with_reducible rfl)
          try simp only [Act.put, List.setIfInBounds_toArray, List.set_cons_zero, List.set_cons_succ, List.getElem_toArray, List.getElem_cons_zero, List.getElem_cons_succ]
          refine wpAnyH_take (i := 6) (v := ?_) rfl (by kernel_rfl) (by kernel_rfl) (by kernel_rfl) (fun _ _ _ h => h) (Or.inl ⟨by rfl, ?_⟩) (by assumption) ?_
          rotate_left 1
          · (intro w0 hSw; (try dsimp only at hSw); go_simp; try with_reducible rfl)
          try simp only [Act.put, List.setIfInBounds_toArray, List.set_cons_zero, List.set_cons_succ, List.getElem_toArray, List.getElem_cons_zero, List.getElem_cons_succ]
          refine wpAnyH_take (i := 7) (v := ?_) rfl (by kernel_rfl) (by kernel_rfl) (by kernel_rfl) (fun _ _ _ h => h) (Or.inl ⟨by rfl, ?_⟩) (by assumption) ?_
          rotate_left 1
          · (intro w0 hSw; (try dsimp only at hSw); go_simp; try with_reducible rfl)
          try simp only [Act.put, List.setIfInBounds_toArray, List.set_cons_zero, List.set_cons_succ, List.getElem_toArray, List.getElem_cons_zero, List.getElem_cons_succ]
          refine wpAnyH_take (i := 8) (v := ?_) rfl (by kernel_rfl) (by kernel_rfl) (by kernel_rfl) (fun _ _ _ h => h) (Or.inl ⟨by rfl, ?_⟩) (by assumption) ?_
          rotate_left 1
          · (intro w0 hSw; (try dsimp only at hSw); go_simp; try with_reducible rfl)
          try simp only [Act.put, List.setIfInBounds_toArray, List.set_cons_zero, List.set_cons_succ, List.getElem_toArray, List.getElem_cons_zero, List.getElem_cons_succ]
          refine wpAnyH_take (i := 9) (v := ?_) rfl (by kernel_rfl) (by kernel_rfl) (by kernel_rfl) (fun _ _ _ h => h) (Or.inl ⟨by rfl, ?_⟩) (by assumption) ?_
          rotate_left 1
          · (intro w0 hSw; (try dsimp only at hSw); go_simp; try with_reducible rfl)
          try simp only [Act.put, List.setIfInBounds_toArray, List.set_cons_zero, List.set_cons_succ, List.getElem_toArray, List.getElem_cons_zero, List.getElem_cons_succ]
          refine wpAnyH_done (by kernel_rfl) ?_ _
          have bb : Below wr.heap.size wr w4 := next_trans (drew_below wr) (next_trans b1 b2)
          have ob2 : Inn w4 wr.heap.size w4.heap.size (.slice Y yn yc) ys := Inn.wider (inn_own ob) (show wr.drew.heap.size ≤ w3.heap.size from b1.size) (Nat.le_refl _)
          clear b1 b2 oa ob u1 u2 x1 x2 cS cT d1 d2 t2 LG
          cases z with
          | true =>
            have hfit : ys = compL us ss k := by rw [← HY.out]; unfold fitL; rw [if_pos HZ.out]; rfl
            have hkk : (compL us ss k).length ≤ 60 := by have := HZ.out; unfold fitsB at this; exact of_decide_eq_true this
            have hz4 := bb.size
            have cO4 : w4.cell? ⟨w2.heap.size, 0, none⟩ = some (.slice O k cO) := (ro.next bb).cell 0
            have B5 : Below w4.heap.size w4 (w4.alloc (.cells #[.slice Y yn yc] 24)) := (Below.refl _ _).alloc (Nat.le_refl _) _
            have ho5 := (ho.next bb).next B5
            have i5 := Inn.wider (ob2.next B5) (Nat.le_refl _) (show w4.heap.size ≤ (w4.alloc (.cells #[.slice Y yn yc] 24)).heap.size by simp)
            have r5 := (ro.next bb).next B5
            have c5 : (w4.alloc (.cells #[.slice Y yn yc] 24)).cell? ⟨w2.heap.size, 0, none⟩ = some (.slice O k cO) := r5.cell 0
            go_wp2_with (at_builtin; go_must (refine appS1 rfl _ _ rfl (w2.heap.size + 1) wr.heap.size O k cO (outL us ss k) rfl ho5 _ 1 (.slice Y yn yc) ys rfl ((Row.new _ _ _).cell 0) i5 (by omega) (by omega) (by simp; omega) ?_; intro A' cA' w6 ho6 hg6 hat6 b6; have q2 := Row.away r5 hg6 (fun e => by have := HA.out _ e; omega); have c6 : w6.cell? ⟨w2.heap.size, 0, none⟩ = some (.slice O k cO) := q2.cell 0; have f6 : w6.frozen? ⟨w2.heap.size, 0, none⟩ = false := q2.free 0))
            have S1 := Lib.hid (headC_step (ss := ss) (us := us) hlt hoz HLOW.out hkk (by rw [OS.out, ← hfit]; exact ho6) r1 r2 r3 ro hb (next_trans bb B5) hg6 HA.out)
            clear ho6 hg6 hat6 b6 ho5 i5 r5 c5 q2 ob2 bb B5 r1 r2 r3 ro hb ho OS cO4 hfit hkk HY HZ
            go_wp2
            go_roundw
            case rel => exact S1.out
            case measure => simp [intOf]; omega
          | false =>
            have hno : composedB sg ss us = false := by
              rw [composed_b HS.out HS2.out]
              refine compOk_no (i := k) (by omega) ?_
              have := HZ.out
              unfold fitsB at this
              exact of_decide_eq_false this
            replace r3 := r3.next bb
            replace hb := next_trans hb bb
            have cR : w4.cell? ⟨w.heap.size + 3, 0, none⟩ = some (.slice none 0 0) := r3.cell 0
            have fR : w4.frozen? ⟨w.heap.size + 3, 0, none⟩ = false := r3.free 0
            have F1 := Lib.hid (subB_no (sg := sg) (ss := ss) (us := us) hno hb)
            have F2 := Lib.hid (subB_no (sg := sg) (ss := ss) (us := us) hno ((hb).setCell (p := ⟨w.heap.size + 3, 0, none⟩) (by simp) (.slice none 0 0)))
            clear bb hb r1 r2 r3 ro ho ob2 OS cOut hno
            go_wp2
            first
              | exact bodyPost_ret (v := .tuple #[.agg #[.slice none 0 0], .bool false]) (by simp [results, Try.results56, go_sem, cR]) rfl F1.out
              | exact bodyPost_ret (v := .tuple #[.agg #[.slice none 0 0], .bool false]) (by simp [results, Try.results56, go_sem, cR]) rfl F2.out
        · obtain rfl : k = M := by omega
          have hok1 : ∀ i, i < 24 → (compL us ss i).length ≤ 60 := fun i hi => by
            by_cases hik : i < k
            · exact HLOW.out i hik
            · have := HM.out
              rw [comp_out (by rw [HL1.out]; omega) (by rw [HL2.out]; omega)]
              simp [vt]
          have hyes : composedB sg ss us = true := by rw [composed_b HS.out HS2.out]; exact compOk_iff.2 hok1
          have LP := Lib.hid (l2Plain O k cO (outL us ss k) wr ho.segs (out_each hM24 (fun i hi => hok1 i (by omega))))
          have EP := Lib.hid (show plainL (givesL (outL us ss k)) k = composedI sg ss us by rw [composed_yes hyes]; exact out_plain hM24 (by rw [HL1.out]; have := HM.out; omega) (by rw [HL2.out]; have := HM.out; omega))
          have HYES := Lib.hid hyes
          clear h h' h2 hok1 hyes ho r1 r2
          go_wp2_with fail
          refine LP.out.mono ?_
          rintro e w4 ⟨X, xn, xc, rfl, ox, bb⟩
          rw [EP.out] at ox
          have q3 := r3.next bb
          have cR : w4.cell? ⟨w.heap.size + 3, 0, none⟩ = some (.slice none 0 0) := q3.cell 0
          have fR : w4.frozen? ⟨w.heap.size + 3, 0, none⟩ = false := q3.free 0
          have hl3 := r3.lt
          have F : AnsSubB w (composedI sg ss us) (composedB sg ss us) (.returned (.tuple #[.agg #[.slice X xn xc], .bool true])) (w4.setCell ⟨w.heap.size + 3, 0, none⟩ (.slice X xn xc)) :=
            ⟨X, xn, xc, by rw [HYES.out], (owns_put ox q3 hl3 0 _).wider (by omega) (by simp), (next_trans hb bb).setCell (by simp) _⟩
          have HF := Lib.hid F
          clear F ox q3 r3 ro hb bb LP cOut
          go_wp2
          exact bodyPost_ret (v := .tuple #[.agg #[.slice X xn xc], .bool true]) (by simp [results, Try.results56, go_sem, cR]) rfl HF.out
end Go.Proofs.Ytdeegjeopkcomaa.compSpec
