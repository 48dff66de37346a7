/-
  MERGED: my texts WFnOrders, one behind the other, as they are. By an AI agent.
-/
import Derived.Test.YtmoidijngeijkaaGreatMFnOrders10
namespace Go.Proofs.YtmoidijngeijkaaGreat
section
open Go.Lib (hid)
open List (setIfInBounds_toArray set_cons_zero set_cons_succ getElem_toArray getElem_cons_zero getElem_cons_succ)
namespace wFnOrders
open Go.RowKit base ints sig term termOk termFacts cursor marks app sym segs dice bigs drawL7 drawL8 shape kinds kindsR kindsW varsOf shifted ruleMath ruleSpec stepMath walkMath stepSpec stepImpl walkSpec same orderMath orderSpec orderImpl byImpl bySpec walkImpl iter lawS w5 heldT
set_option maxRecDepth 100000
theorem same_yes {w : World} {A A' : Option Addr} {n c m c' : Nat} {xs : List Int} (h : Seg w w.heap.size A n xs) (h' : Seg w w.heap.size A' m xs) (hn : n ≤ 1048576) (hm : m ≤ 1048576) :
  Calls Tryz.prog 17 #[.slice A n c, .slice A' m c'] w (fun e w' => e = .returned (.bool true) ∧ Below w.heap.size w w') :=
 (implSame A A' n m c c' xs xs w h h' hn hm).mono fun _ _ ⟨he, d, hd⟩ => ⟨by rw [he, decide_eq_true rfl], by rw [hd]; exact drewN_below w d⟩
theorem rd_take {w : World} {B : Nat} {e : TypeId} {s : Sh} {A : Option Addr} {n m c : Nat} {D : List (Dat s)} (h : Rd w B (.row e s) [.slice A n c] D) (hm : m ≤ n) : Rd w B (.row e s) [.slice A m c] (D.take m : List (Dat s)) := by
 obtain ⟨A1, n1, c1, e1, hc, hl, h1⟩ := h
 injection e1 with e1
 injection e1 with e2 e3 e4
 subst e2 e3 e4
 refine ⟨A, m, c, rfl, ⟨Nat.le_trans hm hc.1, hc.2⟩, by rw [List.length_take, hl]; omega, fun hp => ?_⟩
 obtain ⟨b, off, e2, hb, h2⟩ := h1 (by omega)
 refine ⟨b, off, e2, hb, fun j hj => ?_⟩
 obtain ⟨es, he, hpc, hr⟩ := h2 j (by omega)
 refine ⟨es, he, hpc, ?_⟩
 have : (D.take m).getD j (dft s) = D.getD j (dft s) := by
  rw [List.getD_eq_getElem?_getD, List.getD_eq_getElem?_getD, List.getElem?_take_of_lt hj]
 rw [this]
 exact hr
section
variable {sg : List Int} {rs : List Rl} {t : List Int} {s f : Int}
theorem by_parts (h : byB sg rs t s f = true) : rightB sg rs t = true ∧ 0 ≤ f ∧ f ≤ 60 := by
 unfold byB fuelB at h
 simp only [Bool.and_eq_true, decide_eq_true_eq] at h
 exact ⟨h.1, h.2.2⟩
theorem by_less (h : byB sg rs t s f = true) (hf : f ≠ 0) : byB sg rs t s (f - 1) = true := by
 have h0 := by_parts h
 unfold byB fuelB at h ⊢
 simp only [Bool.and_eq_true, decide_eq_true_eq] at h ⊢
 exact ⟨h.1, h.2.1, by omega, by omega⟩
theorem by_pair (h : byB sg rs t s f = true) : byW sg rs t s f = (t, runS sg rs s f.toNat t) := by unfold byW; rw [if_pos h]
theorem by_end (h : byB sg rs t s f = true) : byD sg rs t s f = normalB sg rs (endW sg rs (byW sg rs t s f)) := by
 unfold endW
 rw [if_pos (by_walk h), by_pair h]
 unfold byD
 rw [h, Bool.true_and]
theorem by_from (h : byB sg rs t s f = true) : 0 < (byW sg rs t s f).1.length := by
 rw [by_pair h]
 have := (term_len (right_parts (by_parts h).1).2).1
 show 0 < t.length
 omega
theorem by_zero (h : byB sg rs t s f = true) (hf : f = 0) : (byW sg rs t s f).2.length = 0 := by rw [by_pair h, hf]; rfl
theorem by_take (h : byB sg rs t s f = true) (hf : f ≠ 0) : (byW sg rs t s (f - 1)).2 = (byW sg rs t s f).2.take (byW sg rs t s (f - 1)).2.length ∧ (byW sg rs t s (f - 1)).2.length ≤ (byW sg rs t s f).2.length := by
 have h0 := by_parts h
 rw [by_pair h, by_pair (by_less h hf)]
 show runS sg rs s (f - 1).toNat t = (runS sg rs s f.toNat t).take (runS sg rs s (f - 1).toNat t).length ∧ (runS sg rs s (f - 1).toNat t).length ≤ (runS sg rs s f.toNat t).length
 have e := run_take (sg := sg) (rs := rs) (s := s) (t := t) (show (f - 1).toNat ≤ f.toNat by omega)
 rw [e, List.length_take]
 refine ⟨?_, by omega⟩
 rcases Nat.le_total (f - 1).toNat (runS sg rs s f.toNat t).length with h1 | h1
 ·rw [Nat.min_eq_left h1]
 ·rw [Nat.min_eq_right h1, List.take_of_length_le h1, List.take_of_length_le (Nat.le_refl _)]
end
structure Lo (g : Nat) (F Q : Option Addr) (fn fc qn qc : Nat) (k : Wk) (wr : World) : Prop where
 m : Rd wr wr.heap.size sWalk [.slice F fn fc, .slice Q qn qc] k
 r : Row wr g 34 #[.slice F fn fc, .slice Q qn qc]
section
variable {g : Nat} {F Q : Option Addr} {fn fc qn qc : Nat} {k : Wk} {wr w' : World}
theorem Lo.next (h : Lo g F Q fn fc qn qc k wr) (hb : Below wr.heap.size wr w') : Lo g F Q fn fc qn qc k w' := ⟨h.m.next hb, h.r.next hb⟩
theorem Lo.drew (h : Lo g F Q fn fc qn qc k wr) : Lo g F Q fn fc qn qc k wr.drew := h.next (drew_below wr)
theorem Lo.c0 (h : Lo g F Q fn fc qn qc k wr) : wr.cell? ⟨g, 0, none⟩ = some (.slice F fn fc) := h.r.cell 0
theorem Lo.c1 (h : Lo g F Q fn fc qn qc k wr) : wr.cell? ⟨g, 1, none⟩ = some (.slice Q qn qc) := h.r.cell 1
theorem Lo.steps (h : Lo g F Q fn fc qn qc k wr) : Rd wr wr.heap.size sStepS [.slice Q qn qc] k.2 := (parts_Walk h.m).2
theorem Lo.from_ (h : Lo g F Q fn fc qn qc k wr) : k.1.length = fn := (parts_Walk h.m).1.seg.1
theorem Lo.len (h : Lo g F Q fn fc qn qc k wr) : k.2.length = qn := by
 obtain ⟨A, c, e, -⟩ := h.steps.slice
 injection e with _ e
 exact e.symm
theorem Lo.cap (h : Lo g F Q fn fc qn qc k wr) : Cap Q qn qc := by
 obtain ⟨A, c, e, hc⟩ := h.steps.slice
 injection e with e1 e2 e3
 rw [e1, e2, e3]
 exact hc
theorem Lo.of {W : World} (h : Rd wr wr.heap.size sWalk [.slice F fn fc, .slice Q qn qc] k) (hg : wr.heap.size = g) (hW : W = wr.alloc (.cells #[.slice F fn fc, .slice Q qn qc] 34)) : Lo g F Q fn fc qn qc k W ∧ Below wr.heap.size wr W := by
 have b : Below wr.heap.size wr W := by rw [hW]; exact (Below.refl _ _).alloc (Nat.le_refl _) _
 exact ⟨⟨h.next b, by rw [hW, ← hg]; exact Row.new _ _ _⟩, b⟩
end
set_option maxHeartbeats 16000000 in
theorem law (A : Option Addr) (n c : Nat) (_ : List Int) (w : World) (h : SegB w w.heap.size A n) (hN : n ≤ 9223372036854775807) :
  Calls Tryz.prog 3 #[.slice A n c] w (Fine w) := by
 by_cases hbig : n ≤ 4096
 ·have LB := hid (bigAns A n c false w (by simp; omega) hN)
  go_enter Tryz.func3, Tryz.ntmps3
  go_wp2_with fail
  refine LB.out.mono ?_
  rintro e w' ⟨rfl, rfl⟩
  clear LB
  go_wp2_with fail
  refine (drawWalkBy A n c w h hbig).mono ?_
  rintro e w2 ⟨S, sn, sc, R, rn, rc, d, U, un, uc, t, s, f, rfl, s0, s4, sd, hz0, td, ht65, b2⟩
  clear h
  have hz : sz sSystem d ≤ 1048576 := by omega
  have hzt : sz sI t ≤ 1048576 := by rw [sz_ints]; omega
  obtain ⟨o, ho⟩ : ∃ o, w2.heap.size = o := ⟨_, rfl⟩
  obtain ⟨W, hW⟩ : ∃ W, W = w2.alloc (.cells #[.slice S sn sc, .slice R rn rc] 29) := ⟨_, rfl⟩
  have T : Sy w o S sn sc R rn rc d (.slice U un uc) t W := by
   have bb : Below w2.heap.size w2 W := by rw [hW]; exact (Below.refl _ _).alloc (Nat.le_refl _) _
   exact ⟨sd.next bb, td.next bb, by rw [hW, ← ho]; exact Row.new _ _ _, next_trans b2 bb⟩
  have HW := hid hW
  have HO := hid ho
  clear sd td b2 hW ho
  have c0 : W.cell? ⟨o, 0, none⟩ = some (.slice S sn sc) := T.c0
  have c1 : W.cell? ⟨o, 1, none⟩ = some (.slice R rn rc) := T.c1
  have HZ := hid (And.intro hz hzt)
  have HS : Hid (-9223372036854775808 ≤ s ∧ s ≤ 9223372036854775807) := hid ⟨by omega, by omega⟩
  obtain ⟨bd, hbd⟩ : ∃ b, byD d.1 d.2 t s f = b := ⟨_, rfl⟩
  have HBD := hid hbd
  clear hz hzt hz0 ht65 s0 s4 hbd
  have LI := hid (implWalkBy0 _ _ _ d t s f W T.s T.t HZ.out.1 HZ.out.2 HS.out.1 HS.out.2)
  rw [HBD.out] at LI
  go_wp2_with fail
  rw [← HW.out, HO.out]
  refine LI.out.mono ?_
  rintro e w3 ⟨F, fn, fc, Q, qn, qc, rfl, oW, bb⟩
  replace T := T.next bb
  obtain ⟨o7, ho7⟩ : ∃ o, w3.heap.size = o := ⟨_, rfl⟩
  obtain ⟨W4, hW4⟩ : ∃ W, W = w3.alloc (.cells #[.slice F fn fc, .slice Q qn qc] 34) := ⟨_, rfl⟩
  obtain ⟨M, b4⟩ := Lo.of oW.rd ho7 hW4
  replace T := T.next b4
  have HW4 := hid hW4
  have HO7 := hid ho7
  clear oW bb b4 hW4 ho7 c0 c1 HW HO LI
  have c0 : W4.cell? ⟨o, 0, none⟩ = some (.slice S sn sc) := T.c0
  have c1 : W4.cell? ⟨o, 1, none⟩ = some (.slice R rn rc) := T.c1
  have LI := hid (specWalkBy _ _ _ d t s f W4 T.s T.t HZ.out.1 HZ.out.2)
  rw [HBD.out] at LI
  go_upto_region 5 with fail
  rw [← HW4.out, HO7.out]
  go_wp2_with fail
  refine LI.out.mono ?_
  rintro e w5 ⟨F', fn', fc', Q', qn', qc', rfl, oW, bb⟩
  replace T := T.next bb
  replace M := M.next bb
  obtain ⟨o9, ho9⟩ : ∃ o, w5.heap.size = o := ⟨_, rfl⟩
  obtain ⟨W6, hW6⟩ : ∃ W, W = w5.alloc (.cells #[.slice F' fn' fc', .slice Q' qn' qc'] 34) := ⟨_, rfl⟩
  obtain ⟨N, b6⟩ := Lo.of oW.rd ho9 hW6
  replace T := T.next b6
  replace M := M.next b6
  have HW6 := hid hW6
  have HO9 := hid ho9
  clear oW bb b6 hW6 ho9 c0 c1 HW4 HO7 LI
  have LW5 := hid (w5Yes _ _ _ W6.drew M.drew.steps N.drew.steps (by have h1 : sz sI (byW d.1 d.2 t s f).1 + sz sStepS (byW d.1 d.2 t s f).2 ≤ 1048576 := byW_sz; omega))
  have LCI := hid (fun (w9 : World) (T9 : Sy w o S sn sc R rn rc d (.slice U un uc) t w9) => implCountBy0 _ _ _ d t s f w9 T9.s T9.t HZ.out.1 HZ.out.2 HS.out.1 HS.out.2)
  have LCS := hid (fun (w9 : World) (T9 : Sy w o S sn sc R rn rc d (.slice U un uc) t w9) => specCountBy _ _ _ d t s f w9 T9.s T9.t HZ.out.1 HZ.out.2)
  obtain ⟨z, hz⟩ : ∃ z, byC d.1 d.2 t s f = z := ⟨_, rfl⟩
  rw [hz] at LCI LCS
  have ez : (z != z) = false := by simp
  have ezz : (z == z) = true := by simp
  have HT := hid T.drew
  have HM := hid M.drew
  have c0 : W6.cell? ⟨o, 0, none⟩ = some (.slice S sn sc) := T.c0
  have c1 : W6.cell? ⟨o, 1, none⟩ = some (.slice R rn rc) := T.c1
  have m1 : W6.cell? ⟨o7, 1, none⟩ = some (.slice Q qn qc) := M.c1
  have n1 : W6.cell? ⟨o9, 1, none⟩ = some (.slice Q' qn' qc') := N.c1
  have HN2 := hid N.drew
  clear T M N hz
  cases hb : byB d.1 d.2 t s f with
  | false =>
   have eb : bd = false := by rw [← HBD.out]; exact (by_off hb).2
   subst eb
   have hf0 : fn = 0 := by rw [← HM.out.from_, (by_off hb).1]; rfl
   subst hf0
   clear hb HBD
   go_upto_region 6 with fail
   rw [← HW6.out, HO9.out]
   refine AnyT.start (S := (fun w' => w'.cell? ⟨o, 0, none⟩ = some (.slice S sn sc) ∧ w'.cell? ⟨o, 1, none⟩ = some (.slice R rn rc) ∧ w'.cell? ⟨o7, 1, none⟩ = some (.slice Q qn qc) ∧ w'.cell? ⟨o9, 1, none⟩ = some (.slice Q' qn' qc'))) (fun _ => false) (by kernel_rfl) ⟨c0, c1, m1, n1⟩ (fun hHeld => ?_)
   refine AnyT.takeA (i := 0) (v := ?_) rfl (by kernel_rfl) (by kernel_rfl) (by kernel_rfl) (fun _ _ _ h => h) (Or.inl ⟨by rfl, ?_⟩) ?_
   rotate_left 1
   ·(intro w0 _; go_simp; try with_reducible rfl)
   try simp only [Act.put, setIfInBounds_toArray, set_cons_zero, set_cons_succ, getElem_toArray, getElem_cons_zero, getElem_cons_succ]
   refine AnyT.takeA (i := 1) (v := ?_) rfl (by kernel_rfl) (by kernel_rfl) (by kernel_rfl) (fun _ _ _ h => h) (Or.inl ⟨by rfl, ?_⟩) ?_
   rotate_left 1
   ·(intro w0 _; go_simp; try with_reducible rfl)
   try simp only [Act.put, setIfInBounds_toArray, set_cons_zero, set_cons_succ, getElem_toArray, getElem_cons_zero, getElem_cons_succ]
   refine AnyT.takeA (i := 2) (v := ?_) rfl (by kernel_rfl) (by kernel_rfl) (by kernel_rfl) (fun _ _ _ h => h) (Or.inl ⟨by rfl, ?_⟩) ?_
   rotate_left 1
   ·(intro w0 _; go_simp; try with_reducible rfl)
   try simp only [Act.put, setIfInBounds_toArray, set_cons_zero, set_cons_succ, getElem_toArray, getElem_cons_zero, getElem_cons_succ]
   refine AnyT.takeA (i := 3) (v := ?_) rfl (by kernel_rfl) (by kernel_rfl) (by kernel_rfl) (fun _ _ _ h => h) (Or.inl ⟨by rfl, ?_⟩) ?_
   rotate_left 1
   ·(intro w0 _; go_simp; try with_reducible rfl)
   try simp only [Act.put, setIfInBounds_toArray, set_cons_zero, set_cons_succ, getElem_toArray, getElem_cons_zero, getElem_cons_succ]
   refine AnyT.takeA (i := 4) (v := ?_) rfl (by kernel_rfl) (by kernel_rfl) (by kernel_rfl) (fun _ _ _ h => h) (Or.inl ⟨by rfl, ?_⟩) ?_
   rotate_left 1
   ·(intro w0 _; go_simp; try with_reducible rfl)
   try simp only [Act.put, setIfInBounds_toArray, set_cons_zero, set_cons_succ, getElem_toArray, getElem_cons_zero, getElem_cons_succ]
   refine AnyT.take (i := 5) (v := ?_) rfl (by kernel_rfl) (by kernel_rfl) (by kernel_rfl) (by kernel_rfl) (fun _ _ _ h => h) (Or.inl ⟨by rfl, ?_⟩) (by assumption) ?_
   rotate_left 1
   ·(intro w0 hSw; (try dsimp only at hSw); go_simp; try with_reducible rfl)
   try simp only [Act.put, setIfInBounds_toArray, set_cons_zero, set_cons_succ, getElem_toArray, getElem_cons_zero, getElem_cons_succ]
   refine AnyT.takeA (i := 6) (v := ?_) rfl (by kernel_rfl) (by kernel_rfl) (by kernel_rfl) (fun _ _ _ h => h) (Or.inl ⟨by rfl, ?_⟩) ?_
   rotate_left 1
   ·(intro w0 _; go_simp; try with_reducible rfl)
   try simp only [Act.put, setIfInBounds_toArray, set_cons_zero, set_cons_succ, getElem_toArray, getElem_cons_zero, getElem_cons_succ]
   refine AnyT.take (i := 7) (v := ?_) rfl (by kernel_rfl) (by kernel_rfl) (by kernel_rfl) (by kernel_rfl) (fun _ _ _ h => h) (Or.inl ⟨by rfl, ?_⟩) (by assumption) ?_
   rotate_left 1
   ·(intro w0 hSw; (try dsimp only at hSw); go_simp; try with_reducible rfl)
   try simp only [Act.put, setIfInBounds_toArray, set_cons_zero, set_cons_succ, getElem_toArray, getElem_cons_zero, getElem_cons_succ]
   refine AnyT.call (i := 8) (by kernel_rfl) rfl (fun K hK => ?_)
   try simp only [Act.put, setIfInBounds_toArray, set_cons_zero, set_cons_succ, getElem_toArray, getElem_cons_zero, getElem_cons_succ]
   rw [if_pos (by rfl)]
   go_simp
   (go_at_call 10; refine LW5.out.mono ?_; rintro e wa ⟨rfl, ba⟩; have TA := HT.out.next ba; have MA := HM.out.next ba; have NA := HN2.out.next ba; have k0wa : wa.cell? ⟨o, 0, none⟩ = some (.slice S sn sc) := TA.c0; have k1wa : wa.cell? ⟨o, 1, none⟩ = some (.slice R rn rc) := TA.c1; have k2wa : wa.cell? ⟨o7, 1, none⟩ = some (.slice Q qn qc) := MA.c1; have k3wa : wa.cell? ⟨o9, 1, none⟩ = some (.slice Q' qn' qc') := NA.c1; go_wp2_with fail)
   refine hK.out _ _ (fun _ _ => ?_) (fun hKeep => ?_)
   ·exact ⟨k0wa, k1wa, k2wa, k3wa⟩
   replace hHeld := hKeep (by first | rfl | trivial) hHeld
   clear hK K hKeep
   try simp only [Act.put, setIfInBounds_toArray, set_cons_zero, set_cons_succ, getElem_toArray, getElem_cons_zero, getElem_cons_succ]
   refine AnyT.takeA (i := 9) (v := ?_) rfl (by kernel_rfl) (by kernel_rfl) (by kernel_rfl) (fun _ _ _ h => h) (Or.inl ⟨by rfl, ?_⟩) ?_
   rotate_left 1
   ·(intro w0 _; go_simp; try with_reducible rfl)
   try simp only [Act.put, setIfInBounds_toArray, set_cons_zero, set_cons_succ, getElem_toArray, getElem_cons_zero, getElem_cons_succ]
   refine AnyT.takeA (i := 10) (v := ?_) rfl (by kernel_rfl) (by kernel_rfl) (by kernel_rfl) (fun _ _ _ h => h) (Or.inl ⟨by rfl, ?_⟩) ?_
   rotate_left 1
   ·(intro w0 _; go_simp; try with_reducible rfl)
   try simp only [Act.put, setIfInBounds_toArray, set_cons_zero, set_cons_succ, getElem_toArray, getElem_cons_zero, getElem_cons_succ]
   refine AnyT.takeA (i := 11) (v := ?_) rfl (by kernel_rfl) (by kernel_rfl) (by kernel_rfl) (fun _ _ _ h => h) (Or.inl ⟨by rfl, ?_⟩) ?_
   rotate_left 1
   ·(intro w0 _; go_simp; try with_reducible rfl)
   try simp only [Act.put, setIfInBounds_toArray, set_cons_zero, set_cons_succ, getElem_toArray, getElem_cons_zero, getElem_cons_succ]
   refine AnyT.take (i := 12) (v := ?_) rfl (by kernel_rfl) (by kernel_rfl) (by kernel_rfl) (by kernel_rfl) (fun _ _ _ h => h) (Or.inl ⟨by rfl, ?_⟩) (by assumption) ?_
   rotate_left 1
   ·(intro w0 hSw; (try dsimp only at hSw); go_simp; try with_reducible rfl)
   try simp only [Act.put, setIfInBounds_toArray, set_cons_zero, set_cons_succ, getElem_toArray, getElem_cons_zero, getElem_cons_succ]
   refine AnyT.takeA (i := 13) (v := ?_) rfl (by kernel_rfl) (by kernel_rfl) (by kernel_rfl) (fun _ _ _ h => h) (Or.inl ⟨by rfl, ?_⟩) ?_
   rotate_left 1
   ·(intro w0 _; go_simp; try with_reducible rfl)
   try simp only [Act.put, setIfInBounds_toArray, set_cons_zero, set_cons_succ, getElem_toArray, getElem_cons_zero, getElem_cons_succ]
   refine AnyT.takeA (i := 14) (v := ?_) rfl (by kernel_rfl) (by kernel_rfl) (by kernel_rfl) (fun _ _ _ h => h) (Or.inl ⟨by rfl, ?_⟩) ?_
   rotate_left 1
   ·(intro w0 _; go_simp; try with_reducible rfl)
   try simp only [Act.put, setIfInBounds_toArray, set_cons_zero, set_cons_succ, getElem_toArray, getElem_cons_zero, getElem_cons_succ]
   refine AnyT.takeA (i := 15) (v := ?_) rfl (by kernel_rfl) (by kernel_rfl) (by kernel_rfl) (fun _ _ _ h => h) (Or.inl ⟨by rfl, ?_⟩) ?_
   rotate_left 1
   ·(intro w0 _; go_simp; try with_reducible rfl)
   try simp only [Act.put, setIfInBounds_toArray, set_cons_zero, set_cons_succ, getElem_toArray, getElem_cons_zero, getElem_cons_succ]
   refine AnyT.take (i := 17) (v := ?_) rfl (by kernel_rfl) (by kernel_rfl) (by kernel_rfl) (by kernel_rfl) (fun _ _ _ h => h) (Or.inl ⟨by rfl, ?_⟩) (by assumption) ?_
   rotate_left 1
   ·(intro w0 hSw; (try dsimp only at hSw); go_simp; try with_reducible rfl)
   try simp only [Act.put, setIfInBounds_toArray, set_cons_zero, set_cons_succ, getElem_toArray, getElem_cons_zero, getElem_cons_succ]
   refine AnyT.takeA (i := 18) (v := ?_) rfl (by kernel_rfl) (by kernel_rfl) (by kernel_rfl) (fun _ _ _ h => h) (Or.inl ⟨by rfl, ?_⟩) ?_
   rotate_left 1
   ·(intro w0 _; go_simp; try with_reducible rfl)
   try simp only [Act.put, setIfInBounds_toArray, set_cons_zero, set_cons_succ, getElem_toArray, getElem_cons_zero, getElem_cons_succ]
   refine AnyT.takeA (i := 19) (v := ?_) rfl (by kernel_rfl) (by kernel_rfl) (by kernel_rfl) (fun _ _ _ h => h) (Or.inl ⟨by rfl, ?_⟩) ?_
   rotate_left 1
   ·(intro w0 _; go_simp; try with_reducible rfl)
   try simp only [Act.put, setIfInBounds_toArray, set_cons_zero, set_cons_succ, getElem_toArray, getElem_cons_zero, getElem_cons_succ]
   refine AnyT.takeA (i := 20) (v := ?_) rfl (by kernel_rfl) (by kernel_rfl) (by kernel_rfl) (fun _ _ _ h => h) (Or.inl ⟨by rfl, ?_⟩) ?_
   rotate_left 1
   ·(intro w0 _; go_simp; try with_reducible rfl)
   try simp only [Act.put, setIfInBounds_toArray, set_cons_zero, set_cons_succ, getElem_toArray, getElem_cons_zero, getElem_cons_succ]
   refine AnyT.call (i := 16) (by kernel_rfl) rfl (fun K hK => ?_)
   try simp only [Act.put, setIfInBounds_toArray, set_cons_zero, set_cons_succ, getElem_toArray, getElem_cons_zero, getElem_cons_succ]
   rw [if_pos (by rfl)]
   go_simp
   (go_at_call 11; refine (LCI.out _ TA).mono ?_; rintro e wb ⟨rfl, bb⟩; have TB := TA.next bb; have MB := MA.next bb; have NB := NA.next bb; have k0wb : wb.cell? ⟨o, 0, none⟩ = some (.slice S sn sc) := TB.c0; have k1wb : wb.cell? ⟨o, 1, none⟩ = some (.slice R rn rc) := TB.c1; have k2wb : wb.cell? ⟨o7, 1, none⟩ = some (.slice Q qn qc) := MB.c1; have k3wb : wb.cell? ⟨o9, 1, none⟩ = some (.slice Q' qn' qc') := NB.c1; go_wp2_with fail)
   refine hK.out _ _ (fun _ _ => ?_) (fun hKeep => ?_)
   ·exact ⟨k0wb, k1wb, k2wb, k3wb⟩
   replace hHeld := hKeep (by first | rfl | trivial) hHeld
   clear hK K hKeep
   try simp only [Act.put, setIfInBounds_toArray, set_cons_zero, set_cons_succ, getElem_toArray, getElem_cons_zero, getElem_cons_succ]
   refine AnyT.call (i := 21) (by kernel_rfl) rfl (fun K hK => ?_)
   try simp only [Act.put, setIfInBounds_toArray, set_cons_zero, set_cons_succ, getElem_toArray, getElem_cons_zero, getElem_cons_succ]
   rw [if_pos (by rfl)]
   go_simp
   (go_at_call 12; refine (LCS.out _ TB).mono ?_; rintro e wc ⟨rfl, bc⟩; have TC := TB.next bc; have MC := MB.next bc; have NC := NB.next bc; have k0wc : wc.cell? ⟨o, 0, none⟩ = some (.slice S sn sc) := TC.c0; have k1wc : wc.cell? ⟨o, 1, none⟩ = some (.slice R rn rc) := TC.c1; have k2wc : wc.cell? ⟨o7, 1, none⟩ = some (.slice Q qn qc) := MC.c1; have k3wc : wc.cell? ⟨o9, 1, none⟩ = some (.slice Q' qn' qc') := NC.c1; go_wp2_with fail)
   refine hK.out _ _ (fun _ _ => ?_) (fun hKeep => ?_)
   ·exact ⟨k0wc, k1wc, k2wc, k3wc⟩
   replace hHeld := hKeep (by first | rfl | trivial) hHeld
   clear hK K hKeep
   try simp only [Act.put, setIfInBounds_toArray, set_cons_zero, set_cons_succ, getElem_toArray, getElem_cons_zero, getElem_cons_succ]
   refine AnyT.takeA (i := 22) (v := ?_) rfl (by kernel_rfl) (by kernel_rfl) (by kernel_rfl) (fun _ _ _ h => h) (Or.inl ⟨by rfl, ?_⟩) ?_
   rotate_left 1
   ·(intro w0 _; go_simp; try with_reducible rfl)
   try simp only [Act.put, setIfInBounds_toArray, set_cons_zero, set_cons_succ, getElem_toArray, getElem_cons_zero, getElem_cons_succ]
   refine AnyT.takeA (i := 23) (v := ?_) rfl (by kernel_rfl) (by kernel_rfl) (by kernel_rfl) (fun _ _ _ h => h) (Or.inl ⟨by rfl, ?_⟩) ?_
   rotate_left 1
   ·(intro w0 _; go_simp; try with_reducible rfl)
   try simp only [Act.put, setIfInBounds_toArray, set_cons_zero, set_cons_succ, getElem_toArray, getElem_cons_zero, getElem_cons_succ]
   refine AnyT.done (by kernel_rfl) ?_ _
   clear k0wa k1wa k2wa k3wa k0wb k1wb k2wb k3wb k2wc k3wc ba bb bc TA TB MA MB NA NB NC LW5 LCI LCS HT HM HN2 c0 c1 m1 n1 ez ezz
   have m0 : wc.cell? ⟨o7, 0, none⟩ = some (.slice F 0 fc) := MC.c0
   have FF := hid TC.b
   clear TC MC
   go_wp2
   go_ret
   exact ⟨rfl, FF.out⟩
  | true =>
   have HB := hid hb
   clear hb
   have hf := by_from HB.out
   rw [HM.out.from_] at hf
   cases bd with
   | false =>
    go_upto_region 6 with fail
    rw [← HW6.out, HO9.out]
    refine AnyT.start (S := (fun w' => w'.cell? ⟨o, 0, none⟩ = some (.slice S sn sc) ∧ w'.cell? ⟨o, 1, none⟩ = some (.slice R rn rc) ∧ w'.cell? ⟨o7, 1, none⟩ = some (.slice Q qn qc) ∧ w'.cell? ⟨o9, 1, none⟩ = some (.slice Q' qn' qc'))) (fun _ => false) (by kernel_rfl) ⟨c0, c1, m1, n1⟩ (fun hHeld => ?_)
    refine AnyT.takeA (i := 0) (v := ?_) rfl (by kernel_rfl) (by kernel_rfl) (by kernel_rfl) (fun _ _ _ h => h) (Or.inl ⟨by rfl, ?_⟩) ?_
    rotate_left 1
    ·(intro w0 _; go_simp; try with_reducible rfl)
    try simp only [Act.put, setIfInBounds_toArray, set_cons_zero, set_cons_succ, getElem_toArray, getElem_cons_zero, getElem_cons_succ]
    refine AnyT.takeA (i := 1) (v := ?_) rfl (by kernel_rfl) (by kernel_rfl) (by kernel_rfl) (fun _ _ _ h => h) (Or.inl ⟨by rfl, ?_⟩) ?_
    rotate_left 1
    ·(intro w0 _; go_simp; try with_reducible rfl)
    try simp only [Act.put, setIfInBounds_toArray, set_cons_zero, set_cons_succ, getElem_toArray, getElem_cons_zero, getElem_cons_succ]
    refine AnyT.takeA (i := 2) (v := ?_) rfl (by kernel_rfl) (by kernel_rfl) (by kernel_rfl) (fun _ _ _ h => h) (Or.inl ⟨by rfl, ?_⟩) ?_
    rotate_left 1
    ·(intro w0 _; go_simp; try with_reducible rfl)
    try simp only [Act.put, setIfInBounds_toArray, set_cons_zero, set_cons_succ, getElem_toArray, getElem_cons_zero, getElem_cons_succ]
    refine AnyT.takeA (i := 3) (v := ?_) rfl (by kernel_rfl) (by kernel_rfl) (by kernel_rfl) (fun _ _ _ h => h) (Or.inl ⟨by rfl, ?_⟩) ?_
    rotate_left 1
    ·(intro w0 _; go_simp; try with_reducible rfl)
    try simp only [Act.put, setIfInBounds_toArray, set_cons_zero, set_cons_succ, getElem_toArray, getElem_cons_zero, getElem_cons_succ]
    refine AnyT.takeA (i := 4) (v := ?_) rfl (by kernel_rfl) (by kernel_rfl) (by kernel_rfl) (fun _ _ _ h => h) (Or.inl ⟨by rfl, ?_⟩) ?_
    rotate_left 1
    ·(intro w0 _; go_simp; try with_reducible rfl)
    try simp only [Act.put, setIfInBounds_toArray, set_cons_zero, set_cons_succ, getElem_toArray, getElem_cons_zero, getElem_cons_succ]
    refine AnyT.take (i := 5) (v := ?_) rfl (by kernel_rfl) (by kernel_rfl) (by kernel_rfl) (by kernel_rfl) (fun _ _ _ h => h) (Or.inl ⟨by rfl, ?_⟩) (by assumption) ?_
    rotate_left 1
    ·(intro w0 hSw; (try dsimp only at hSw); go_simp; try with_reducible rfl)
    try simp only [Act.put, setIfInBounds_toArray, set_cons_zero, set_cons_succ, getElem_toArray, getElem_cons_zero, getElem_cons_succ]
    refine AnyT.takeA (i := 6) (v := ?_) rfl (by kernel_rfl) (by kernel_rfl) (by kernel_rfl) (fun _ _ _ h => h) (Or.inl ⟨by rfl, ?_⟩) ?_
    rotate_left 1
    ·(intro w0 _; go_simp; try with_reducible rfl)
    try simp only [Act.put, setIfInBounds_toArray, set_cons_zero, set_cons_succ, getElem_toArray, getElem_cons_zero, getElem_cons_succ]
    refine AnyT.take (i := 7) (v := ?_) rfl (by kernel_rfl) (by kernel_rfl) (by kernel_rfl) (by kernel_rfl) (fun _ _ _ h => h) (Or.inl ⟨by rfl, ?_⟩) (by assumption) ?_
    rotate_left 1
    ·(intro w0 hSw; (try dsimp only at hSw); go_simp; try with_reducible rfl)
    try simp only [Act.put, setIfInBounds_toArray, set_cons_zero, set_cons_succ, getElem_toArray, getElem_cons_zero, getElem_cons_succ]
    refine AnyT.call (i := 8) (by kernel_rfl) rfl (fun K hK => ?_)
    try simp only [Act.put, setIfInBounds_toArray, set_cons_zero, set_cons_succ, getElem_toArray, getElem_cons_zero, getElem_cons_succ]
    rw [if_pos (by rfl)]
    go_simp
    (go_at_call 10; refine LW5.out.mono ?_; rintro e wa ⟨rfl, ba⟩; have TA := HT.out.next ba; have MA := HM.out.next ba; have NA := HN2.out.next ba; have k0wa : wa.cell? ⟨o, 0, none⟩ = some (.slice S sn sc) := TA.c0; have k1wa : wa.cell? ⟨o, 1, none⟩ = some (.slice R rn rc) := TA.c1; have k2wa : wa.cell? ⟨o7, 1, none⟩ = some (.slice Q qn qc) := MA.c1; have k3wa : wa.cell? ⟨o9, 1, none⟩ = some (.slice Q' qn' qc') := NA.c1; go_wp2_with fail)
    refine hK.out _ _ (fun _ _ => ?_) (fun hKeep => ?_)
    ·exact ⟨k0wa, k1wa, k2wa, k3wa⟩
    replace hHeld := hKeep (by first | rfl | trivial) hHeld
    clear hK K hKeep
    try simp only [Act.put, setIfInBounds_toArray, set_cons_zero, set_cons_succ, getElem_toArray, getElem_cons_zero, getElem_cons_succ]
    refine AnyT.takeA (i := 9) (v := ?_) rfl (by kernel_rfl) (by kernel_rfl) (by kernel_rfl) (fun _ _ _ h => h) (Or.inl ⟨by rfl, ?_⟩) ?_
    rotate_left 1
    ·(intro w0 _; go_simp; try with_reducible rfl)
    try simp only [Act.put, setIfInBounds_toArray, set_cons_zero, set_cons_succ, getElem_toArray, getElem_cons_zero, getElem_cons_succ]
    refine AnyT.takeA (i := 10) (v := ?_) rfl (by kernel_rfl) (by kernel_rfl) (by kernel_rfl) (fun _ _ _ h => h) (Or.inl ⟨by rfl, ?_⟩) ?_
    rotate_left 1
    ·(intro w0 _; go_simp; try with_reducible rfl)
    try simp only [Act.put, setIfInBounds_toArray, set_cons_zero, set_cons_succ, getElem_toArray, getElem_cons_zero, getElem_cons_succ]
    refine AnyT.takeA (i := 11) (v := ?_) rfl (by kernel_rfl) (by kernel_rfl) (by kernel_rfl) (fun _ _ _ h => h) (Or.inl ⟨by rfl, ?_⟩) ?_
    rotate_left 1
    ·(intro w0 _; go_simp; try with_reducible rfl)
    try simp only [Act.put, setIfInBounds_toArray, set_cons_zero, set_cons_succ, getElem_toArray, getElem_cons_zero, getElem_cons_succ]
    refine AnyT.take (i := 12) (v := ?_) rfl (by kernel_rfl) (by kernel_rfl) (by kernel_rfl) (by kernel_rfl) (fun _ _ _ h => h) (Or.inl ⟨by rfl, ?_⟩) (by assumption) ?_
    rotate_left 1
    ·(intro w0 hSw; (try dsimp only at hSw); go_simp; try with_reducible rfl)
    try simp only [Act.put, setIfInBounds_toArray, set_cons_zero, set_cons_succ, getElem_toArray, getElem_cons_zero, getElem_cons_succ]
    refine AnyT.takeA (i := 13) (v := ?_) rfl (by kernel_rfl) (by kernel_rfl) (by kernel_rfl) (fun _ _ _ h => h) (Or.inl ⟨by rfl, ?_⟩) ?_
    rotate_left 1
    ·(intro w0 _; go_simp; try with_reducible rfl)
    try simp only [Act.put, setIfInBounds_toArray, set_cons_zero, set_cons_succ, getElem_toArray, getElem_cons_zero, getElem_cons_succ]
    refine AnyT.takeA (i := 14) (v := ?_) rfl (by kernel_rfl) (by kernel_rfl) (by kernel_rfl) (fun _ _ _ h => h) (Or.inl ⟨by rfl, ?_⟩) ?_
    rotate_left 1
    ·(intro w0 _; go_simp; try with_reducible rfl)
    try simp only [Act.put, setIfInBounds_toArray, set_cons_zero, set_cons_succ, getElem_toArray, getElem_cons_zero, getElem_cons_succ]
    refine AnyT.takeA (i := 15) (v := ?_) rfl (by kernel_rfl) (by kernel_rfl) (by kernel_rfl) (fun _ _ _ h => h) (Or.inl ⟨by rfl, ?_⟩) ?_
    rotate_left 1
    ·(intro w0 _; go_simp; try with_reducible rfl)
    try simp only [Act.put, setIfInBounds_toArray, set_cons_zero, set_cons_succ, getElem_toArray, getElem_cons_zero, getElem_cons_succ]
    refine AnyT.take (i := 17) (v := ?_) rfl (by kernel_rfl) (by kernel_rfl) (by kernel_rfl) (by kernel_rfl) (fun _ _ _ h => h) (Or.inl ⟨by rfl, ?_⟩) (by assumption) ?_
    rotate_left 1
    ·(intro w0 hSw; (try dsimp only at hSw); go_simp; try with_reducible rfl)
    try simp only [Act.put, setIfInBounds_toArray, set_cons_zero, set_cons_succ, getElem_toArray, getElem_cons_zero, getElem_cons_succ]
    refine AnyT.takeA (i := 18) (v := ?_) rfl (by kernel_rfl) (by kernel_rfl) (by kernel_rfl) (fun _ _ _ h => h) (Or.inl ⟨by rfl, ?_⟩) ?_
    rotate_left 1
    ·(intro w0 _; go_simp; try with_reducible rfl)
    try simp only [Act.put, setIfInBounds_toArray, set_cons_zero, set_cons_succ, getElem_toArray, getElem_cons_zero, getElem_cons_succ]
    refine AnyT.takeA (i := 19) (v := ?_) rfl (by kernel_rfl) (by kernel_rfl) (by kernel_rfl) (fun _ _ _ h => h) (Or.inl ⟨by rfl, ?_⟩) ?_
    rotate_left 1
    ·(intro w0 _; go_simp; try with_reducible rfl)
    try simp only [Act.put, setIfInBounds_toArray, set_cons_zero, set_cons_succ, getElem_toArray, getElem_cons_zero, getElem_cons_succ]
    refine AnyT.takeA (i := 20) (v := ?_) rfl (by kernel_rfl) (by kernel_rfl) (by kernel_rfl) (fun _ _ _ h => h) (Or.inl ⟨by rfl, ?_⟩) ?_
    rotate_left 1
    ·(intro w0 _; go_simp; try with_reducible rfl)
    try simp only [Act.put, setIfInBounds_toArray, set_cons_zero, set_cons_succ, getElem_toArray, getElem_cons_zero, getElem_cons_succ]
    refine AnyT.call (i := 16) (by kernel_rfl) rfl (fun K hK => ?_)
    try simp only [Act.put, setIfInBounds_toArray, set_cons_zero, set_cons_succ, getElem_toArray, getElem_cons_zero, getElem_cons_succ]
    rw [if_pos (by rfl)]
    go_simp
    (go_at_call 11; refine (LCI.out _ TA).mono ?_; rintro e wb ⟨rfl, bb⟩; have TB := TA.next bb; have MB := MA.next bb; have NB := NA.next bb; have k0wb : wb.cell? ⟨o, 0, none⟩ = some (.slice S sn sc) := TB.c0; have k1wb : wb.cell? ⟨o, 1, none⟩ = some (.slice R rn rc) := TB.c1; have k2wb : wb.cell? ⟨o7, 1, none⟩ = some (.slice Q qn qc) := MB.c1; have k3wb : wb.cell? ⟨o9, 1, none⟩ = some (.slice Q' qn' qc') := NB.c1; go_wp2_with fail)
    refine hK.out _ _ (fun _ _ => ?_) (fun hKeep => ?_)
    ·exact ⟨k0wb, k1wb, k2wb, k3wb⟩
    replace hHeld := hKeep (by first | rfl | trivial) hHeld
    clear hK K hKeep
    try simp only [Act.put, setIfInBounds_toArray, set_cons_zero, set_cons_succ, getElem_toArray, getElem_cons_zero, getElem_cons_succ]
    refine AnyT.call (i := 21) (by kernel_rfl) rfl (fun K hK => ?_)
    try simp only [Act.put, setIfInBounds_toArray, set_cons_zero, set_cons_succ, getElem_toArray, getElem_cons_zero, getElem_cons_succ]
    rw [if_pos (by rfl)]
    go_simp
    (go_at_call 12; refine (LCS.out _ TB).mono ?_; rintro e wc ⟨rfl, bc⟩; have TC := TB.next bc; have MC := MB.next bc; have NC := NB.next bc; have k0wc : wc.cell? ⟨o, 0, none⟩ = some (.slice S sn sc) := TC.c0; have k1wc : wc.cell? ⟨o, 1, none⟩ = some (.slice R rn rc) := TC.c1; have k2wc : wc.cell? ⟨o7, 1, none⟩ = some (.slice Q qn qc) := MC.c1; have k3wc : wc.cell? ⟨o9, 1, none⟩ = some (.slice Q' qn' qc') := NC.c1; go_wp2_with fail)
    refine hK.out _ _ (fun _ _ => ?_) (fun hKeep => ?_)
    ·exact ⟨k0wc, k1wc, k2wc, k3wc⟩
    replace hHeld := hKeep (by first | rfl | trivial) hHeld
    clear hK K hKeep
    try simp only [Act.put, setIfInBounds_toArray, set_cons_zero, set_cons_succ, getElem_toArray, getElem_cons_zero, getElem_cons_succ]
    refine AnyT.takeA (i := 22) (v := ?_) rfl (by kernel_rfl) (by kernel_rfl) (by kernel_rfl) (fun _ _ _ h => h) (Or.inl ⟨by rfl, ?_⟩) ?_
    rotate_left 1
    ·(intro w0 _; go_simp; try with_reducible rfl)
    try simp only [Act.put, setIfInBounds_toArray, set_cons_zero, set_cons_succ, getElem_toArray, getElem_cons_zero, getElem_cons_succ]
    refine AnyT.takeA (i := 23) (v := ?_) rfl (by kernel_rfl) (by kernel_rfl) (by kernel_rfl) (fun _ _ _ h => h) (Or.inl ⟨by rfl, ?_⟩) ?_
    rotate_left 1
    ·(intro w0 _; go_simp; try with_reducible rfl)
    try simp only [Act.put, setIfInBounds_toArray, set_cons_zero, set_cons_succ, getElem_toArray, getElem_cons_zero, getElem_cons_succ]
    refine AnyT.done (by kernel_rfl) ?_ _
    clear k0wa k1wa k2wa k3wa k0wb k1wb k2wb k3wb k2wc k3wc ba bb bc TA TB MA MB NA NB NC LW5 LCI LCS HT HM HN2 c0 c1 m1 n1 ez ezz
    have HT := hid TC.drew
    have HM := hid MC.drew
    have m0 : wc.cell? ⟨o7, 0, none⟩ = some (.slice F fn fc) := MC.c0
    have m1 : wc.cell? ⟨o7, 1, none⟩ = some (.slice Q qn qc) := MC.c1
    have LWO := hid (implWalkOk _ _ _ _ d (byW d.1 d.2 t s f) wc.drew TC.drew.s MC.drew.m HZ.out.1 byW_sz)
    rw [by_walk HB.out] at LWO
    have LET := hid (fun (w9 : World) (T9 : Sy w o S sn sc R rn rc d (.slice U un uc) t w9) (M9 : Lo o7 F Q fn fc qn qc (byW d.1 d.2 t s f) w9) => implEndTerm _ _ _ _ d (byW d.1 d.2 t s f) w9 T9.s M9.m HZ.out.1 byW_sz)
    have HEL : Hid ((endW d.1 d.2 (byW d.1 d.2 t s f)).length ≤ 1048576) := hid (endW_len byW_sz)
    have LNI := hid (fun (w9 : World) (X : Option Addr) (xn xc : Nat) (T9 : Sy w o S sn sc R rn rc d (.slice U un uc) t w9) (X9 : Rd w9 w9.heap.size sI [.slice X xn xc] (endW d.1 d.2 (byW d.1 d.2 t s f))) => implNormalIn _ _ _ d (endW d.1 d.2 (byW d.1 d.2 t s f)) w9 T9.s X9 HZ.out.1 (by rw [sz_ints]; exact HEL.out))
    rw [← by_end HB.out, HBD.out] at LNI
    have nz : ((fn : Int) == 0) = false := by rw [beq_eq_false_iff_ne]; omega
    have nz2 : ¬ (fn : Int) = 0 := by omega
    clear TC MC
    go_wp2_with fail
    refine AnyT.start (S := (fun w' => w'.cell? ⟨o, 0, none⟩ = some (.slice S sn sc) ∧ w'.cell? ⟨o, 1, none⟩ = some (.slice R rn rc) ∧ w'.cell? ⟨o7, 0, none⟩ = some (.slice F fn fc) ∧ w'.cell? ⟨o7, 1, none⟩ = some (.slice Q qn qc))) (fun _ => false) (by kernel_rfl) ⟨k0wc, k1wc, m0, m1⟩ (fun hHeld => ?_)
    refine AnyT.take (i := 0) (v := ?_) rfl (by kernel_rfl) (by kernel_rfl) (by kernel_rfl) (by kernel_rfl) (fun _ _ _ h => h) (Or.inl ⟨by rfl, ?_⟩) (by assumption) ?_
    rotate_left 1
    ·(intro w0 hSw; (try dsimp only at hSw); go_simp; try with_reducible rfl)
    try simp only [Act.put, setIfInBounds_toArray, set_cons_zero, set_cons_succ, getElem_toArray, getElem_cons_zero, getElem_cons_succ]
    refine AnyT.take (i := 1) (v := ?_) rfl (by kernel_rfl) (by kernel_rfl) (by kernel_rfl) (by kernel_rfl) (fun _ _ _ h => h) (Or.inl ⟨by rfl, ?_⟩) (by assumption) ?_
    rotate_left 1
    ·(intro w0 hSw; (try dsimp only at hSw); go_simp; try with_reducible rfl)
    try simp only [Act.put, setIfInBounds_toArray, set_cons_zero, set_cons_succ, getElem_toArray, getElem_cons_zero, getElem_cons_succ]
    refine AnyT.call (i := 2) (by kernel_rfl) rfl (fun K hK => ?_)
    try simp only [Act.put, setIfInBounds_toArray, set_cons_zero, set_cons_succ, getElem_toArray, getElem_cons_zero, getElem_cons_succ]
    rw [if_pos (by rfl)]
    go_simp
    (go_at_call 13; refine LWO.out.mono ?_; rintro e wd ⟨rfl, bd1⟩; have TD := HT.out.next bd1; have MD := HM.out.next bd1; have k0wd : wd.cell? ⟨o, 0, none⟩ = some (.slice S sn sc) := TD.c0; have k1wd : wd.cell? ⟨o, 1, none⟩ = some (.slice R rn rc) := TD.c1; have k2wd : wd.cell? ⟨o7, 0, none⟩ = some (.slice F fn fc) := MD.c0; have k3wd : wd.cell? ⟨o7, 1, none⟩ = some (.slice Q qn qc) := MD.c1; go_wp2_with fail)
    refine hK.out _ _ (fun _ _ => ?_) (fun hKeep => ?_)
    ·exact ⟨k0wd, k1wd, k2wd, k3wd⟩
    replace hHeld := hKeep (by first | rfl | trivial) hHeld
    clear hK K hKeep
    try simp only [Act.put, setIfInBounds_toArray, set_cons_zero, set_cons_succ, getElem_toArray, getElem_cons_zero, getElem_cons_succ]
    refine AnyT.takeA (i := 3) (v := ?_) rfl (by kernel_rfl) (by kernel_rfl) (by kernel_rfl) (fun _ _ _ h => h) (Or.inl ⟨by rfl, ?_⟩) ?_
    rotate_left 1
    ·(intro w0 _; go_simp; try with_reducible rfl)
    try simp only [Act.put, setIfInBounds_toArray, set_cons_zero, set_cons_succ, getElem_toArray, getElem_cons_zero, getElem_cons_succ]
    refine AnyT.takeA (i := 4) (v := ?_) rfl (by kernel_rfl) (by kernel_rfl) (by kernel_rfl) (fun _ _ _ h => h) (Or.inl ⟨by rfl, ?_⟩) ?_
    rotate_left 1
    ·(intro w0 _; go_simp; try with_reducible rfl)
    try simp only [Act.put, setIfInBounds_toArray, set_cons_zero, set_cons_succ, getElem_toArray, getElem_cons_zero, getElem_cons_succ]
    refine AnyT.takeA (i := 5) (v := ?_) rfl (by kernel_rfl) (by kernel_rfl) (by kernel_rfl) (fun _ _ _ h => h) (Or.inl ⟨by rfl, ?_⟩) ?_
    rotate_left 1
    ·(intro w0 _; go_simp; try with_reducible rfl)
    try simp only [Act.put, setIfInBounds_toArray, set_cons_zero, set_cons_succ, getElem_toArray, getElem_cons_zero, getElem_cons_succ]
    refine AnyT.take (i := 6) (v := ?_) rfl (by kernel_rfl) (by kernel_rfl) (by kernel_rfl) (by kernel_rfl) (fun _ _ _ h => h) (Or.inl ⟨by rfl, ?_⟩) (by assumption) ?_
    rotate_left 1
    ·(intro w0 hSw; (try dsimp only at hSw); go_simp; try with_reducible rfl)
    try simp only [Act.put, setIfInBounds_toArray, set_cons_zero, set_cons_succ, getElem_toArray, getElem_cons_zero, getElem_cons_succ]
    refine AnyT.take (i := 7) (v := ?_) rfl (by kernel_rfl) (by kernel_rfl) (by kernel_rfl) (by kernel_rfl) (fun _ _ _ h => h) (Or.inl ⟨by rfl, ?_⟩) (by assumption) ?_
    rotate_left 1
    ·(intro w0 hSw; (try dsimp only at hSw); go_simp; try with_reducible rfl)
    try simp only [Act.put, setIfInBounds_toArray, set_cons_zero, set_cons_succ, getElem_toArray, getElem_cons_zero, getElem_cons_succ]
    refine AnyT.take (i := 8) (v := ?_) rfl (by kernel_rfl) (by kernel_rfl) (by kernel_rfl) (by kernel_rfl) (fun _ _ _ h => h) (Or.inl ⟨by rfl, ?_⟩) (by assumption) ?_
    rotate_left 1
    ·(intro w0 hSw; (try dsimp only at hSw); go_simp; try with_reducible rfl)
    try simp only [Act.put, setIfInBounds_toArray, set_cons_zero, set_cons_succ, getElem_toArray, getElem_cons_zero, getElem_cons_succ]
    refine AnyT.call (i := 9) (by kernel_rfl) rfl (fun K hK => ?_)
    try simp only [Act.put, setIfInBounds_toArray, set_cons_zero, set_cons_succ, getElem_toArray, getElem_cons_zero, getElem_cons_succ]
    rw [if_pos (by rfl)]
    go_simp
    (go_at_call 15; refine (LET.out _ TD MD).mono ?_; rintro e we ⟨X, xn, xc, rfl, oX, be⟩; have TE := TD.next be; have ME := MD.next be; have HX := rd_own oX; have k0we : we.cell? ⟨o, 0, none⟩ = some (.slice S sn sc) := TE.c0; have k1we : we.cell? ⟨o, 1, none⟩ = some (.slice R rn rc) := TE.c1; have k2we : we.cell? ⟨o7, 0, none⟩ = some (.slice F fn fc) := ME.c0; have k3we : we.cell? ⟨o7, 1, none⟩ = some (.slice Q qn qc) := ME.c1; go_wp2_with fail)
    refine hK.out _ _ (fun _ _ => ?_) (fun hKeep => ?_)
    ·exact ⟨k0we, k1we, k2we, k3we⟩
    replace hHeld := hKeep (by first | rfl | trivial) hHeld
    clear hK K hKeep
    try simp only [Act.put, setIfInBounds_toArray, set_cons_zero, set_cons_succ, getElem_toArray, getElem_cons_zero, getElem_cons_succ]
    refine AnyT.call (i := 10) (by kernel_rfl) rfl (fun K hK => ?_)
    try simp only [Act.put, setIfInBounds_toArray, set_cons_zero, set_cons_succ, getElem_toArray, getElem_cons_zero, getElem_cons_succ]
    rw [if_pos (by rfl)]
    go_simp
    (go_at_call 14; refine (LNI.out _ X xn xc TE HX).mono ?_; rintro e wg ⟨rfl, bg⟩; have TG := TE.next bg; have MG := ME.next bg; have k0wg : wg.cell? ⟨o, 0, none⟩ = some (.slice S sn sc) := TG.c0; have k1wg : wg.cell? ⟨o, 1, none⟩ = some (.slice R rn rc) := TG.c1; have k2wg : wg.cell? ⟨o7, 0, none⟩ = some (.slice F fn fc) := MG.c0; have k3wg : wg.cell? ⟨o7, 1, none⟩ = some (.slice Q qn qc) := MG.c1; go_wp2_with fail)
    refine hK.out _ _ (fun _ _ => ?_) (fun hKeep => ?_)
    ·exact ⟨k0wg, k1wg, k2wg, k3wg⟩
    replace hHeld := hKeep (by first | rfl | trivial) hHeld
    clear hK K hKeep
    try simp only [Act.put, setIfInBounds_toArray, set_cons_zero, set_cons_succ, getElem_toArray, getElem_cons_zero, getElem_cons_succ]
    refine AnyT.takeA (i := 11) (v := ?_) rfl (by kernel_rfl) (by kernel_rfl) (by kernel_rfl) (fun _ _ _ h => h) (Or.inl ⟨by rfl, ?_⟩) ?_
    rotate_left 1
    ·(intro w0 _; go_simp; try with_reducible rfl)
    try simp only [Act.put, setIfInBounds_toArray, set_cons_zero, set_cons_succ, getElem_toArray, getElem_cons_zero, getElem_cons_succ]
    refine AnyT.takeA (i := 12) (v := ?_) rfl (by kernel_rfl) (by kernel_rfl) (by kernel_rfl) (fun _ _ _ h => h) (Or.inl ⟨by rfl, ?_⟩) ?_
    rotate_left 1
    ·(intro w0 _; go_simp; try with_reducible rfl)
    try simp only [Act.put, setIfInBounds_toArray, set_cons_zero, set_cons_succ, getElem_toArray, getElem_cons_zero, getElem_cons_succ]
    refine AnyT.done (by kernel_rfl) ?_ _
    clear k0wd k1wd k2wd k3wd k0we k1we k2we k3we k2wg k3wg bd1 be bg TD TE MD ME HX oX LWO LET LNI HT HM k0wc k1wc m0 m1 nz nz2
    obtain ⟨-, f0, f60⟩ := by_parts HB.out
    by_cases hf0 : f = 0
    ·have hq0 : qn = 0 := by rw [← MG.len]; exact by_zero HB.out hf0
     have HF0 := hid hf0
     subst hf0
     subst hq0
     have m1 : wg.cell? ⟨o7, 1, none⟩ = some (.slice Q 0 qc) := MG.c1
     have FF := hid TG.b
     clear TG MG HB HBD HEL k0wg k1wg hf HZ HS
     go_wp2
     go_ret
     exact ⟨rfl, FF.out⟩
    ·have LI := hid (implWalkBy0 _ _ _ d t s (f - 1) wg TG.s TG.t HZ.out.1 HZ.out.2 HS.out.1 HS.out.2)
     have HF := hid hf0
     have fz : (f == 0) = false := by rw [beq_eq_false_iff_ne]; exact hf0
     have HT := hid TG
     have HM := hid MG
     clear TG MG
     go_wp2_with fail
     refine LI.out.mono ?_
     rintro e w12 ⟨F3, fn3, fc3, Q3, ln, lc, rfl, oW, bb⟩
     have T := HT.out.next bb
     have M := HM.out.next bb
     obtain ⟨o11, ho11⟩ : ∃ o, w12.heap.size = o := ⟨_, rfl⟩
     obtain ⟨W13, hW13⟩ : ∃ W, W = w12.alloc (.cells #[.slice F3 fn3 fc3, .slice Q3 ln lc] 34) := ⟨_, rfl⟩
     obtain ⟨L, b13⟩ := Lo.of oW.rd ho11 hW13
     replace T := T.next b13
     replace M := M.next b13
     have HW13 := hid hW13
     have HO11 := hid ho11
     clear oW bb b13 hW13 ho11 k0wg k1wg HT HM LI fz
     have c0 : W13.cell? ⟨o, 0, none⟩ = some (.slice S sn sc) := T.c0
     have c1 : W13.cell? ⟨o, 1, none⟩ = some (.slice R rn rc) := T.c1
     have LN := hid (implNormalBy0 _ _ _ d t s f W13 T.s T.t HZ.out.1 HZ.out.2 HS.out.1 HS.out.2)
     rw [HBD.out] at LN
     go_upto_region 15 with fail
     rw [← HW13.out, HO11.out]
     go_wp2_with fail
     refine LN.out.mono ?_
     rintro e w14 ⟨X, xn, xc, rfl, oX, bb⟩
     replace T := T.next bb
     replace M := M.next bb
     replace L := L.next bb
     have hxn : xn ≤ 1048576 := by have h1 := Own.len oX; have h2 := byN_len (sg := d.1) (rs := d.2) (t := t) (s := s) (f := f); omega
     have LX := (Own.seg oX).next (drew_below w14)
     have HX := hid LX
     have hbt := by_take HB.out HF.out
     have hle : ln ≤ qn := by rw [← L.len, ← M.len]; exact hbt.2
     have hcap := M.cap
     have hS : Rd w14.drew w14.drew.heap.size sStepS [.slice Q ln qc] (byW d.1 d.2 t s (f - 1)).2 := by
      rw [hbt.1, L.len]
      exact rd_take M.drew.steps hle
     have LW6 := hid (w5Yes _ _ _ w14.drew L.drew.steps hS (by have h1 : sz sI (byW d.1 d.2 t s (f - 1)).1 + sz sStepS (byW d.1 d.2 t s (f - 1)).2 ≤ 1048576 := byW_sz; omega))
     have LET := hid (fun (w9 : World) (T9 : Sy w o S sn sc R rn rc d (.slice U un uc) t w9) (M9 : Lo o7 F Q fn fc qn qc (byW d.1 d.2 t s f) w9) => implEndTerm _ _ _ _ d (byW d.1 d.2 t s f) w9 T9.s M9.m HZ.out.1 byW_sz)
     have hle2 : (ln : Int) ≤ (qn : Int) := by omega
     have hcap1 : qn ≤ qc := hcap.1
     have hcap2 : qc ≤ 9223372036854775807 := hcap.2.1
     have hlc : ln ≤ qc := by omega
     have c0 : w14.cell? ⟨o, 0, none⟩ = some (.slice S sn sc) := T.c0
     have c1 : w14.cell? ⟨o, 1, none⟩ = some (.slice R rn rc) := T.c1
     have m0 : w14.cell? ⟨o7, 0, none⟩ = some (.slice F fn fc) := M.c0
     have m1 : w14.cell? ⟨o7, 1, none⟩ = some (.slice Q qn qc) := M.c1
     have l1 : w14.cell? ⟨o11, 1, none⟩ = some (.slice Q3 ln lc) := L.c1
     have HT := hid T.drew
     have HM := hid M.drew
     have HL := hid L.drew
     clear T M L oX bb hS hbt HW13 HO11 LN hcap LX hf f0 f60 hf0 HF
     go_wp2_with fail
     refine AnyT.start (S := (fun w' => w'.cell? ⟨o, 0, none⟩ = some (.slice S sn sc) ∧ w'.cell? ⟨o, 1, none⟩ = some (.slice R rn rc) ∧ w'.cell? ⟨o7, 0, none⟩ = some (.slice F fn fc) ∧ w'.cell? ⟨o7, 1, none⟩ = some (.slice Q qn qc) ∧ w'.cell? ⟨o11, 1, none⟩ = some (.slice Q3 ln lc))) (fun _ => false) (by kernel_rfl) ⟨c0, c1, m0, m1, l1⟩ (fun hHeld => ?_)
     refine AnyT.takeA (i := 0) (v := ?_) rfl (by kernel_rfl) (by kernel_rfl) (by kernel_rfl) (fun _ _ _ h => h) (Or.inl ⟨by rfl, ?_⟩) ?_
     rotate_left 1
     ·(intro w0 _; go_simp; try with_reducible rfl)
     try simp only [Act.put, setIfInBounds_toArray, set_cons_zero, set_cons_succ, getElem_toArray, getElem_cons_zero, getElem_cons_succ]
     refine AnyT.take (i := 1) (v := ?_) rfl (by kernel_rfl) (by kernel_rfl) (by kernel_rfl) (by kernel_rfl) (fun _ _ _ h => h) (Or.inl ⟨by rfl, ?_⟩) (by assumption) ?_
     rotate_left 1
     ·(intro w0 hSw; (try dsimp only at hSw); go_simp; try with_reducible rfl)
     try simp only [Act.put, setIfInBounds_toArray, set_cons_zero, set_cons_succ, getElem_toArray, getElem_cons_zero, getElem_cons_succ]
     refine AnyT.takeA (i := 2) (v := ?_) rfl (by kernel_rfl) (by kernel_rfl) (by kernel_rfl) (fun _ _ _ h => h) (Or.inl ⟨by rfl, ?_⟩) ?_
     rotate_left 1
     ·(intro w0 _; go_simp; try with_reducible rfl)
     try simp only [Act.put, setIfInBounds_toArray, set_cons_zero, set_cons_succ, getElem_toArray, getElem_cons_zero, getElem_cons_succ]
     refine AnyT.takeA (i := 3) (v := ?_) rfl (by kernel_rfl) (by kernel_rfl) (by kernel_rfl) (fun _ _ _ h => h) (Or.inl ⟨by rfl, ?_⟩) ?_
     rotate_left 1
     ·(intro w0 _; go_simp; try with_reducible rfl)
     try simp only [Act.put, setIfInBounds_toArray, set_cons_zero, set_cons_succ, getElem_toArray, getElem_cons_zero, getElem_cons_succ]
     refine AnyT.take (i := 4) (v := ?_) rfl (by kernel_rfl) (by kernel_rfl) (by kernel_rfl) (by kernel_rfl) (fun _ _ _ h => h) (Or.inl ⟨by rfl, ?_⟩) (by assumption) ?_
     rotate_left 1
     ·(intro w0 hSw; (try dsimp only at hSw); go_simp; try with_reducible rfl)
     try simp only [Act.put, setIfInBounds_toArray, set_cons_zero, set_cons_succ, getElem_toArray, getElem_cons_zero, getElem_cons_succ]
     refine AnyT.takeA (i := 5) (v := ?_) rfl (by kernel_rfl) (by kernel_rfl) (by kernel_rfl) (fun _ _ _ h => h) (Or.inl ⟨by rfl, ?_⟩) ?_
     rotate_left 1
     ·(intro w0 _; go_simp; try with_reducible rfl)
     try simp only [Act.put, setIfInBounds_toArray, set_cons_zero, set_cons_succ, getElem_toArray, getElem_cons_zero, getElem_cons_succ]
     refine AnyT.takeA (i := 6) (v := ?_) rfl (by kernel_rfl) (by kernel_rfl) (by kernel_rfl) (fun _ _ _ h => h) (Or.inl ⟨by rfl, ?_⟩) ?_
     rotate_left 1
     ·(intro w0 _; go_simp; try with_reducible rfl)
     try simp only [Act.put, setIfInBounds_toArray, set_cons_zero, set_cons_succ, getElem_toArray, getElem_cons_zero, getElem_cons_succ]
     refine AnyT.takeA (i := 7) (v := ?_) rfl (by kernel_rfl) (by kernel_rfl) (by kernel_rfl) (fun _ _ _ h => h) (Or.inl ⟨by rfl, ?_⟩) ?_
     rotate_left 1
     ·(intro w0 _; go_simp; try with_reducible rfl)
     try simp only [Act.put, setIfInBounds_toArray, set_cons_zero, set_cons_succ, getElem_toArray, getElem_cons_zero, getElem_cons_succ]
     refine AnyT.takeA (i := 8) (v := ?_) rfl (by kernel_rfl) (by kernel_rfl) (by kernel_rfl) (fun _ _ _ h => h) (Or.inl ⟨by rfl, ?_⟩) ?_
     rotate_left 1
     ·(intro w0 _; go_simp; try with_reducible rfl)
     try simp only [Act.put, setIfInBounds_toArray, set_cons_zero, set_cons_succ, getElem_toArray, getElem_cons_zero, getElem_cons_succ]
     refine AnyT.take (i := 9) (v := ?_) rfl (by kernel_rfl) (by kernel_rfl) (by kernel_rfl) (by kernel_rfl) (fun _ _ _ h => h) (Or.inl ⟨by rfl, ?_⟩) (by assumption) ?_
     rotate_left 1
     ·(intro w0 hSw; (try dsimp only at hSw); go_simp; try with_reducible rfl)
     try simp only [Act.put, setIfInBounds_toArray, set_cons_zero, set_cons_succ, getElem_toArray, getElem_cons_zero, getElem_cons_succ]
     refine AnyT.takeA (i := 10) (v := ?_) rfl (by kernel_rfl) (by kernel_rfl) (by kernel_rfl) (fun _ _ _ h => h) (Or.inl ⟨by rfl, ?_⟩) ?_
     rotate_left 1
     ·(intro w0 _; go_simp; try with_reducible rfl)
     try simp only [Act.put, setIfInBounds_toArray, set_cons_zero, set_cons_succ, getElem_toArray, getElem_cons_zero, getElem_cons_succ]
     refine AnyT.take (i := 11) (v := ?_) rfl (by kernel_rfl) (by kernel_rfl) (by kernel_rfl) (by kernel_rfl) (fun _ _ _ h => h) (Or.inl ⟨by rfl, ?_⟩) (by assumption) ?_
     rotate_left 1
     ·(intro w0 hSw; (try dsimp only at hSw); go_simp; try with_reducible rfl)
     try simp only [Act.put, setIfInBounds_toArray, set_cons_zero, set_cons_succ, getElem_toArray, getElem_cons_zero, getElem_cons_succ]
     refine AnyT.takeA (i := 12) (v := ?_) rfl (by kernel_rfl) (by kernel_rfl) (by kernel_rfl) (fun _ _ _ h => h) (Or.inl ⟨by rfl, ?_⟩) ?_
     rotate_left 1
     ·(intro w0 _; go_simp; try with_reducible rfl)
     try simp only [Act.put, setIfInBounds_toArray, set_cons_zero, set_cons_succ, getElem_toArray, getElem_cons_zero, getElem_cons_succ]
     refine AnyT.take (i := 13) (v := ?_) rfl (by kernel_rfl) (by kernel_rfl) (by kernel_rfl) (by kernel_rfl) (fun _ _ _ h => h) (Or.inl ⟨by rfl, ?_⟩) (by assumption) ?_
     rotate_left 1
     ·(intro w0 hSw; (try dsimp only at hSw); go_simp; try with_reducible rfl)
     try simp only [Act.put, setIfInBounds_toArray, set_cons_zero, set_cons_succ, getElem_toArray, getElem_cons_zero, getElem_cons_succ]
     refine AnyT.takeA (i := 14) (v := ?_) rfl (by kernel_rfl) (by kernel_rfl) (by kernel_rfl) (fun _ _ _ h => h) (Or.inl ⟨by rfl, ?_⟩) ?_
     rotate_left 1
     ·(intro w0 _; go_simp; try with_reducible rfl)
     try simp only [Act.put, setIfInBounds_toArray, set_cons_zero, set_cons_succ, getElem_toArray, getElem_cons_zero, getElem_cons_succ]
     refine AnyT.takeA (i := 15) (v := ?_) rfl (by kernel_rfl) (by kernel_rfl) (by kernel_rfl) (fun _ _ _ h => h) (Or.inl ⟨by rfl, ?_⟩) ?_
     rotate_left 1
     ·(intro w0 _; go_simp; try with_reducible rfl)
     try simp only [Act.put, setIfInBounds_toArray, set_cons_zero, set_cons_succ, getElem_toArray, getElem_cons_zero, getElem_cons_succ]
     refine AnyT.call (i := 16) (by kernel_rfl) rfl (fun K hK => ?_)
     try simp only [Act.put, setIfInBounds_toArray, set_cons_zero, set_cons_succ, getElem_toArray, getElem_cons_zero, getElem_cons_succ]
     rw [if_pos (by rfl)]
     go_simp
     (go_at_call 10; refine LW6.out.mono ?_; rintro e wl ⟨rfl, bl⟩; have TL := HT.out.next bl; have ML := HM.out.next bl; have LL := HL.out.next bl; have XL := HX.out.next bl; have k0wl : wl.cell? ⟨o, 0, none⟩ = some (.slice S sn sc) := TL.c0; have k1wl : wl.cell? ⟨o, 1, none⟩ = some (.slice R rn rc) := TL.c1; have k2wl : wl.cell? ⟨o7, 0, none⟩ = some (.slice F fn fc) := ML.c0; have k3wl : wl.cell? ⟨o7, 1, none⟩ = some (.slice Q qn qc) := ML.c1; have k4wl : wl.cell? ⟨o11, 1, none⟩ = some (.slice Q3 ln lc) := LL.c1; go_wp2_with fail)
     refine hK.out _ _ (fun _ _ => ?_) (fun hKeep => ?_)
     ·exact ⟨k0wl, k1wl, k2wl, k3wl, k4wl⟩
     replace hHeld := hKeep (by first | rfl | trivial) hHeld
     clear hK K hKeep
     try simp only [Act.put, setIfInBounds_toArray, set_cons_zero, set_cons_succ, getElem_toArray, getElem_cons_zero, getElem_cons_succ]
     refine AnyT.takeA (i := 17) (v := ?_) rfl (by kernel_rfl) (by kernel_rfl) (by kernel_rfl) (fun _ _ _ h => h) (Or.inl ⟨by rfl, ?_⟩) ?_
     rotate_left 1
     ·(intro w0 _; go_simp; try with_reducible rfl)
     try simp only [Act.put, setIfInBounds_toArray, set_cons_zero, set_cons_succ, getElem_toArray, getElem_cons_zero, getElem_cons_succ]
     refine AnyT.takeA (i := 18) (v := ?_) rfl (by kernel_rfl) (by kernel_rfl) (by kernel_rfl) (fun _ _ _ h => h) (Or.inl ⟨by rfl, ?_⟩) ?_
     rotate_left 1
     ·(intro w0 _; go_simp; try with_reducible rfl)
     try simp only [Act.put, setIfInBounds_toArray, set_cons_zero, set_cons_succ, getElem_toArray, getElem_cons_zero, getElem_cons_succ]
     refine AnyT.takeA (i := 19) (v := ?_) rfl (by kernel_rfl) (by kernel_rfl) (by kernel_rfl) (fun _ _ _ h => h) (Or.inl ⟨by rfl, ?_⟩) ?_
     rotate_left 1
     ·(intro w0 _; go_simp; try with_reducible rfl)
     try simp only [Act.put, setIfInBounds_toArray, set_cons_zero, set_cons_succ, getElem_toArray, getElem_cons_zero, getElem_cons_succ]
     refine AnyT.takeA (i := 20) (v := ?_) rfl (by kernel_rfl) (by kernel_rfl) (by kernel_rfl) (fun _ _ _ h => h) (Or.inl ⟨by rfl, ?_⟩) ?_
     rotate_left 1
     ·(intro w0 _; go_simp; try with_reducible rfl)
     try simp only [Act.put, setIfInBounds_toArray, set_cons_zero, set_cons_succ, getElem_toArray, getElem_cons_zero, getElem_cons_succ]
     refine AnyT.takeA (i := 21) (v := ?_) rfl (by kernel_rfl) (by kernel_rfl) (by kernel_rfl) (fun _ _ _ h => h) (Or.inl ⟨by rfl, ?_⟩) ?_
     rotate_left 1
     ·(intro w0 _; go_simp; try with_reducible rfl)
     try simp only [Act.put, setIfInBounds_toArray, set_cons_zero, set_cons_succ, getElem_toArray, getElem_cons_zero, getElem_cons_succ]
     refine AnyT.takeA (i := 22) (v := ?_) rfl (by kernel_rfl) (by kernel_rfl) (by kernel_rfl) (fun _ _ _ h => h) (Or.inl ⟨by rfl, ?_⟩) ?_
     rotate_left 1
     ·(intro w0 _; go_simp; try with_reducible rfl)
     try simp only [Act.put, setIfInBounds_toArray, set_cons_zero, set_cons_succ, getElem_toArray, getElem_cons_zero, getElem_cons_succ]
     refine AnyT.takeA (i := 23) (v := ?_) rfl (by kernel_rfl) (by kernel_rfl) (by kernel_rfl) (fun _ _ _ h => h) (Or.inl ⟨by rfl, ?_⟩) ?_
     rotate_left 1
     ·(intro w0 _; go_simp; try with_reducible rfl)
     try simp only [Act.put, setIfInBounds_toArray, set_cons_zero, set_cons_succ, getElem_toArray, getElem_cons_zero, getElem_cons_succ]
     refine AnyT.takeA (i := 24) (v := ?_) rfl (by kernel_rfl) (by kernel_rfl) (by kernel_rfl) (fun _ _ _ h => h) (Or.inl ⟨by rfl, ?_⟩) ?_
     rotate_left 1
     ·(intro w0 _; go_simp; try with_reducible rfl)
     try simp only [Act.put, setIfInBounds_toArray, set_cons_zero, set_cons_succ, getElem_toArray, getElem_cons_zero, getElem_cons_succ]
     refine AnyT.takeA (i := 25) (v := ?_) rfl (by kernel_rfl) (by kernel_rfl) (by kernel_rfl) (fun _ _ _ h => h) (Or.inl ⟨by rfl, ?_⟩) ?_
     rotate_left 1
     ·(intro w0 _; go_simp; try with_reducible rfl)
     try simp only [Act.put, setIfInBounds_toArray, set_cons_zero, set_cons_succ, getElem_toArray, getElem_cons_zero, getElem_cons_succ]
     refine AnyT.takeA (i := 26) (v := ?_) rfl (by kernel_rfl) (by kernel_rfl) (by kernel_rfl) (fun _ _ _ h => h) (Or.inl ⟨by rfl, ?_⟩) ?_
     rotate_left 1
     ·(intro w0 _; go_simp; try with_reducible rfl)
     try simp only [Act.put, setIfInBounds_toArray, set_cons_zero, set_cons_succ, getElem_toArray, getElem_cons_zero, getElem_cons_succ]
     refine AnyT.takeA (i := 27) (v := undef) rfl (by kernel_rfl) (by kernel_rfl) (by kernel_rfl) (fun _ _ _ h => h) (Or.inr ⟨by rfl, rfl⟩) ?_
     try simp only [Act.put, setIfInBounds_toArray, set_cons_zero, set_cons_succ, getElem_toArray, getElem_cons_zero, getElem_cons_succ]
     refine AnyT.takeA (i := 28) (v := undef) rfl (by kernel_rfl) (by kernel_rfl) (by kernel_rfl) (fun _ _ _ h => h) (Or.inr ⟨by rfl, rfl⟩) ?_
     try simp only [Act.put, setIfInBounds_toArray, set_cons_zero, set_cons_succ, getElem_toArray, getElem_cons_zero, getElem_cons_succ]
     refine AnyT.takeA (i := 29) (v := undef) rfl (by kernel_rfl) (by kernel_rfl) (by kernel_rfl) (fun _ _ _ h => h) (Or.inr ⟨by rfl, rfl⟩) ?_
     try simp only [Act.put, setIfInBounds_toArray, set_cons_zero, set_cons_succ, getElem_toArray, getElem_cons_zero, getElem_cons_succ]
     refine AnyT.call (i := 30) (by kernel_rfl) rfl (fun K hK => ?_)
     try simp only [Act.put, setIfInBounds_toArray, set_cons_zero, set_cons_succ, getElem_toArray, getElem_cons_zero, getElem_cons_succ]
     rw [if_neg (by intro h; cases h)]
     refine hK.out _ _ (fun _ h => h) (fun _ => ?_)
     clear hK K
     try simp only [Act.put, setIfInBounds_toArray, set_cons_zero, set_cons_succ, getElem_toArray, getElem_cons_zero, getElem_cons_succ]
     refine AnyT.call (i := 31) (by kernel_rfl) rfl (fun K hK => ?_)
     try simp only [Act.put, setIfInBounds_toArray, set_cons_zero, set_cons_succ, getElem_toArray, getElem_cons_zero, getElem_cons_succ]
     rw [if_neg (by intro h; cases h)]
     refine hK.out _ _ (fun _ h => h) (fun _ => ?_)
     clear hK K
     try simp only [Act.put, setIfInBounds_toArray, set_cons_zero, set_cons_succ, getElem_toArray, getElem_cons_zero, getElem_cons_succ]
     refine AnyT.takeA (i := 32) (v := ?_) rfl (by kernel_rfl) (by kernel_rfl) (by kernel_rfl) (fun _ _ _ h => h) (Or.inl ⟨by rfl, ?_⟩) ?_
     rotate_left 1
     ·(intro w0 _; go_simp; try with_reducible rfl)
     try simp only [Act.put, setIfInBounds_toArray, set_cons_zero, set_cons_succ, getElem_toArray, getElem_cons_zero, getElem_cons_succ]
     refine AnyT.takeA (i := 33) (v := ?_) rfl (by kernel_rfl) (by kernel_rfl) (by kernel_rfl) (fun _ _ _ h => h) (Or.inl ⟨by rfl, ?_⟩) ?_
     rotate_left 1
     ·(intro w0 _; go_simp; try with_reducible rfl)
     try simp only [Act.put, setIfInBounds_toArray, set_cons_zero, set_cons_succ, getElem_toArray, getElem_cons_zero, getElem_cons_succ]
     refine AnyT.takeA (i := 34) (v := ?_) rfl (by kernel_rfl) (by kernel_rfl) (by kernel_rfl) (fun _ _ _ h => h) (Or.inl ⟨by rfl, ?_⟩) ?_
     rotate_left 1
     ·(intro w0 _; go_simp; try with_reducible rfl)
     try simp only [Act.put, setIfInBounds_toArray, set_cons_zero, set_cons_succ, getElem_toArray, getElem_cons_zero, getElem_cons_succ]
     refine AnyT.done (by kernel_rfl) ?_ _
     have FF := hid TL.b
     clear k0wl k1wl k2wl k3wl k4wl bl TL ML LL XL HT HM HL HX LW6 LET c0 c1 m0 m1 l1
     go_wp2
     go_ret
     exact ⟨rfl, FF.out⟩
   | true =>
    go_upto_region 6 with fail
    rw [← HW6.out, HO9.out]
    refine AnyT.start (S := (fun w' => w'.cell? ⟨o, 0, none⟩ = some (.slice S sn sc) ∧ w'.cell? ⟨o, 1, none⟩ = some (.slice R rn rc) ∧ w'.cell? ⟨o7, 1, none⟩ = some (.slice Q qn qc) ∧ w'.cell? ⟨o9, 1, none⟩ = some (.slice Q' qn' qc'))) (fun _ => false) (by kernel_rfl) ⟨c0, c1, m1, n1⟩ (fun hHeld => ?_)
    refine AnyT.takeA (i := 0) (v := ?_) rfl (by kernel_rfl) (by kernel_rfl) (by kernel_rfl) (fun _ _ _ h => h) (Or.inl ⟨by rfl, ?_⟩) ?_
    rotate_left 1
    ·(intro w0 _; go_simp; try with_reducible rfl)
    try simp only [Act.put, setIfInBounds_toArray, set_cons_zero, set_cons_succ, getElem_toArray, getElem_cons_zero, getElem_cons_succ]
    refine AnyT.takeA (i := 1) (v := ?_) rfl (by kernel_rfl) (by kernel_rfl) (by kernel_rfl) (fun _ _ _ h => h) (Or.inl ⟨by rfl, ?_⟩) ?_
    rotate_left 1
    ·(intro w0 _; go_simp; try with_reducible rfl)
    try simp only [Act.put, setIfInBounds_toArray, set_cons_zero, set_cons_succ, getElem_toArray, getElem_cons_zero, getElem_cons_succ]
    refine AnyT.takeA (i := 2) (v := ?_) rfl (by kernel_rfl) (by kernel_rfl) (by kernel_rfl) (fun _ _ _ h => h) (Or.inl ⟨by rfl, ?_⟩) ?_
    rotate_left 1
    ·(intro w0 _; go_simp; try with_reducible rfl)
    try simp only [Act.put, setIfInBounds_toArray, set_cons_zero, set_cons_succ, getElem_toArray, getElem_cons_zero, getElem_cons_succ]
    refine AnyT.takeA (i := 3) (v := ?_) rfl (by kernel_rfl) (by kernel_rfl) (by kernel_rfl) (fun _ _ _ h => h) (Or.inl ⟨by rfl, ?_⟩) ?_
    rotate_left 1
    ·(intro w0 _; go_simp; try with_reducible rfl)
    try simp only [Act.put, setIfInBounds_toArray, set_cons_zero, set_cons_succ, getElem_toArray, getElem_cons_zero, getElem_cons_succ]
    refine AnyT.takeA (i := 4) (v := ?_) rfl (by kernel_rfl) (by kernel_rfl) (by kernel_rfl) (fun _ _ _ h => h) (Or.inl ⟨by rfl, ?_⟩) ?_
    rotate_left 1
    ·(intro w0 _; go_simp; try with_reducible rfl)
    try simp only [Act.put, setIfInBounds_toArray, set_cons_zero, set_cons_succ, getElem_toArray, getElem_cons_zero, getElem_cons_succ]
    refine AnyT.take (i := 5) (v := ?_) rfl (by kernel_rfl) (by kernel_rfl) (by kernel_rfl) (by kernel_rfl) (fun _ _ _ h => h) (Or.inl ⟨by rfl, ?_⟩) (by assumption) ?_
    rotate_left 1
    ·(intro w0 hSw; (try dsimp only at hSw); go_simp; try with_reducible rfl)
    try simp only [Act.put, setIfInBounds_toArray, set_cons_zero, set_cons_succ, getElem_toArray, getElem_cons_zero, getElem_cons_succ]
    refine AnyT.takeA (i := 6) (v := ?_) rfl (by kernel_rfl) (by kernel_rfl) (by kernel_rfl) (fun _ _ _ h => h) (Or.inl ⟨by rfl, ?_⟩) ?_
    rotate_left 1
    ·(intro w0 _; go_simp; try with_reducible rfl)
    try simp only [Act.put, setIfInBounds_toArray, set_cons_zero, set_cons_succ, getElem_toArray, getElem_cons_zero, getElem_cons_succ]
    refine AnyT.take (i := 7) (v := ?_) rfl (by kernel_rfl) (by kernel_rfl) (by kernel_rfl) (by kernel_rfl) (fun _ _ _ h => h) (Or.inl ⟨by rfl, ?_⟩) (by assumption) ?_
    rotate_left 1
    ·(intro w0 hSw; (try dsimp only at hSw); go_simp; try with_reducible rfl)
    try simp only [Act.put, setIfInBounds_toArray, set_cons_zero, set_cons_succ, getElem_toArray, getElem_cons_zero, getElem_cons_succ]
    refine AnyT.call (i := 8) (by kernel_rfl) rfl (fun K hK => ?_)
    try simp only [Act.put, setIfInBounds_toArray, set_cons_zero, set_cons_succ, getElem_toArray, getElem_cons_zero, getElem_cons_succ]
    rw [if_pos (by rfl)]
    go_simp
    (go_at_call 10; refine LW5.out.mono ?_; rintro e wa ⟨rfl, ba⟩; have TA := HT.out.next ba; have MA := HM.out.next ba; have NA := HN2.out.next ba; have k0wa : wa.cell? ⟨o, 0, none⟩ = some (.slice S sn sc) := TA.c0; have k1wa : wa.cell? ⟨o, 1, none⟩ = some (.slice R rn rc) := TA.c1; have k2wa : wa.cell? ⟨o7, 1, none⟩ = some (.slice Q qn qc) := MA.c1; have k3wa : wa.cell? ⟨o9, 1, none⟩ = some (.slice Q' qn' qc') := NA.c1; go_wp2_with fail)
    refine hK.out _ _ (fun _ _ => ?_) (fun hKeep => ?_)
    ·exact ⟨k0wa, k1wa, k2wa, k3wa⟩
    replace hHeld := hKeep (by first | rfl | trivial) hHeld
    clear hK K hKeep
    try simp only [Act.put, setIfInBounds_toArray, set_cons_zero, set_cons_succ, getElem_toArray, getElem_cons_zero, getElem_cons_succ]
    refine AnyT.takeA (i := 9) (v := ?_) rfl (by kernel_rfl) (by kernel_rfl) (by kernel_rfl) (fun _ _ _ h => h) (Or.inl ⟨by rfl, ?_⟩) ?_
    rotate_left 1
    ·(intro w0 _; go_simp; try with_reducible rfl)
    try simp only [Act.put, setIfInBounds_toArray, set_cons_zero, set_cons_succ, getElem_toArray, getElem_cons_zero, getElem_cons_succ]
    refine AnyT.takeA (i := 10) (v := ?_) rfl (by kernel_rfl) (by kernel_rfl) (by kernel_rfl) (fun _ _ _ h => h) (Or.inl ⟨by rfl, ?_⟩) ?_
    rotate_left 1
    ·(intro w0 _; go_simp; try with_reducible rfl)
    try simp only [Act.put, setIfInBounds_toArray, set_cons_zero, set_cons_succ, getElem_toArray, getElem_cons_zero, getElem_cons_succ]
    refine AnyT.takeA (i := 11) (v := ?_) rfl (by kernel_rfl) (by kernel_rfl) (by kernel_rfl) (fun _ _ _ h => h) (Or.inl ⟨by rfl, ?_⟩) ?_
    rotate_left 1
    ·(intro w0 _; go_simp; try with_reducible rfl)
    try simp only [Act.put, setIfInBounds_toArray, set_cons_zero, set_cons_succ, getElem_toArray, getElem_cons_zero, getElem_cons_succ]
    refine AnyT.take (i := 12) (v := ?_) rfl (by kernel_rfl) (by kernel_rfl) (by kernel_rfl) (by kernel_rfl) (fun _ _ _ h => h) (Or.inl ⟨by rfl, ?_⟩) (by assumption) ?_
    rotate_left 1
    ·(intro w0 hSw; (try dsimp only at hSw); go_simp; try with_reducible rfl)
    try simp only [Act.put, setIfInBounds_toArray, set_cons_zero, set_cons_succ, getElem_toArray, getElem_cons_zero, getElem_cons_succ]
    refine AnyT.takeA (i := 13) (v := ?_) rfl (by kernel_rfl) (by kernel_rfl) (by kernel_rfl) (fun _ _ _ h => h) (Or.inl ⟨by rfl, ?_⟩) ?_
    rotate_left 1
    ·(intro w0 _; go_simp; try with_reducible rfl)
    try simp only [Act.put, setIfInBounds_toArray, set_cons_zero, set_cons_succ, getElem_toArray, getElem_cons_zero, getElem_cons_succ]
    refine AnyT.takeA (i := 14) (v := ?_) rfl (by kernel_rfl) (by kernel_rfl) (by kernel_rfl) (fun _ _ _ h => h) (Or.inl ⟨by rfl, ?_⟩) ?_
    rotate_left 1
    ·(intro w0 _; go_simp; try with_reducible rfl)
    try simp only [Act.put, setIfInBounds_toArray, set_cons_zero, set_cons_succ, getElem_toArray, getElem_cons_zero, getElem_cons_succ]
    refine AnyT.takeA (i := 15) (v := ?_) rfl (by kernel_rfl) (by kernel_rfl) (by kernel_rfl) (fun _ _ _ h => h) (Or.inl ⟨by rfl, ?_⟩) ?_
    rotate_left 1
    ·(intro w0 _; go_simp; try with_reducible rfl)
    try simp only [Act.put, setIfInBounds_toArray, set_cons_zero, set_cons_succ, getElem_toArray, getElem_cons_zero, getElem_cons_succ]
    refine AnyT.take (i := 17) (v := ?_) rfl (by kernel_rfl) (by kernel_rfl) (by kernel_rfl) (by kernel_rfl) (fun _ _ _ h => h) (Or.inl ⟨by rfl, ?_⟩) (by assumption) ?_
    rotate_left 1
    ·(intro w0 hSw; (try dsimp only at hSw); go_simp; try with_reducible rfl)
    try simp only [Act.put, setIfInBounds_toArray, set_cons_zero, set_cons_succ, getElem_toArray, getElem_cons_zero, getElem_cons_succ]
    refine AnyT.takeA (i := 18) (v := ?_) rfl (by kernel_rfl) (by kernel_rfl) (by kernel_rfl) (fun _ _ _ h => h) (Or.inl ⟨by rfl, ?_⟩) ?_
    rotate_left 1
    ·(intro w0 _; go_simp; try with_reducible rfl)
    try simp only [Act.put, setIfInBounds_toArray, set_cons_zero, set_cons_succ, getElem_toArray, getElem_cons_zero, getElem_cons_succ]
    refine AnyT.takeA (i := 19) (v := ?_) rfl (by kernel_rfl) (by kernel_rfl) (by kernel_rfl) (fun _ _ _ h => h) (Or.inl ⟨by rfl, ?_⟩) ?_
    rotate_left 1
    ·(intro w0 _; go_simp; try with_reducible rfl)
    try simp only [Act.put, setIfInBounds_toArray, set_cons_zero, set_cons_succ, getElem_toArray, getElem_cons_zero, getElem_cons_succ]
    refine AnyT.takeA (i := 20) (v := ?_) rfl (by kernel_rfl) (by kernel_rfl) (by kernel_rfl) (fun _ _ _ h => h) (Or.inl ⟨by rfl, ?_⟩) ?_
    rotate_left 1
    ·(intro w0 _; go_simp; try with_reducible rfl)
    try simp only [Act.put, setIfInBounds_toArray, set_cons_zero, set_cons_succ, getElem_toArray, getElem_cons_zero, getElem_cons_succ]
    refine AnyT.call (i := 16) (by kernel_rfl) rfl (fun K hK => ?_)
    try simp only [Act.put, setIfInBounds_toArray, set_cons_zero, set_cons_succ, getElem_toArray, getElem_cons_zero, getElem_cons_succ]
    rw [if_pos (by rfl)]
    go_simp
    (go_at_call 11; refine (LCI.out _ TA).mono ?_; rintro e wb ⟨rfl, bb⟩; have TB := TA.next bb; have MB := MA.next bb; have NB := NA.next bb; have k0wb : wb.cell? ⟨o, 0, none⟩ = some (.slice S sn sc) := TB.c0; have k1wb : wb.cell? ⟨o, 1, none⟩ = some (.slice R rn rc) := TB.c1; have k2wb : wb.cell? ⟨o7, 1, none⟩ = some (.slice Q qn qc) := MB.c1; have k3wb : wb.cell? ⟨o9, 1, none⟩ = some (.slice Q' qn' qc') := NB.c1; go_wp2_with fail)
    refine hK.out _ _ (fun _ _ => ?_) (fun hKeep => ?_)
    ·exact ⟨k0wb, k1wb, k2wb, k3wb⟩
    replace hHeld := hKeep (by first | rfl | trivial) hHeld
    clear hK K hKeep
    try simp only [Act.put, setIfInBounds_toArray, set_cons_zero, set_cons_succ, getElem_toArray, getElem_cons_zero, getElem_cons_succ]
    refine AnyT.call (i := 21) (by kernel_rfl) rfl (fun K hK => ?_)
    try simp only [Act.put, setIfInBounds_toArray, set_cons_zero, set_cons_succ, getElem_toArray, getElem_cons_zero, getElem_cons_succ]
    rw [if_pos (by rfl)]
    go_simp
    (go_at_call 12; refine (LCS.out _ TB).mono ?_; rintro e wc ⟨rfl, bc⟩; have TC := TB.next bc; have MC := MB.next bc; have NC := NB.next bc; have k0wc : wc.cell? ⟨o, 0, none⟩ = some (.slice S sn sc) := TC.c0; have k1wc : wc.cell? ⟨o, 1, none⟩ = some (.slice R rn rc) := TC.c1; have k2wc : wc.cell? ⟨o7, 1, none⟩ = some (.slice Q qn qc) := MC.c1; have k3wc : wc.cell? ⟨o9, 1, none⟩ = some (.slice Q' qn' qc') := NC.c1; go_wp2_with fail)
    refine hK.out _ _ (fun _ _ => ?_) (fun hKeep => ?_)
    ·exact ⟨k0wc, k1wc, k2wc, k3wc⟩
    replace hHeld := hKeep (by first | rfl | trivial) hHeld
    clear hK K hKeep
    try simp only [Act.put, setIfInBounds_toArray, set_cons_zero, set_cons_succ, getElem_toArray, getElem_cons_zero, getElem_cons_succ]
    refine AnyT.takeA (i := 22) (v := ?_) rfl (by kernel_rfl) (by kernel_rfl) (by kernel_rfl) (fun _ _ _ h => h) (Or.inl ⟨by rfl, ?_⟩) ?_
    rotate_left 1
    ·(intro w0 _; go_simp; try with_reducible rfl)
    try simp only [Act.put, setIfInBounds_toArray, set_cons_zero, set_cons_succ, getElem_toArray, getElem_cons_zero, getElem_cons_succ]
    refine AnyT.takeA (i := 23) (v := ?_) rfl (by kernel_rfl) (by kernel_rfl) (by kernel_rfl) (fun _ _ _ h => h) (Or.inl ⟨by rfl, ?_⟩) ?_
    rotate_left 1
    ·(intro w0 _; go_simp; try with_reducible rfl)
    try simp only [Act.put, setIfInBounds_toArray, set_cons_zero, set_cons_succ, getElem_toArray, getElem_cons_zero, getElem_cons_succ]
    refine AnyT.done (by kernel_rfl) ?_ _
    clear k0wa k1wa k2wa k3wa k0wb k1wb k2wb k3wb k2wc k3wc ba bb bc TA TB MA MB NA NB NC LW5 LCI LCS HT HM HN2 c0 c1 m1 n1 ez ezz
    have HT := hid TC.drew
    have HM := hid MC.drew
    have m0 : wc.cell? ⟨o7, 0, none⟩ = some (.slice F fn fc) := MC.c0
    have m1 : wc.cell? ⟨o7, 1, none⟩ = some (.slice Q qn qc) := MC.c1
    have LWO := hid (implWalkOk _ _ _ _ d (byW d.1 d.2 t s f) wc.drew TC.drew.s MC.drew.m HZ.out.1 byW_sz)
    rw [by_walk HB.out] at LWO
    have LET := hid (fun (w9 : World) (T9 : Sy w o S sn sc R rn rc d (.slice U un uc) t w9) (M9 : Lo o7 F Q fn fc qn qc (byW d.1 d.2 t s f) w9) => implEndTerm _ _ _ _ d (byW d.1 d.2 t s f) w9 T9.s M9.m HZ.out.1 byW_sz)
    have HEL : Hid ((endW d.1 d.2 (byW d.1 d.2 t s f)).length ≤ 1048576) := hid (endW_len byW_sz)
    have LNI := hid (fun (w9 : World) (X : Option Addr) (xn xc : Nat) (T9 : Sy w o S sn sc R rn rc d (.slice U un uc) t w9) (X9 : Rd w9 w9.heap.size sI [.slice X xn xc] (endW d.1 d.2 (byW d.1 d.2 t s f))) => implNormalIn _ _ _ d (endW d.1 d.2 (byW d.1 d.2 t s f)) w9 T9.s X9 HZ.out.1 (by rw [sz_ints]; exact HEL.out))
    rw [← by_end HB.out, HBD.out] at LNI
    have nz : ((fn : Int) == 0) = false := by rw [beq_eq_false_iff_ne]; omega
    have nz2 : ¬ (fn : Int) = 0 := by omega
    clear TC MC
    go_wp2_with fail
    refine AnyT.start (S := (fun w' => w'.cell? ⟨o, 0, none⟩ = some (.slice S sn sc) ∧ w'.cell? ⟨o, 1, none⟩ = some (.slice R rn rc) ∧ w'.cell? ⟨o7, 0, none⟩ = some (.slice F fn fc) ∧ w'.cell? ⟨o7, 1, none⟩ = some (.slice Q qn qc))) (fun _ => false) (by kernel_rfl) ⟨k0wc, k1wc, m0, m1⟩ (fun hHeld => ?_)
    refine AnyT.take (i := 0) (v := ?_) rfl (by kernel_rfl) (by kernel_rfl) (by kernel_rfl) (by kernel_rfl) (fun _ _ _ h => h) (Or.inl ⟨by rfl, ?_⟩) (by assumption) ?_
    rotate_left 1
    ·(intro w0 hSw; (try dsimp only at hSw); go_simp; try with_reducible rfl)
    try simp only [Act.put, setIfInBounds_toArray, set_cons_zero, set_cons_succ, getElem_toArray, getElem_cons_zero, getElem_cons_succ]
    refine AnyT.take (i := 1) (v := ?_) rfl (by kernel_rfl) (by kernel_rfl) (by kernel_rfl) (by kernel_rfl) (fun _ _ _ h => h) (Or.inl ⟨by rfl, ?_⟩) (by assumption) ?_
    rotate_left 1
    ·(intro w0 hSw; (try dsimp only at hSw); go_simp; try with_reducible rfl)
    try simp only [Act.put, setIfInBounds_toArray, set_cons_zero, set_cons_succ, getElem_toArray, getElem_cons_zero, getElem_cons_succ]
    refine AnyT.call (i := 2) (by kernel_rfl) rfl (fun K hK => ?_)
    try simp only [Act.put, setIfInBounds_toArray, set_cons_zero, set_cons_succ, getElem_toArray, getElem_cons_zero, getElem_cons_succ]
    rw [if_pos (by rfl)]
    go_simp
    (go_at_call 13; refine LWO.out.mono ?_; rintro e wd ⟨rfl, bd1⟩; have TD := HT.out.next bd1; have MD := HM.out.next bd1; have k0wd : wd.cell? ⟨o, 0, none⟩ = some (.slice S sn sc) := TD.c0; have k1wd : wd.cell? ⟨o, 1, none⟩ = some (.slice R rn rc) := TD.c1; have k2wd : wd.cell? ⟨o7, 0, none⟩ = some (.slice F fn fc) := MD.c0; have k3wd : wd.cell? ⟨o7, 1, none⟩ = some (.slice Q qn qc) := MD.c1; go_wp2_with fail)
    refine hK.out _ _ (fun _ _ => ?_) (fun hKeep => ?_)
    ·exact ⟨k0wd, k1wd, k2wd, k3wd⟩
    replace hHeld := hKeep (by first | rfl | trivial) hHeld
    clear hK K hKeep
    try simp only [Act.put, setIfInBounds_toArray, set_cons_zero, set_cons_succ, getElem_toArray, getElem_cons_zero, getElem_cons_succ]
    refine AnyT.takeA (i := 3) (v := ?_) rfl (by kernel_rfl) (by kernel_rfl) (by kernel_rfl) (fun _ _ _ h => h) (Or.inl ⟨by rfl, ?_⟩) ?_
    rotate_left 1
    ·(intro w0 _; go_simp; try with_reducible rfl)
    try simp only [Act.put, setIfInBounds_toArray, set_cons_zero, set_cons_succ, getElem_toArray, getElem_cons_zero, getElem_cons_succ]
    refine AnyT.takeA (i := 4) (v := ?_) rfl (by kernel_rfl) (by kernel_rfl) (by kernel_rfl) (fun _ _ _ h => h) (Or.inl ⟨by rfl, ?_⟩) ?_
    rotate_left 1
    ·(intro w0 _; go_simp; try with_reducible rfl)
    try simp only [Act.put, setIfInBounds_toArray, set_cons_zero, set_cons_succ, getElem_toArray, getElem_cons_zero, getElem_cons_succ]
    refine AnyT.takeA (i := 5) (v := ?_) rfl (by kernel_rfl) (by kernel_rfl) (by kernel_rfl) (fun _ _ _ h => h) (Or.inl ⟨by rfl, ?_⟩) ?_
    rotate_left 1
    ·(intro w0 _; go_simp; try with_reducible rfl)
    try simp only [Act.put, setIfInBounds_toArray, set_cons_zero, set_cons_succ, getElem_toArray, getElem_cons_zero, getElem_cons_succ]
    refine AnyT.take (i := 6) (v := ?_) rfl (by kernel_rfl) (by kernel_rfl) (by kernel_rfl) (by kernel_rfl) (fun _ _ _ h => h) (Or.inl ⟨by rfl, ?_⟩) (by assumption) ?_
    rotate_left 1
    ·(intro w0 hSw; (try dsimp only at hSw); go_simp; try with_reducible rfl)
    try simp only [Act.put, setIfInBounds_toArray, set_cons_zero, set_cons_succ, getElem_toArray, getElem_cons_zero, getElem_cons_succ]
    refine AnyT.take (i := 7) (v := ?_) rfl (by kernel_rfl) (by kernel_rfl) (by kernel_rfl) (by kernel_rfl) (fun _ _ _ h => h) (Or.inl ⟨by rfl, ?_⟩) (by assumption) ?_
    rotate_left 1
    ·(intro w0 hSw; (try dsimp only at hSw); go_simp; try with_reducible rfl)
    try simp only [Act.put, setIfInBounds_toArray, set_cons_zero, set_cons_succ, getElem_toArray, getElem_cons_zero, getElem_cons_succ]
    refine AnyT.take (i := 8) (v := ?_) rfl (by kernel_rfl) (by kernel_rfl) (by kernel_rfl) (by kernel_rfl) (fun _ _ _ h => h) (Or.inl ⟨by rfl, ?_⟩) (by assumption) ?_
    rotate_left 1
    ·(intro w0 hSw; (try dsimp only at hSw); go_simp; try with_reducible rfl)
    try simp only [Act.put, setIfInBounds_toArray, set_cons_zero, set_cons_succ, getElem_toArray, getElem_cons_zero, getElem_cons_succ]
    refine AnyT.call (i := 9) (by kernel_rfl) rfl (fun K hK => ?_)
    try simp only [Act.put, setIfInBounds_toArray, set_cons_zero, set_cons_succ, getElem_toArray, getElem_cons_zero, getElem_cons_succ]
    rw [if_pos (by rfl)]
    go_simp
    (go_at_call 15; refine (LET.out _ TD MD).mono ?_; rintro e we ⟨X, xn, xc, rfl, oX, be⟩; have TE := TD.next be; have ME := MD.next be; have HX := rd_own oX; have k0we : we.cell? ⟨o, 0, none⟩ = some (.slice S sn sc) := TE.c0; have k1we : we.cell? ⟨o, 1, none⟩ = some (.slice R rn rc) := TE.c1; have k2we : we.cell? ⟨o7, 0, none⟩ = some (.slice F fn fc) := ME.c0; have k3we : we.cell? ⟨o7, 1, none⟩ = some (.slice Q qn qc) := ME.c1; go_wp2_with fail)
    refine hK.out _ _ (fun _ _ => ?_) (fun hKeep => ?_)
    ·exact ⟨k0we, k1we, k2we, k3we⟩
    replace hHeld := hKeep (by first | rfl | trivial) hHeld
    clear hK K hKeep
    try simp only [Act.put, setIfInBounds_toArray, set_cons_zero, set_cons_succ, getElem_toArray, getElem_cons_zero, getElem_cons_succ]
    refine AnyT.call (i := 10) (by kernel_rfl) rfl (fun K hK => ?_)
    try simp only [Act.put, setIfInBounds_toArray, set_cons_zero, set_cons_succ, getElem_toArray, getElem_cons_zero, getElem_cons_succ]
    rw [if_pos (by rfl)]
    go_simp
    (go_at_call 14; refine (LNI.out _ X xn xc TE HX).mono ?_; rintro e wg ⟨rfl, bg⟩; have TG := TE.next bg; have MG := ME.next bg; have k0wg : wg.cell? ⟨o, 0, none⟩ = some (.slice S sn sc) := TG.c0; have k1wg : wg.cell? ⟨o, 1, none⟩ = some (.slice R rn rc) := TG.c1; have k2wg : wg.cell? ⟨o7, 0, none⟩ = some (.slice F fn fc) := MG.c0; have k3wg : wg.cell? ⟨o7, 1, none⟩ = some (.slice Q qn qc) := MG.c1; go_wp2_with fail)
    refine hK.out _ _ (fun _ _ => ?_) (fun hKeep => ?_)
    ·exact ⟨k0wg, k1wg, k2wg, k3wg⟩
    replace hHeld := hKeep (by first | rfl | trivial) hHeld
    clear hK K hKeep
    try simp only [Act.put, setIfInBounds_toArray, set_cons_zero, set_cons_succ, getElem_toArray, getElem_cons_zero, getElem_cons_succ]
    refine AnyT.takeA (i := 11) (v := ?_) rfl (by kernel_rfl) (by kernel_rfl) (by kernel_rfl) (fun _ _ _ h => h) (Or.inl ⟨by rfl, ?_⟩) ?_
    rotate_left 1
    ·(intro w0 _; go_simp; try with_reducible rfl)
    try simp only [Act.put, setIfInBounds_toArray, set_cons_zero, set_cons_succ, getElem_toArray, getElem_cons_zero, getElem_cons_succ]
    refine AnyT.takeA (i := 12) (v := ?_) rfl (by kernel_rfl) (by kernel_rfl) (by kernel_rfl) (fun _ _ _ h => h) (Or.inl ⟨by rfl, ?_⟩) ?_
    rotate_left 1
    ·(intro w0 _; go_simp; try with_reducible rfl)
    try simp only [Act.put, setIfInBounds_toArray, set_cons_zero, set_cons_succ, getElem_toArray, getElem_cons_zero, getElem_cons_succ]
    refine AnyT.done (by kernel_rfl) ?_ _
    clear k0wd k1wd k2wd k3wd k0we k1we k2we k3we k2wg k3wg bd1 be bg TD TE MD ME HX oX LWO LET LNI HT HM k0wc k1wc m0 m1 nz nz2
    obtain ⟨-, f0, f60⟩ := by_parts HB.out
    by_cases hf0 : f = 0
    ·have hq0 : qn = 0 := by rw [← MG.len]; exact by_zero HB.out hf0
     have HF0 := hid hf0
     subst hf0
     subst hq0
     have m1 : wg.cell? ⟨o7, 1, none⟩ = some (.slice Q 0 qc) := MG.c1
     have FF := hid TG.b
     clear TG MG HB HBD HEL k0wg k1wg hf HZ HS
     go_wp2
     go_ret
     exact ⟨rfl, FF.out⟩
    ·have LI := hid (implWalkBy0 _ _ _ d t s (f - 1) wg TG.s TG.t HZ.out.1 HZ.out.2 HS.out.1 HS.out.2)
     have HF := hid hf0
     have fz : (f == 0) = false := by rw [beq_eq_false_iff_ne]; exact hf0
     have HT := hid TG
     have HM := hid MG
     clear TG MG
     go_wp2_with fail
     refine LI.out.mono ?_
     rintro e w12 ⟨F3, fn3, fc3, Q3, ln, lc, rfl, oW, bb⟩
     have T := HT.out.next bb
     have M := HM.out.next bb
     obtain ⟨o11, ho11⟩ : ∃ o, w12.heap.size = o := ⟨_, rfl⟩
     obtain ⟨W13, hW13⟩ : ∃ W, W = w12.alloc (.cells #[.slice F3 fn3 fc3, .slice Q3 ln lc] 34) := ⟨_, rfl⟩
     obtain ⟨L, b13⟩ := Lo.of oW.rd ho11 hW13
     replace T := T.next b13
     replace M := M.next b13
     have HW13 := hid hW13
     have HO11 := hid ho11
     clear oW bb b13 hW13 ho11 k0wg k1wg HT HM LI fz
     have c0 : W13.cell? ⟨o, 0, none⟩ = some (.slice S sn sc) := T.c0
     have c1 : W13.cell? ⟨o, 1, none⟩ = some (.slice R rn rc) := T.c1
     have LN := hid (implNormalBy0 _ _ _ d t s f W13 T.s T.t HZ.out.1 HZ.out.2 HS.out.1 HS.out.2)
     rw [HBD.out] at LN
     go_upto_region 15 with fail
     rw [← HW13.out, HO11.out]
     go_wp2_with fail
     refine LN.out.mono ?_
     rintro e w14 ⟨X, xn, xc, rfl, oX, bb⟩
     replace T := T.next bb
     replace M := M.next bb
     replace L := L.next bb
     have hxn : xn ≤ 1048576 := by have h1 := Own.len oX; have h2 := byN_len (sg := d.1) (rs := d.2) (t := t) (s := s) (f := f); omega
     have LX := (Own.seg oX).next (drew_below w14)
     have hxe : byN d.1 d.2 t s f = endW d.1 d.2 (byW d.1 d.2 t s f) := by unfold endW; rw [if_pos (by_walk HB.out), byN_yes HBD.out]
     rw [hxe] at LX
     clear hxe
     have HX := hid LX
     have hbt := by_take HB.out HF.out
     have hle : ln ≤ qn := by rw [← L.len, ← M.len]; exact hbt.2
     have hcap := M.cap
     have hS : Rd w14.drew w14.drew.heap.size sStepS [.slice Q ln qc] (byW d.1 d.2 t s (f - 1)).2 := by
      rw [hbt.1, L.len]
      exact rd_take M.drew.steps hle
     have LW6 := hid (w5Yes _ _ _ w14.drew L.drew.steps hS (by have h1 : sz sI (byW d.1 d.2 t s (f - 1)).1 + sz sStepS (byW d.1 d.2 t s (f - 1)).2 ≤ 1048576 := byW_sz; omega))
     have LET := hid (fun (w9 : World) (T9 : Sy w o S sn sc R rn rc d (.slice U un uc) t w9) (M9 : Lo o7 F Q fn fc qn qc (byW d.1 d.2 t s f) w9) => implEndTerm _ _ _ _ d (byW d.1 d.2 t s f) w9 T9.s M9.m HZ.out.1 byW_sz)
     have hle2 : (ln : Int) ≤ (qn : Int) := by omega
     have hcap1 : qn ≤ qc := hcap.1
     have hcap2 : qc ≤ 9223372036854775807 := hcap.2.1
     have hlc : ln ≤ qc := by omega
     have c0 : w14.cell? ⟨o, 0, none⟩ = some (.slice S sn sc) := T.c0
     have c1 : w14.cell? ⟨o, 1, none⟩ = some (.slice R rn rc) := T.c1
     have m0 : w14.cell? ⟨o7, 0, none⟩ = some (.slice F fn fc) := M.c0
     have m1 : w14.cell? ⟨o7, 1, none⟩ = some (.slice Q qn qc) := M.c1
     have l1 : w14.cell? ⟨o11, 1, none⟩ = some (.slice Q3 ln lc) := L.c1
     have HT := hid T.drew
     have HM := hid M.drew
     have HL := hid L.drew
     clear T M L oX bb hS hbt HW13 HO11 LN hcap LX hf f0 f60 hf0 HF
     go_wp2_with fail
     refine AnyT.start (S := (fun w' => w'.cell? ⟨o, 0, none⟩ = some (.slice S sn sc) ∧ w'.cell? ⟨o, 1, none⟩ = some (.slice R rn rc) ∧ w'.cell? ⟨o7, 0, none⟩ = some (.slice F fn fc) ∧ w'.cell? ⟨o7, 1, none⟩ = some (.slice Q qn qc) ∧ w'.cell? ⟨o11, 1, none⟩ = some (.slice Q3 ln lc))) (fun _ => false) (by kernel_rfl) ⟨c0, c1, m0, m1, l1⟩ (fun hHeld => ?_)
     refine AnyT.takeA (i := 0) (v := ?_) rfl (by kernel_rfl) (by kernel_rfl) (by kernel_rfl) (fun _ _ _ h => h) (Or.inl ⟨by rfl, ?_⟩) ?_
     rotate_left 1
     ·(intro w0 _; go_simp; try with_reducible rfl)
     try simp only [Act.put, setIfInBounds_toArray, set_cons_zero, set_cons_succ, getElem_toArray, getElem_cons_zero, getElem_cons_succ]
     refine AnyT.take (i := 1) (v := ?_) rfl (by kernel_rfl) (by kernel_rfl) (by kernel_rfl) (by kernel_rfl) (fun _ _ _ h => h) (Or.inl ⟨by rfl, ?_⟩) (by assumption) ?_
     rotate_left 1
     ·(intro w0 hSw; (try dsimp only at hSw); go_simp; try with_reducible rfl)
     try simp only [Act.put, setIfInBounds_toArray, set_cons_zero, set_cons_succ, getElem_toArray, getElem_cons_zero, getElem_cons_succ]
     refine AnyT.takeA (i := 2) (v := ?_) rfl (by kernel_rfl) (by kernel_rfl) (by kernel_rfl) (fun _ _ _ h => h) (Or.inl ⟨by rfl, ?_⟩) ?_
     rotate_left 1
     ·(intro w0 _; go_simp; try with_reducible rfl)
     try simp only [Act.put, setIfInBounds_toArray, set_cons_zero, set_cons_succ, getElem_toArray, getElem_cons_zero, getElem_cons_succ]
     refine AnyT.takeA (i := 3) (v := ?_) rfl (by kernel_rfl) (by kernel_rfl) (by kernel_rfl) (fun _ _ _ h => h) (Or.inl ⟨by rfl, ?_⟩) ?_
     rotate_left 1
     ·(intro w0 _; go_simp; try with_reducible rfl)
     try simp only [Act.put, setIfInBounds_toArray, set_cons_zero, set_cons_succ, getElem_toArray, getElem_cons_zero, getElem_cons_succ]
     refine AnyT.take (i := 4) (v := ?_) rfl (by kernel_rfl) (by kernel_rfl) (by kernel_rfl) (by kernel_rfl) (fun _ _ _ h => h) (Or.inl ⟨by rfl, ?_⟩) (by assumption) ?_
     rotate_left 1
     ·(intro w0 hSw; (try dsimp only at hSw); go_simp; try with_reducible rfl)
     try simp only [Act.put, setIfInBounds_toArray, set_cons_zero, set_cons_succ, getElem_toArray, getElem_cons_zero, getElem_cons_succ]
     refine AnyT.takeA (i := 5) (v := ?_) rfl (by kernel_rfl) (by kernel_rfl) (by kernel_rfl) (fun _ _ _ h => h) (Or.inl ⟨by rfl, ?_⟩) ?_
     rotate_left 1
     ·(intro w0 _; go_simp; try with_reducible rfl)
     try simp only [Act.put, setIfInBounds_toArray, set_cons_zero, set_cons_succ, getElem_toArray, getElem_cons_zero, getElem_cons_succ]
     refine AnyT.takeA (i := 6) (v := ?_) rfl (by kernel_rfl) (by kernel_rfl) (by kernel_rfl) (fun _ _ _ h => h) (Or.inl ⟨by rfl, ?_⟩) ?_
     rotate_left 1
     ·(intro w0 _; go_simp; try with_reducible rfl)
     try simp only [Act.put, setIfInBounds_toArray, set_cons_zero, set_cons_succ, getElem_toArray, getElem_cons_zero, getElem_cons_succ]
     refine AnyT.takeA (i := 7) (v := ?_) rfl (by kernel_rfl) (by kernel_rfl) (by kernel_rfl) (fun _ _ _ h => h) (Or.inl ⟨by rfl, ?_⟩) ?_
     rotate_left 1
     ·(intro w0 _; go_simp; try with_reducible rfl)
     try simp only [Act.put, setIfInBounds_toArray, set_cons_zero, set_cons_succ, getElem_toArray, getElem_cons_zero, getElem_cons_succ]
     refine AnyT.takeA (i := 8) (v := ?_) rfl (by kernel_rfl) (by kernel_rfl) (by kernel_rfl) (fun _ _ _ h => h) (Or.inl ⟨by rfl, ?_⟩) ?_
     rotate_left 1
     ·(intro w0 _; go_simp; try with_reducible rfl)
     try simp only [Act.put, setIfInBounds_toArray, set_cons_zero, set_cons_succ, getElem_toArray, getElem_cons_zero, getElem_cons_succ]
     refine AnyT.take (i := 9) (v := ?_) rfl (by kernel_rfl) (by kernel_rfl) (by kernel_rfl) (by kernel_rfl) (fun _ _ _ h => h) (Or.inl ⟨by rfl, ?_⟩) (by assumption) ?_
     rotate_left 1
     ·(intro w0 hSw; (try dsimp only at hSw); go_simp; try with_reducible rfl)
     try simp only [Act.put, setIfInBounds_toArray, set_cons_zero, set_cons_succ, getElem_toArray, getElem_cons_zero, getElem_cons_succ]
     refine AnyT.takeA (i := 10) (v := ?_) rfl (by kernel_rfl) (by kernel_rfl) (by kernel_rfl) (fun _ _ _ h => h) (Or.inl ⟨by rfl, ?_⟩) ?_
     rotate_left 1
     ·(intro w0 _; go_simp; try with_reducible rfl)
     try simp only [Act.put, setIfInBounds_toArray, set_cons_zero, set_cons_succ, getElem_toArray, getElem_cons_zero, getElem_cons_succ]
     refine AnyT.take (i := 11) (v := ?_) rfl (by kernel_rfl) (by kernel_rfl) (by kernel_rfl) (by kernel_rfl) (fun _ _ _ h => h) (Or.inl ⟨by rfl, ?_⟩) (by assumption) ?_
     rotate_left 1
     ·(intro w0 hSw; (try dsimp only at hSw); go_simp; try with_reducible rfl)
     try simp only [Act.put, setIfInBounds_toArray, set_cons_zero, set_cons_succ, getElem_toArray, getElem_cons_zero, getElem_cons_succ]
     refine AnyT.takeA (i := 12) (v := ?_) rfl (by kernel_rfl) (by kernel_rfl) (by kernel_rfl) (fun _ _ _ h => h) (Or.inl ⟨by rfl, ?_⟩) ?_
     rotate_left 1
     ·(intro w0 _; go_simp; try with_reducible rfl)
     try simp only [Act.put, setIfInBounds_toArray, set_cons_zero, set_cons_succ, getElem_toArray, getElem_cons_zero, getElem_cons_succ]
     refine AnyT.take (i := 13) (v := ?_) rfl (by kernel_rfl) (by kernel_rfl) (by kernel_rfl) (by kernel_rfl) (fun _ _ _ h => h) (Or.inl ⟨by rfl, ?_⟩) (by assumption) ?_
     rotate_left 1
     ·(intro w0 hSw; (try dsimp only at hSw); go_simp; try with_reducible rfl)
     try simp only [Act.put, setIfInBounds_toArray, set_cons_zero, set_cons_succ, getElem_toArray, getElem_cons_zero, getElem_cons_succ]
     refine AnyT.takeA (i := 14) (v := ?_) rfl (by kernel_rfl) (by kernel_rfl) (by kernel_rfl) (fun _ _ _ h => h) (Or.inl ⟨by rfl, ?_⟩) ?_
     rotate_left 1
     ·(intro w0 _; go_simp; try with_reducible rfl)
     try simp only [Act.put, setIfInBounds_toArray, set_cons_zero, set_cons_succ, getElem_toArray, getElem_cons_zero, getElem_cons_succ]
     refine AnyT.takeA (i := 15) (v := ?_) rfl (by kernel_rfl) (by kernel_rfl) (by kernel_rfl) (fun _ _ _ h => h) (Or.inl ⟨by rfl, ?_⟩) ?_
     rotate_left 1
     ·(intro w0 _; go_simp; try with_reducible rfl)
     try simp only [Act.put, setIfInBounds_toArray, set_cons_zero, set_cons_succ, getElem_toArray, getElem_cons_zero, getElem_cons_succ]
     refine AnyT.call (i := 16) (by kernel_rfl) rfl (fun K hK => ?_)
     try simp only [Act.put, setIfInBounds_toArray, set_cons_zero, set_cons_succ, getElem_toArray, getElem_cons_zero, getElem_cons_succ]
     rw [if_pos (by rfl)]
     go_simp
     (go_at_call 10; refine LW6.out.mono ?_; rintro e wl ⟨rfl, bl⟩; have TL := HT.out.next bl; have ML := HM.out.next bl; have LL := HL.out.next bl; have XL := HX.out.next bl; have k0wl : wl.cell? ⟨o, 0, none⟩ = some (.slice S sn sc) := TL.c0; have k1wl : wl.cell? ⟨o, 1, none⟩ = some (.slice R rn rc) := TL.c1; have k2wl : wl.cell? ⟨o7, 0, none⟩ = some (.slice F fn fc) := ML.c0; have k3wl : wl.cell? ⟨o7, 1, none⟩ = some (.slice Q qn qc) := ML.c1; have k4wl : wl.cell? ⟨o11, 1, none⟩ = some (.slice Q3 ln lc) := LL.c1; go_wp2_with fail)
     refine hK.out _ _ (fun _ _ => ?_) (fun hKeep => ?_)
     ·exact ⟨k0wl, k1wl, k2wl, k3wl, k4wl⟩
     replace hHeld := hKeep (by first | rfl | trivial) hHeld
     clear hK K hKeep
     try simp only [Act.put, setIfInBounds_toArray, set_cons_zero, set_cons_succ, getElem_toArray, getElem_cons_zero, getElem_cons_succ]
     refine AnyT.takeA (i := 17) (v := ?_) rfl (by kernel_rfl) (by kernel_rfl) (by kernel_rfl) (fun _ _ _ h => h) (Or.inl ⟨by rfl, ?_⟩) ?_
     rotate_left 1
     ·(intro w0 _; go_simp; try with_reducible rfl)
     try simp only [Act.put, setIfInBounds_toArray, set_cons_zero, set_cons_succ, getElem_toArray, getElem_cons_zero, getElem_cons_succ]
     refine AnyT.takeA (i := 18) (v := ?_) rfl (by kernel_rfl) (by kernel_rfl) (by kernel_rfl) (fun _ _ _ h => h) (Or.inl ⟨by rfl, ?_⟩) ?_
     rotate_left 1
     ·(intro w0 _; go_simp; try with_reducible rfl)
     try simp only [Act.put, setIfInBounds_toArray, set_cons_zero, set_cons_succ, getElem_toArray, getElem_cons_zero, getElem_cons_succ]
     refine AnyT.takeA (i := 19) (v := ?_) rfl (by kernel_rfl) (by kernel_rfl) (by kernel_rfl) (fun _ _ _ h => h) (Or.inl ⟨by rfl, ?_⟩) ?_
     rotate_left 1
     ·(intro w0 _; go_simp; try with_reducible rfl)
     try simp only [Act.put, setIfInBounds_toArray, set_cons_zero, set_cons_succ, getElem_toArray, getElem_cons_zero, getElem_cons_succ]
     refine AnyT.takeA (i := 20) (v := ?_) rfl (by kernel_rfl) (by kernel_rfl) (by kernel_rfl) (fun _ _ _ h => h) (Or.inl ⟨by rfl, ?_⟩) ?_
     rotate_left 1
     ·(intro w0 _; go_simp; try with_reducible rfl)
     try simp only [Act.put, setIfInBounds_toArray, set_cons_zero, set_cons_succ, getElem_toArray, getElem_cons_zero, getElem_cons_succ]
     refine AnyT.takeA (i := 21) (v := ?_) rfl (by kernel_rfl) (by kernel_rfl) (by kernel_rfl) (fun _ _ _ h => h) (Or.inl ⟨by rfl, ?_⟩) ?_
     rotate_left 1
     ·(intro w0 _; go_simp; try with_reducible rfl)
     try simp only [Act.put, setIfInBounds_toArray, set_cons_zero, set_cons_succ, getElem_toArray, getElem_cons_zero, getElem_cons_succ]
     refine AnyT.takeA (i := 22) (v := ?_) rfl (by kernel_rfl) (by kernel_rfl) (by kernel_rfl) (fun _ _ _ h => h) (Or.inl ⟨by rfl, ?_⟩) ?_
     rotate_left 1
     ·(intro w0 _; go_simp; try with_reducible rfl)
     try simp only [Act.put, setIfInBounds_toArray, set_cons_zero, set_cons_succ, getElem_toArray, getElem_cons_zero, getElem_cons_succ]
     refine AnyT.takeA (i := 23) (v := ?_) rfl (by kernel_rfl) (by kernel_rfl) (by kernel_rfl) (fun _ _ _ h => h) (Or.inl ⟨by rfl, ?_⟩) ?_
     rotate_left 1
     ·(intro w0 _; go_simp; try with_reducible rfl)
     try simp only [Act.put, setIfInBounds_toArray, set_cons_zero, set_cons_succ, getElem_toArray, getElem_cons_zero, getElem_cons_succ]
     refine AnyT.takeA (i := 24) (v := ?_) rfl (by kernel_rfl) (by kernel_rfl) (by kernel_rfl) (fun _ _ _ h => h) (Or.inl ⟨by rfl, ?_⟩) ?_
     rotate_left 1
     ·(intro w0 _; go_simp; try with_reducible rfl)
     try simp only [Act.put, setIfInBounds_toArray, set_cons_zero, set_cons_succ, getElem_toArray, getElem_cons_zero, getElem_cons_succ]
     refine AnyT.takeA (i := 25) (v := ?_) rfl (by kernel_rfl) (by kernel_rfl) (by kernel_rfl) (fun _ _ _ h => h) (Or.inl ⟨by rfl, ?_⟩) ?_
     rotate_left 1
     ·(intro w0 _; go_simp; try with_reducible rfl)
     try simp only [Act.put, setIfInBounds_toArray, set_cons_zero, set_cons_succ, getElem_toArray, getElem_cons_zero, getElem_cons_succ]
     refine AnyT.takeA (i := 26) (v := ?_) rfl (by kernel_rfl) (by kernel_rfl) (by kernel_rfl) (fun _ _ _ h => h) (Or.inl ⟨by rfl, ?_⟩) ?_
     rotate_left 1
     ·(intro w0 _; go_simp; try with_reducible rfl)
     try simp only [Act.put, setIfInBounds_toArray, set_cons_zero, set_cons_succ, getElem_toArray, getElem_cons_zero, getElem_cons_succ]
     refine AnyT.takeA (i := 27) (v := ?_) rfl (by kernel_rfl) (by kernel_rfl) (by kernel_rfl) (fun _ _ _ h => h) (Or.inl ⟨by rfl, ?_⟩) ?_
     rotate_left 1
     ·(intro w0 _; go_simp; try with_reducible rfl)
     try simp only [Act.put, setIfInBounds_toArray, set_cons_zero, set_cons_succ, getElem_toArray, getElem_cons_zero, getElem_cons_succ]
     refine AnyT.take (i := 28) (v := ?_) rfl (by kernel_rfl) (by kernel_rfl) (by kernel_rfl) (by kernel_rfl) (fun _ _ _ h => h) (Or.inl ⟨by rfl, ?_⟩) (by assumption) ?_
     rotate_left 1
     ·(intro w0 hSw; (try dsimp only at hSw); go_simp; try with_reducible rfl)
     try simp only [Act.put, setIfInBounds_toArray, set_cons_zero, set_cons_succ, getElem_toArray, getElem_cons_zero, getElem_cons_succ]
     refine AnyT.take (i := 29) (v := ?_) rfl (by kernel_rfl) (by kernel_rfl) (by kernel_rfl) (by kernel_rfl) (fun _ _ _ h => h) (Or.inl ⟨by rfl, ?_⟩) (by assumption) ?_
     rotate_left 1
     ·(intro w0 hSw; (try dsimp only at hSw); go_simp; try with_reducible rfl)
     try simp only [Act.put, setIfInBounds_toArray, set_cons_zero, set_cons_succ, getElem_toArray, getElem_cons_zero, getElem_cons_succ]
     refine AnyT.call (i := 30) (by kernel_rfl) rfl (fun K hK => ?_)
     try simp only [Act.put, setIfInBounds_toArray, set_cons_zero, set_cons_succ, getElem_toArray, getElem_cons_zero, getElem_cons_succ]
     rw [if_pos (by rfl)]
     go_simp
     (go_at_call 15; refine (LET.out _ TL ML).mono ?_; rintro e wm ⟨Y, yn, yc, rfl, oY, bm⟩; have TM := TL.next bm; have MM := ML.next bm; have LM := LL.next bm; have XM := XL.next bm; have k0wm : wm.cell? ⟨o, 0, none⟩ = some (.slice S sn sc) := TM.c0; have k1wm : wm.cell? ⟨o, 1, none⟩ = some (.slice R rn rc) := TM.c1; have k2wm : wm.cell? ⟨o7, 0, none⟩ = some (.slice F fn fc) := MM.c0; have k3wm : wm.cell? ⟨o7, 1, none⟩ = some (.slice Q qn qc) := MM.c1; have k4wm : wm.cell? ⟨o11, 1, none⟩ = some (.slice Q3 ln lc) := LM.c1; go_wp2_with fail)
     refine hK.out _ _ (fun _ _ => ?_) (fun hKeep => ?_)
     ·exact ⟨k0wm, k1wm, k2wm, k3wm, k4wm⟩
     replace hHeld := hKeep (by first | rfl | trivial) hHeld
     clear hK K hKeep
     try simp only [Act.put, setIfInBounds_toArray, set_cons_zero, set_cons_succ, getElem_toArray, getElem_cons_zero, getElem_cons_succ]
     refine AnyT.call (i := 31) (by kernel_rfl) rfl (fun K hK => ?_)
     try simp only [Act.put, setIfInBounds_toArray, set_cons_zero, set_cons_succ, getElem_toArray, getElem_cons_zero, getElem_cons_succ]
     rw [if_pos (by rfl)]
     go_simp
     (go_at_call 17; refine (same_yes XM (Own.seg oY) (by omega) (by have h1 := Own.len oY; have h2 := HEL.out; omega)).mono ?_; rintro e wn ⟨rfl, bn⟩; have TN := TM.next bn; have MN := MM.next bn; have LN := LM.next bn; have k0wn : wn.cell? ⟨o, 0, none⟩ = some (.slice S sn sc) := TN.c0; have k1wn : wn.cell? ⟨o, 1, none⟩ = some (.slice R rn rc) := TN.c1; have k2wn : wn.cell? ⟨o7, 0, none⟩ = some (.slice F fn fc) := MN.c0; have k3wn : wn.cell? ⟨o7, 1, none⟩ = some (.slice Q qn qc) := MN.c1; have k4wn : wn.cell? ⟨o11, 1, none⟩ = some (.slice Q3 ln lc) := LN.c1; go_wp2_with fail)
     refine hK.out _ _ (fun _ _ => ?_) (fun hKeep => ?_)
     ·exact ⟨k0wn, k1wn, k2wn, k3wn, k4wn⟩
     replace hHeld := hKeep (by first | rfl | trivial) hHeld
     clear hK K hKeep
     try simp only [Act.put, setIfInBounds_toArray, set_cons_zero, set_cons_succ, getElem_toArray, getElem_cons_zero, getElem_cons_succ]
     refine AnyT.takeA (i := 32) (v := ?_) rfl (by kernel_rfl) (by kernel_rfl) (by kernel_rfl) (fun _ _ _ h => h) (Or.inl ⟨by rfl, ?_⟩) ?_
     rotate_left 1
     ·(intro w0 _; go_simp; try with_reducible rfl)
     try simp only [Act.put, setIfInBounds_toArray, set_cons_zero, set_cons_succ, getElem_toArray, getElem_cons_zero, getElem_cons_succ]
     refine AnyT.takeA (i := 33) (v := ?_) rfl (by kernel_rfl) (by kernel_rfl) (by kernel_rfl) (fun _ _ _ h => h) (Or.inl ⟨by rfl, ?_⟩) ?_
     rotate_left 1
     ·(intro w0 _; go_simp; try with_reducible rfl)
     try simp only [Act.put, setIfInBounds_toArray, set_cons_zero, set_cons_succ, getElem_toArray, getElem_cons_zero, getElem_cons_succ]
     refine AnyT.takeA (i := 34) (v := ?_) rfl (by kernel_rfl) (by kernel_rfl) (by kernel_rfl) (fun _ _ _ h => h) (Or.inl ⟨by rfl, ?_⟩) ?_
     rotate_left 1
     ·(intro w0 _; go_simp; try with_reducible rfl)
     try simp only [Act.put, setIfInBounds_toArray, set_cons_zero, set_cons_succ, getElem_toArray, getElem_cons_zero, getElem_cons_succ]
     refine AnyT.done (by kernel_rfl) ?_ _
     have FF := hid TN.b
     clear k0wl k1wl k2wl k3wl k4wl k0wm k1wm k2wm k3wm k4wm k0wn k1wn k2wn k3wn k4wn bl bm bn TL TM TN ML MM MN LL LM LN XL XM oY HT HM HL HX LW6 LET c0 c1 m0 m1 l1
     go_wp2
     go_ret
     exact ⟨rfl, FF.out⟩
 ·have LB := hid (bigAns A n c true w (by simp; omega) hN)
  clear h
  go_enter Tryz.func3, Tryz.ntmps3
  go_wp2_with fail
  refine LB.out.mono ?_
  rintro e w' ⟨rfl, rfl⟩
  go_wp2
  go_ret
  exact ⟨rfl, Below.refl _ _⟩
end wFnOrders
end
end Go.Proofs.YtmoidijngeijkaaGreat
