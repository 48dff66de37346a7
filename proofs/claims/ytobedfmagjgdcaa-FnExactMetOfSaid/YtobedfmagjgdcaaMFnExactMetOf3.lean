/-
  MERGED: my texts UnifRep, Rename, Same, UnifStep, UnifRun, Plain, PlainOf, CompMath, Shifted, one behind the other, as they are. By an AI agent.
-/
import Derived.Test.YtobedfmagjgdcaaMFnExactMetOf2
import Derived.Deep.AppendLies
import Derived.Deep.QuietTactic
import Derived.BigQuiet
import Derived.Deep.LoopGhost
import Derived.Deep.RegionHeld3
import Derived.Deep.DeepMust
namespace Go.Proofs.Ytobedfmagjgdcaa
section
open Go.Lib (hid)
open List (setIfInBounds_toArray set_cons_zero set_cons_succ getElem_toArray getElem_cons_zero getElem_cons_succ)
namespace unifRep
open Go.RowKit base ints sig cursor marks app sym segs fillMath gives unifMath Go.Proofs.Ytobedfmagjgdcaa.look thn heldT
set_option maxRecDepth 100000
def NoInt (cs : Array Value) : Prop := ∀ (j : Nat) (z : Int), cs[j]? ≠ some (Value.int .i64 z)
theorem noInt4 {a b c d : Value} (h1 : ∀ z : Int, a ≠ .int .i64 z) (h2 : ∀ z : Int, b ≠ .int .i64 z) (h3 : ∀ z : Int, c ≠ .int .i64 z) (h4 : ∀ z : Int, d ≠ .int .i64 z) : NoInt #[a, b, c, d] := fun j z e => by
 rcases j with _ | _ | _ | _ | j
 ·exact h1 z (by simpa using e)
 ·exact h2 z (by simpa using e)
 ·exact h3 z (by simpa using e)
 ·exact h4 z (by simpa using e)
 ·simp at e
theorem seg_ne {w : World} {B b off n : Nat} {xs : List Int} {g : Nat} {t : TypeId} {cs : Array Value} (h : Seg w B (some ⟨b, off, none⟩) n xs) (hn : 0 < n) (hr : Row w g t cs) (hno : NoInt cs) : b ≠ g := by
 rintro rfl
 obtain ⟨b', off', e, _, hc⟩ := h.2 hn
 injection e with e
 injection e with e1 e2
 subst e1 e2
 have := hc 0 hn
 rw [hr.cell] at this
 exact hno _ _ this
theorem segE {w w' : World} {n : Nat} {A : Option Addr} {xs : List Int} {g : Nat} {t : TypeId} {cs : Array Value} (h : Seg w w.heap.size A n xs) (hr : Row w g t cs) (hno : NoInt cs) (hg : w.grownBy w' (some g)) : Seg w' w'.heap.size A n xs := by
 refine ⟨h.1, fun hn => ?_⟩
 obtain ⟨b, off, rfl, hb, hc⟩ := h.2 hn
 have hne := seg_ne h hn hr hno
 exact ⟨b, off, rfl, Nat.lt_of_lt_of_le hb hg.size, fun j hj => hg.cell (hc j hj) (by show some b ≠ some g; exact fun e => hne (by injection e))⟩
structure Un (w : World) (g : Nat) (A : Option Addr) (n c : Nat) (sg : List Int) (P : Option Addr) (pn pc : Nat) (x : List Int) (Q : Option Addr) (qn qc : Nat) (y : List Int) (gl : Nat) (lb : Array Value) (L : Nat → List Int) : Prop where
 row : Row w g 67 #[.slice A n c, .slice P pn pc, .slice Q qn qc, .func (.func gl) #[] lb]
 s : Seg w w.heap.size A n sg
 p : Seg w w.heap.size P pn x
 q : Seg w w.heap.size Q qn y
 kp : Cap P pn pc
 kq : Cap Q qn qc
 eg : ∀ args w, (callFunc gl args).run Try.prog w = .ok (.enter gl args) w
 lk : LooksE (some g) gl lb w L 24
section
variable {w w' : World} {g : Nat} {A : Option Addr} {n c : Nat} {sg : List Int} {P : Option Addr} {pn pc : Nat} {x : List Int} {Q : Option Addr} {qn qc : Nat} {y : List Int} {gl : Nat} {lb : Array Value} {L : Nat → List Int}
theorem un_noInt : NoInt #[.slice A n c, .slice P pn pc, .slice Q qn qc, .func (.func gl) #[] lb] := noInt4 (fun _ e => by cases e) (fun _ e => by cases e) (fun _ e => by cases e) (fun _ e => by cases e)
theorem Un.next (h : Un w g A n c sg P pn pc x Q qn qc y gl lb L) (hb : Below w.heap.size w w') : Un w' g A n c sg P pn pc x Q qn qc y gl lb L :=
 ⟨h.row.next hb, h.s.next hb, h.p.next hb, h.q.next hb, h.kp, h.kq, h.eg, h.lk.next (grown_below hb _)⟩
theorem Un.c0 (h : Un w g A n c sg P pn pc x Q qn qc y gl lb L) : w.cell? ⟨g, 0, none⟩ = some (.slice A n c) := h.row.cell 0
theorem Un.c1 (h : Un w g A n c sg P pn pc x Q qn qc y gl lb L) : w.cell? ⟨g, 1, none⟩ = some (.slice P pn pc) := h.row.cell 1
theorem Un.c2 (h : Un w g A n c sg P pn pc x Q qn qc y gl lb L) : w.cell? ⟨g, 2, none⟩ = some (.slice Q qn qc) := h.row.cell 2
theorem Un.c3 (h : Un w g A n c sg P pn pc x Q qn qc y gl lb L) : w.cell? ⟨g, 3, none⟩ = some (.func (.func gl) #[] lb) := h.row.cell 3
end
theorem lookOnce (o : Option Nat) (bi bt i : Nat) (T : Option Addr) (tn tc : Nat) (t : List Int) (w : World) (ni : o ≠ some bi) (nt : o ≠ some bt) (ci : w.cell? ⟨bi, 0, none⟩ = some (.int .i64 (i : Int))) (ct : w.cell? ⟨bt, 0, none⟩ = some (.slice T tn tc)) (hs : Seg w w.heap.size T tn t) (ht : 1 ≤ tn) (hc : Cap T tn tc) (hi : i < 24)
  (hk : ∀ W, w.grownBy W o → Seg W W.heap.size T tn t) :
  LooksE o 133 #[.pointer (some ⟨bi, 0, none⟩), .pointer (some ⟨bt, 0, none⟩)] w (ones i t) 24 := by
 intro W j hg hj
 have pi : W.cell? ⟨bi, 0, none⟩ = some (.int .i64 (i : Int)) := hg.cell ci (fun e => ni e.symm)
 have pt : W.cell? ⟨bt, 0, none⟩ = some (.slice T tn tc) := hg.cell ct (fun e => nt e.symm)
 show Calls Try.prog 133 #[.int .i64 (j : Int), .pointer (some ⟨bi, 0, none⟩), .pointer (some ⟨bt, 0, none⟩)] W _
 have HB : Hid (∀ k, blk T = some k → k < w.heap.size ∨ W.heap.size ≤ k) := hid fun k e => by
  obtain ⟨b, off, rfl, hb, _⟩ := hs.2 ht
  injection e with e
  exact .inl (by rw [← e]; exact hb)
 by_cases e : j = i
 ·subst e
  have F : AnsLook w.heap.size W (ones j t j) (.returned (.slice T tn tc)) W := ⟨T, tn, tc, rfl, by unfold ones; rw [if_pos rfl]; exact hk W hg, hc, HB.out, Below.refl _ _⟩
  have HF := hid F
  clear F hg hk hs ci ct
  go_enter Try.func133, Try.ntmps133
  go_wp2
  go_ret
  exact HF.out
 ·have hne : ((j : Int) == (i : Int)) = false := by simp; exact fun h => e (by omega)
  have HE := hid (show ones i t j = vt j by unfold ones; rw [if_neg e])
  clear hg hk hs ci ct
  go_enter Try.func133, Try.ntmps133
  go_wp2_with fail
  refine (varTerm (j : Int) W (by omega) (by omega)).mono ?_
  rintro e w' ⟨A, n, c, rfl, ho, hb⟩
  have F : AnsLook w.heap.size W (ones i t j) (.returned (.slice A n c)) w' := by rw [HE.out]; exact look_new ho hb
  have HF := hid F
  clear F ho hb
  go_wp2
  go_ret
  exact HF.out
def AnsRep (w : World) (g : Nat) (A : Option Addr) (n c : Nat) (sg x y : List Int) (L : Nat → List Int) (e : Ending) (w' : World) : Prop :=
 w.grownBy w' (some g) ∧ ((x.length ≤ 60 ∧ y.length ≤ 60 ∧ e = .returned (.tuple #[]) ∧ ∃ P pn pc Q qn qc gl lb, Un w' g A n c sg P pn pc x Q qn qc y gl lb L) ∨
  (¬ (x.length ≤ 60 ∧ y.length ≤ 60) ∧ ∃ u v, e = .panicked [{ v := .iface u v, recovered := false }]))
def Put (w : World) (g : Nat) (A : Option Addr) (n c : Nat) (sg x y : List Int) (L : Nat → List Int) (w' : World) : Prop :=
 w.grownBy w' (some g) ∧ ∃ P pn pc Q qn qc gl lb, Un w' g A n c sg P pn pc x Q qn qc y gl lb L
theorem put_mk {w w2 w3 w4 w5 : World} {g : Nat} {A : Option Addr} {n c : Nat} {sg : List Int} {P : Option Addr} {pn pc : Nat} {x : List Int} {Q : Option Addr} {qn qc : Nat} {y : List Int} {gl : Nat} {lb : Array Value} {L : Nat → List Int} (h : Un w g A n c sg P pn pc x Q qn qc y gl lb L)
  {X : Option Addr} {xn xc : Nat} {x' : List Int} {Y : Option Addr} {yn yc : Nat} {y' : List Int} {g' : Nat} {lb' : Array Value} {L' : Nat → List Int} (b2 : Below w.heap.size w w2) (b3 : Below w2.heap.size w2 w3) (b4 : Below w3.heap.size w3 w4) (b5 : Below w4.heap.size w4 w5)
  (ox : Own w3 w2.heap.size (.slice X xn xc) x') (oy : Own w4 w3.heap.size (.slice Y yn yc) y') (eg : ∀ args w, (callFunc g' args).run Try.prog w = .ok (.enter g' args) w) (lk : LooksE (some g) g' lb' w5 L' 24) :
  Put w g A n c sg x' y' L' (((w5.setCell ⟨g, 1, none⟩ (.slice X xn xc)).setCell ⟨g, 2, none⟩ (.slice Y yn yc)).setCell ⟨g, 3, none⟩ (.func (.func g') #[] lb')) := by
 have b := next_trans b2 (next_trans b3 (next_trans b4 b5))
 have h5 := h.next b
 have hg : w5.grownBy (((w5.setCell ⟨g, 1, none⟩ (.slice X xn xc)).setCell ⟨g, 2, none⟩ (.slice Y yn yc)).setCell ⟨g, 3, none⟩ (.func (.func g') #[] lb')) (some g) := grown_put (grown_put (grown_put (World.grownBy.refl _ _) _ _) _ _) _ _
 refine ⟨grown_trans (grown_below b _) hg, X, xn, xc, Y, yn, yc, g', lb', ?_, segE h5.s h5.row un_noInt hg, segE ((Own.seg ox).next (next_trans b4 b5)) h5.row un_noInt hg, segE ((Own.seg oy).next b5) h5.row un_noInt hg, own_cap ox, own_cap oy, eg, lk.next hg⟩
 have r := ((h5.row.put 1 (.slice X xn xc)).put 2 (.slice Y yn yc)).put 3 (.func (.func g') #[] lb')
 simpa using r
set_option maxHeartbeats 4000000 in
theorem replace (g : Nat) (A P Q T : Option Addr) (n c pn pc qn qc tn tc gl : Nat) (lb : Array Value) (sg x y t : List Int) (L : Nat → List Int) (i : Nat) (w : World) (h : Un w g A n c sg P pn pc x Q qn qc y gl lb L) (hs : Seg w w.heap.size T tn t) (hc : Cap T tn tc) (ht : 1 ≤ tn) (ht60 : tn ≤ 60) (hi : i < 24) (hx : pn ≤ 60) (hy : qn ≤ 60)
  (vx : ∀ z ∈ x, -24 ≤ z) (vy : ∀ z ∈ y, -24 ≤ z) (hL : ∀ j, j < 24 → (L j).length ≤ 60) (vL : ∀ j, j < 24 → ∀ z ∈ L j, -24 ≤ z) :
  Calls Try.prog 119 #[.pointer (some ⟨g, 0, none⟩), .int .i64 (i : Int), .slice T tn tc] w (AnsRep w g A n c sg (fillL (ones i t) x) (fillL (ones i t) y) (fun m => fillL (ones i t) (L m))) := by
 have hgz := h.row.lt
 obtain ⟨W, hW⟩ : ∃ W, W = (w.alloc (.cells #[.int .i64 (i : Int)] 2)).alloc (.cells #[.slice T tn tc] 22) := ⟨_, rfl⟩
 have bW : Below w.heap.size w W := by rw [hW]; exact ((Below.refl _ _).alloc (Nat.le_refl _) _).alloc (by simp) _
 have ri : Row W w.heap.size 2 #[.int .i64 (i : Int)] := by rw [hW]; exact (Row.new w _ _).alloc _
 have rt : Row W (w.heap.size + 1) 22 #[.slice T tn tc] := by
  rw [hW]
  have := Row.new (w.alloc (.cells #[.int .i64 (i : Int)] 2)) 22 #[.slice T tn tc]
  simpa using this
 have U := h.next bW
 have hsW := hs.next bW
 have lt : t.length ≤ 60 := by rw [hs.1]; exact ht60
 have one60 : ∀ j, (ones i t j).length ≤ 60 := fun j => by unfold ones; split; exact lt; simp [vt]
 have LO : LooksE (some g) 133 #[.pointer (some ⟨w.heap.size, 0, none⟩), .pointer (some ⟨w.heap.size + 1, 0, none⟩)] W (ones i t) 24 :=
  lookOnce (some g) _ _ i T tn tc t W (by simp; omega) (by simp; omega) (ri.cell 0) (rt.cell 0) hsW ht hc hi (fun W' hg => segE hsW U.row un_noInt hg)
 have eo := enters_of Try.func133 (by kernel_rfl) rfl
 have et := enters_of Try.func112 (by kernel_rfl) rfl
 have M1 := hid (fun j => Nat.le_trans (one60 j) (show 60 ≤ 4096 by omega))
 have LF1 := hid (fun (w2 : World) (b : Below W.heap.size W w2) => fill _ _ eo P pn pc x (ones i t) w2 (LO.next (grown_below b _)).looks (U.next b).p hx vx M1.out)
 have LF2 := hid (fun (w3 : World) (b : Below W.heap.size W w3) => fill _ _ eo Q qn qc y (ones i t) w3 (LO.next (grown_below b _)).looks (U.next b).q hy vy M1.out)
 have c1 := U.c1
 have c2 := U.c2
 have c3 := U.c3
 have HW := hid hW
 have HU := hid U
 have HLO := hid LO
 have HBW := hid bW
 have hmf : ∀ (fn : Fn) (first cap : Array Value) (w : World), (Instr.makeFunc fn first cap).run Try.prog w = .ok (.func fn first cap) w := fun _ _ _ _ => rfl
 clear hW bW ri rt U hsW LO h hs
 go_enter Try.func119, Try.ntmps119
 go_wp2_with fail
 rw [← HW.out]
 go_cut [] (fun wx => Put W g A n c sg (fillL (ones i t) x) (fillL (ones i t) y) (fun m => fillL (ones i t) (L m)) wx)
 case first =>
  have BD : Hid (Below W.heap.size W W.drew) := hid (Below.refl _ _).drew
  have HV := hid vL
  have HL60 := hid hL
  clear vx vy one60 HW hL vL
  -- region
  refine AnyT.start (S := (fun w' => w'.cell? ⟨g, 1, none⟩ = some (.slice P pn pc) ∧ w'.cell? ⟨g, 2, none⟩ = some (.slice Q qn qc) ∧ w'.cell? ⟨g, 3, none⟩ = some (.func (.func gl) #[] lb))) (fun i => decide (21 ≤ i)) (by kernel_rfl) ⟨c1, c2, c3⟩ (fun hHeld => ?_)
  refine AnyT.takeA (i := 0) (v := ?_) rfl (by kernel_rfl) (by kernel_rfl) (by kernel_rfl) (fun _ _ _ h => h) (Or.inl ⟨by rfl, ?_⟩) ?_
  rotate_left 1
  ·(intro w0 _; go_simp; try with_reducible rfl)
  try simp only [Act.put, setIfInBounds_toArray, set_cons_zero, set_cons_succ, getElem_toArray, getElem_cons_zero, getElem_cons_succ]
  refine AnyT.takeA (i := 1) (v := ?_) rfl (by kernel_rfl) (by kernel_rfl) (by kernel_rfl) (fun _ _ _ h => h) (Or.inl ⟨by rfl, ?_⟩) ?_
  rotate_left 1
  ·(intro w0 _; go_simp; try with_reducible rfl)
  try simp only [Act.put, setIfInBounds_toArray, set_cons_zero, set_cons_succ, getElem_toArray, getElem_cons_zero, getElem_cons_succ]
  refine AnyT.takeA (i := 2) (v := ?_) rfl (by kernel_rfl) (by kernel_rfl) (by kernel_rfl) (fun _ _ _ h => h) (Or.inl ⟨by rfl, ?_⟩) ?_
  rotate_left 1
  ·(intro w0 _; go_simp; try with_reducible rfl)
  try simp only [Act.put, setIfInBounds_toArray, set_cons_zero, set_cons_succ, getElem_toArray, getElem_cons_zero, getElem_cons_succ]
  refine AnyT.takeA (i := 3) (v := ?_) rfl (by kernel_rfl) (by kernel_rfl) (by kernel_rfl) (fun _ _ _ h => h) (Or.inl ⟨by rfl, ?_⟩) ?_
  rotate_left 1
  ·(intro w0 _; go_simp; try with_reducible rfl)
  try simp only [Act.put, setIfInBounds_toArray, set_cons_zero, set_cons_succ, getElem_toArray, getElem_cons_zero, getElem_cons_succ]
  refine AnyT.takeA (i := 4) (v := ?_) rfl (by kernel_rfl) (by kernel_rfl) (by kernel_rfl) (fun _ _ _ h => h) (Or.inl ⟨by rfl, ?_⟩) ?_
  rotate_left 1
  ·(intro w0 _; go_simp; try with_reducible rfl)
  try simp only [Act.put, setIfInBounds_toArray, set_cons_zero, set_cons_succ, getElem_toArray, getElem_cons_zero, getElem_cons_succ]
  refine AnyT.takeA (i := 5) (v := ?_) rfl (by kernel_rfl) (by kernel_rfl) (by kernel_rfl) (fun _ _ _ h => h) (Or.inl ⟨by rfl, ?_⟩) ?_
  rotate_left 1
  ·(intro w0 _; go_simp; try with_reducible rfl)
  try simp only [Act.put, setIfInBounds_toArray, set_cons_zero, set_cons_succ, getElem_toArray, getElem_cons_zero, getElem_cons_succ]
  refine AnyT.takeA (i := 6) (v := ?_) rfl (by kernel_rfl) (by kernel_rfl) (by kernel_rfl) (fun _ _ _ h => h) (Or.inl ⟨by rfl, ?_⟩) ?_
  rotate_left 1
  ·(intro w0 _; go_simp; try with_reducible rfl)
  try simp only [Act.put, setIfInBounds_toArray, set_cons_zero, set_cons_succ, getElem_toArray, getElem_cons_zero, getElem_cons_succ]
  refine AnyT.take (i := 7) (v := ?_) rfl (by kernel_rfl) (by kernel_rfl) (by kernel_rfl) (by kernel_rfl) (fun _ _ _ h => h) (Or.inl ⟨by rfl, ?_⟩) (by assumption) ?_
  rotate_left 1
  ·(intro w0 hSw; (try dsimp only at hSw); go_simp; try with_reducible rfl)
  try simp only [Act.put, setIfInBounds_toArray, set_cons_zero, set_cons_succ, getElem_toArray, getElem_cons_zero, getElem_cons_succ]
  refine AnyT.takeA (i := 9) (v := ?_) rfl (by kernel_rfl) (by kernel_rfl) (by kernel_rfl) (fun _ _ _ h => h) (Or.inl ⟨by rfl, ?_⟩) ?_
  rotate_left 1
  ·(intro w0 _; go_simp; try with_reducible rfl)
  try simp only [Act.put, setIfInBounds_toArray, set_cons_zero, set_cons_succ, getElem_toArray, getElem_cons_zero, getElem_cons_succ]
  refine AnyT.takeA (i := 10) (v := ?_) rfl (by kernel_rfl) (by kernel_rfl) (by kernel_rfl) (fun _ _ _ h => h) (Or.inl ⟨by rfl, ?_⟩) ?_
  rotate_left 1
  ·(intro w0 _; go_simp; try with_reducible rfl)
  try simp only [Act.put, setIfInBounds_toArray, set_cons_zero, set_cons_succ, getElem_toArray, getElem_cons_zero, getElem_cons_succ]
  refine AnyT.takeA (i := 11) (v := ?_) rfl (by kernel_rfl) (by kernel_rfl) (by kernel_rfl) (fun _ _ _ h => h) (Or.inl ⟨by rfl, ?_⟩) ?_
  rotate_left 1
  ·(intro w0 _; go_simp; try with_reducible rfl)
  try simp only [Act.put, setIfInBounds_toArray, set_cons_zero, set_cons_succ, getElem_toArray, getElem_cons_zero, getElem_cons_succ]
  refine AnyT.takeA (i := 12) (v := ?_) rfl (by kernel_rfl) (by kernel_rfl) (by kernel_rfl) (fun _ _ _ h => h) (Or.inl ⟨by rfl, ?_⟩) ?_
  rotate_left 1
  ·(intro w0 _; go_simp; try with_reducible rfl)
  try simp only [Act.put, setIfInBounds_toArray, set_cons_zero, set_cons_succ, getElem_toArray, getElem_cons_zero, getElem_cons_succ]
  refine AnyT.take (i := 13) (v := ?_) rfl (by kernel_rfl) (by kernel_rfl) (by kernel_rfl) (by kernel_rfl) (fun _ _ _ h => h) (Or.inl ⟨by rfl, ?_⟩) (by assumption) ?_
  rotate_left 1
  ·(intro w0 hSw; (try dsimp only at hSw); go_simp; try with_reducible rfl)
  try simp only [Act.put, setIfInBounds_toArray, set_cons_zero, set_cons_succ, getElem_toArray, getElem_cons_zero, getElem_cons_succ]
  refine AnyT.takeA (i := 15) (v := ?_) rfl (by kernel_rfl) (by kernel_rfl) (by kernel_rfl) (fun _ _ _ h => h) (Or.inl ⟨by rfl, ?_⟩) ?_
  rotate_left 1
  ·(intro w0 _; go_simp; try with_reducible rfl)
  try simp only [Act.put, setIfInBounds_toArray, set_cons_zero, set_cons_succ, getElem_toArray, getElem_cons_zero, getElem_cons_succ]
  refine AnyT.takeA (i := 16) (v := ?_) rfl (by kernel_rfl) (by kernel_rfl) (by kernel_rfl) (fun _ _ _ h => h) (Or.inl ⟨by rfl, ?_⟩) ?_
  rotate_left 1
  ·(intro w0 _; go_simp; try with_reducible rfl)
  try simp only [Act.put, setIfInBounds_toArray, set_cons_zero, set_cons_succ, getElem_toArray, getElem_cons_zero, getElem_cons_succ]
  refine AnyT.takeA (i := 17) (v := ?_) rfl (by kernel_rfl) (by kernel_rfl) (by kernel_rfl) (fun _ _ _ h => h) (Or.inl ⟨by rfl, ?_⟩) ?_
  rotate_left 1
  ·(intro w0 _; go_simp; try with_reducible rfl)
  try simp only [Act.put, setIfInBounds_toArray, set_cons_zero, set_cons_succ, getElem_toArray, getElem_cons_zero, getElem_cons_succ]
  refine AnyT.take (i := 18) (v := ?_) rfl (by kernel_rfl) (by kernel_rfl) (by kernel_rfl) (by kernel_rfl) (fun _ _ _ h => h) (Or.inl ⟨by rfl, ?_⟩) (by assumption) ?_
  rotate_left 1
  ·(intro w0 hSw; (try dsimp only at hSw); go_simp; try with_reducible rfl)
  try simp only [Act.put, setIfInBounds_toArray, set_cons_zero, set_cons_succ, getElem_toArray, getElem_cons_zero, getElem_cons_succ]
  refine AnyT.takeA (i := 19) (v := ?_) rfl (by kernel_rfl) (by kernel_rfl) (by kernel_rfl) (fun _ _ _ h => h) (Or.inl ⟨by rfl, ?_⟩) ?_
  rotate_left 1
  ·(intro w0 _; go_simp; try with_reducible rfl)
  try simp only [Act.put, setIfInBounds_toArray, set_cons_zero, set_cons_succ, getElem_toArray, getElem_cons_zero, getElem_cons_succ]
  refine AnyT.call (i := 8) (by kernel_rfl) rfl (fun K hK => ?_)
  try simp only [Act.put, setIfInBounds_toArray, set_cons_zero, set_cons_succ, getElem_toArray, getElem_cons_zero, getElem_cons_succ]
  rw [if_pos (by rfl)]
  go_simp
  refine (LF1.out W.drew BD.out).mono ?_; rintro e w3 ⟨X, xn, xc, rfl, ox, b3⟩; have U3 := HU.out.next (next_trans BD.out b3); have d1 := U3.c1; have d2 := U3.c2; have d3 := U3.c3; clear U3; go_wp2_with fail
  refine hK.out _ _ (fun _ _ => ?_) (fun hKeep => ?_)
  ·first | assumption | exact ⟨by assumption, by assumption⟩ | exact ⟨by assumption, by assumption, by assumption⟩
  replace hHeld := hKeep (by rfl) hHeld
  clear hK K hKeep
  try simp only [Act.put, setIfInBounds_toArray, set_cons_zero, set_cons_succ, getElem_toArray, getElem_cons_zero, getElem_cons_succ]
  refine AnyT.call (i := 14) (by kernel_rfl) rfl (fun K hK => ?_)
  try simp only [Act.put, setIfInBounds_toArray, set_cons_zero, set_cons_succ, getElem_toArray, getElem_cons_zero, getElem_cons_succ]
  rw [if_pos (by rfl)]
  go_simp
  refine (LF2.out w3 (next_trans BD.out b3)).mono ?_; rintro e w4 ⟨Y, yn, yc, rfl, oy, b4⟩; have U4 := HU.out.next (next_trans (next_trans BD.out b3) b4); have e1 := U4.c1; have e2 := U4.c2; have e3 := U4.c3; clear U4; go_wp2_with fail
  refine hK.out _ _ (fun _ _ => ?_) (fun hKeep => ?_)
  ·first | assumption | exact ⟨by assumption, by assumption⟩ | exact ⟨by assumption, by assumption, by assumption⟩
  replace hHeld := hKeep (by rfl) hHeld
  clear hK K hKeep
  try simp only [Act.put, setIfInBounds_toArray, set_cons_zero, set_cons_succ, getElem_toArray, getElem_cons_zero, getElem_cons_succ]
  refine AnyT.call (i := 20) (by kernel_rfl) rfl (fun K hK => ?_)
  try simp only [Act.put, setIfInBounds_toArray, set_cons_zero, set_cons_succ, getElem_toArray, getElem_cons_zero, getElem_cons_succ]
  rw [if_pos (by rfl)]
  go_simp
  refine (thenB gl _ lb _ w4).mono ?_; rintro e w5 ⟨b1, b2, rfl, z1, z2, k1, k2, b5⟩; have U5 := HU.out.next (next_trans (next_trans (next_trans BD.out b3) b4) b5); have f1 := U5.c1; have f2 := U5.c2; have f3 := U5.c3; have fr1 := U5.row.free 1; have fr2 := U5.row.free 2; have fr3 := U5.row.free 3; clear U5; go_wp2_with fail
  refine hK.out _ _ (fun _ _ => ?_) (fun hKeep => ?_)
  ·first | assumption | exact ⟨by assumption, by assumption⟩ | exact ⟨by assumption, by assumption, by assumption⟩
  replace hHeld := hKeep (by rfl) hHeld
  clear hK K hKeep
  try simp only [Act.put, setIfInBounds_toArray, set_cons_zero, set_cons_succ, getElem_toArray, getElem_cons_zero, getElem_cons_succ]
  refine AnyT.call (i := 21) (by kernel_rfl) rfl (fun K hK => ?_)
  try simp only [Act.put, setIfInBounds_toArray, set_cons_zero, set_cons_succ, getElem_toArray, getElem_cons_zero, getElem_cons_succ]
  rw [if_pos (by rfl)]
  go_simp
  refine hK.out _ _ (fun h => by cases h) (fun _ => ?_)
  clear hK K
  try simp only [Act.put, setIfInBounds_toArray, set_cons_zero, set_cons_succ, getElem_toArray, getElem_cons_zero, getElem_cons_succ]
  refine AnyT.call (i := 22) (by kernel_rfl) rfl (fun K hK => ?_)
  try simp only [Act.put, setIfInBounds_toArray, set_cons_zero, set_cons_succ, getElem_toArray, getElem_cons_zero, getElem_cons_succ]
  rw [if_pos (by rfl)]
  go_simp
  refine hK.out _ _ (fun h => by cases h) (fun _ => ?_)
  clear hK K
  try simp only [Act.put, setIfInBounds_toArray, set_cons_zero, set_cons_succ, getElem_toArray, getElem_cons_zero, getElem_cons_succ]
  refine AnyT.call (i := 23) (by kernel_rfl) rfl (fun K hK => ?_)
  try simp only [Act.put, setIfInBounds_toArray, set_cons_zero, set_cons_succ, getElem_toArray, getElem_cons_zero, getElem_cons_succ]
  rw [if_pos (by rfl)]
  go_simp
  refine hK.out _ _ (fun h => by cases h) (fun _ => ?_)
  clear hK K
  try simp only [Act.put, setIfInBounds_toArray, set_cons_zero, set_cons_succ, getElem_toArray, getElem_cons_zero, getElem_cons_succ]
  refine AnyT.call (i := 24) (by kernel_rfl) rfl (fun K hK => ?_)
  try simp only [Act.put, setIfInBounds_toArray, set_cons_zero, set_cons_succ, getElem_toArray, getElem_cons_zero, getElem_cons_succ]
  rw [if_pos (by rfl)]
  go_simp
  refine hK.out _ _ (fun h => by cases h) (fun _ => ?_)
  clear hK K
  try simp only [Act.put, setIfInBounds_toArray, set_cons_zero, set_cons_succ, getElem_toArray, getElem_cons_zero, getElem_cons_succ]
  refine AnyT.call (i := 25) (by kernel_rfl) rfl (fun K hK => ?_)
  try simp only [Act.put, setIfInBounds_toArray, set_cons_zero, set_cons_succ, getElem_toArray, getElem_cons_zero, getElem_cons_succ]
  rw [if_pos (by rfl)]
  go_simp
  refine hK.out _ _ (fun h => by cases h) (fun _ => ?_)
  clear hK K
  try simp only [Act.put, setIfInBounds_toArray, set_cons_zero, set_cons_succ, getElem_toArray, getElem_cons_zero, getElem_cons_succ]
  refine AnyT.call (i := 26) (by kernel_rfl) rfl (fun K hK => ?_)
  try simp only [Act.put, setIfInBounds_toArray, set_cons_zero, set_cons_succ, getElem_toArray, getElem_cons_zero, getElem_cons_succ]
  rw [if_pos (by rfl)]
  go_simp
  refine hK.out _ _ (fun h => by cases h) (fun _ => ?_)
  clear hK K
  try simp only [Act.put, setIfInBounds_toArray, set_cons_zero, set_cons_succ, getElem_toArray, getElem_cons_zero, getElem_cons_succ]
  refine AnyT.call (i := 27) (by kernel_rfl) rfl (fun K hK => ?_)
  try simp only [Act.put, setIfInBounds_toArray, set_cons_zero, set_cons_succ, getElem_toArray, getElem_cons_zero, getElem_cons_succ]
  rw [if_pos (by rfl)]
  go_simp
  refine hK.out _ _ (fun h => by cases h) (fun _ => ?_)
  clear hK K
  try simp only [Act.put, setIfInBounds_toArray, set_cons_zero, set_cons_succ, getElem_toArray, getElem_cons_zero, getElem_cons_succ]
  refine AnyT.call (i := 28) (by kernel_rfl) rfl (fun K hK => ?_)
  try simp only [Act.put, setIfInBounds_toArray, set_cons_zero, set_cons_succ, getElem_toArray, getElem_cons_zero, getElem_cons_succ]
  rw [if_pos (by rfl)]
  go_simp
  refine hK.out _ _ (fun h => by cases h) (fun _ => ?_)
  clear hK K
  try simp only [Act.put, setIfInBounds_toArray, set_cons_zero, set_cons_succ, getElem_toArray, getElem_cons_zero, getElem_cons_succ]
  refine AnyT.call (i := 29) (by kernel_rfl) rfl (fun K hK => ?_)
  try simp only [Act.put, setIfInBounds_toArray, set_cons_zero, set_cons_succ, getElem_toArray, getElem_cons_zero, getElem_cons_succ]
  rw [if_pos (by rfl)]
  go_simp
  refine hK.out _ _ (fun h => by cases h) (fun _ => ?_)
  clear hK K
  try simp only [Act.put, setIfInBounds_toArray, set_cons_zero, set_cons_succ, getElem_toArray, getElem_cons_zero, getElem_cons_succ]
  refine AnyT.done (by kernel_rfl) ?_ _
  -- end
  have B5 := next_trans (next_trans (next_trans BD.out b3) b4) b5
  have s1 := HBW.out.size
  have s2 := BD.out.size
  have s3 := b3.size
  have s4 := b4.size
  have lk := lookThen (some g) b1 b2 gl _ lb _ HU.out.eg eo L (ones i t) w5 (World.block_lt_of_cell? _ _ k1) (World.block_lt_of_cell? _ _ k2) (fun e => by injection e; omega) (fun e => by injection e; omega) k1 k2 (HU.out.next B5).lk (HLO.out.next (grown_below B5 _)) HL60.out HV.out M1.out
  have F := hid (put_mk HU.out BD.out b3 b4 b5 ox oy et lk)
  clear lk ox oy b3 b4 b5 B5 k1 k2 f1 f2 f3 fr1 fr2 fr3 hHeld
  go_wp2_with fail
  go_meet
  exact F.out
 case rest =>
  rename World => wc
  obtain ⟨hg, P', pn', pc', Q', qn', qc', gl', lb', U⟩ := hcut
  have HG := hid (grown_trans (grown_below HBW.out (some g)) hg)
  have hp1 := U.p.1
  have hq1 := U.q.1
  have d1 := U.c1
  have d2 := U.c2
  have np := U.kp.1
  have np2 := U.kp.2.1
  have nq := U.kq.1
  have nq2 := U.kq.2.1
  have L1 := hid (tooLong P' pn' pc' wc (by omega))
  have L2 := hid (tooLong Q' qn' qc' wc (by omega))
  have HUW := hid U
  have HP1 := hid hp1
  have HQ1 := hid hq1
  clear U hg hp1 hq1 LF1 LF2 c1 c2 c3 HU HLO HBW vx vy one60 hL vL M1
  by_cases hp : 60 < pn'
  ·rw [decide_eq_true hp] at L1
   have F := hid (fun (u : TypeId) (v : Value) => (show AnsRep w g A n c sg (fillL (ones i t) x) (fillL (ones i t) y) (fun m => fillL (ones i t) (L m)) (.panicked [{ v := .iface u v, recovered := false }]) wc from ⟨HG.out, .inr ⟨fun h => by rw [HP1.out] at h; omega, u, v, rfl⟩⟩))
   clear HUW
   go_wp2_with fail
   refine L1.out.mono ?_
   rintro e w' ⟨rfl, rfl⟩
   go_wp2
   exact ⟨rfl, F.out _ _⟩
  ·rw [decide_eq_false hp] at L1
   go_wp2_with fail
   refine L1.out.mono ?_
   rintro e w' ⟨rfl, rfl⟩
   by_cases hq : 60 < qn'
   ·rw [decide_eq_true hq] at L2
    have F := hid (fun (u : TypeId) (v : Value) => (show AnsRep w g A n c sg (fillL (ones i t) x) (fillL (ones i t) y) (fun m => fillL (ones i t) (L m)) (.panicked [{ v := .iface u v, recovered := false }]) wc from ⟨HG.out, .inr ⟨fun h => by rw [HQ1.out] at h; omega, u, v, rfl⟩⟩))
    clear HUW
    go_wp2_with fail
    refine L2.out.mono ?_
    rintro e w' ⟨rfl, rfl⟩
    go_wp2
    exact ⟨rfl, F.out _ _⟩
   ·rw [decide_eq_false hq] at L2
    have F := hid (show AnsRep w g A n c sg (fillL (ones i t) x) (fillL (ones i t) y) (fun m => fillL (ones i t) (L m)) (.returned (.tuple #[])) wc from ⟨HG.out, .inl ⟨by rw [HP1.out]; omega, by rw [HQ1.out]; omega, rfl, P', pn', pc', Q', qn', qc', gl', lb', HUW.out⟩⟩)
    clear HUW
    go_wp2_with fail
    refine L2.out.mono ?_
    rintro e w' ⟨rfl, rfl⟩
    go_wp2
    first
     | exact bodyPost_ret (results_none rfl _ _ _) rfl F.out
     | (go_end0; exact F.out)
end unifRep
end
section
open Go.Lib (hid)
namespace rename
open Go.RowKit base ints sig term termOk marks app sym segs termFacts varsMath varsOf renMath
set_option maxRecDepth 100000
theorem mem_of_get {t : List Int} {k : Nat} {x : Int} (hk : k < t.length) (hx : t.getD k 0 = x) : x ∈ t := by
 rw [← hx]
 simp [List.getD, hk]
theorem not_mem_of {t : List Int} {x : Int} (h : ∀ j, j < t.length → t.getD j 0 ≠ x) : x ∉ t := fun hx => by
 obtain ⟨j, hj, e⟩ := List.getElem_of_mem hx
 exact h j hj (by simp [List.getD, hj, e])
def HeadNo (n : Nat) (xs : List Int) (x : Int) (i : Value) : Prop := ∃ k : Nat, k ≤ n ∧ i = .int .i64 k ∧ ∀ j, j < k → xs.getD j 0 ≠ x
theorem headNo_step {n k : Nat} {xs : List Int} {x y : Int} (hk : k < n) (h : ∀ j, j < k → xs.getD j 0 ≠ x) (hy : Hid (xs.getD k 0 = y)) (hne : ¬ y = x) : HeadNo n xs x (.int .i64 ((k : Int) + 1)) :=
 ⟨k + 1, hk, by simp, fun j hj => by
  by_cases e : j = k
  ·subst e; rw [hy.out]; exact hne
  ·exact h j (by omega)⟩
set_option maxHeartbeats 1000000 in
theorem l1Has (A : Option Addr) (n c : Nat) (xs : List Int) (x : Int) (w : World) (h : Seg w w.heap.size A n xs) (hn : n ≤ 1048576) :
  Calls Try.prog 90 #[.slice A n c, .int .i64 x] w fun e w' => w = w' ∧ e = .returned (.bool (decide (x ∈ xs))) := by
 have HX := hid h.1
 go_enter Try.func90, Try.ntmps90
 go_wp2
 go_loop [5] (fun i => HeadNo n xs x i) (fun i => n - (intOf i).toNat)
 case atStart => exact ⟨0, Nat.zero_le _, rfl, fun j hj => absurd hj (Nat.not_lt_zero _)⟩
 case round =>
  obtain ⟨k, hk, rfl, hlow⟩ := hrel
  by_cases hlt : k < n
  ·obtain ⟨b, off, y, rfl, -, hy, ey⟩ := h.spot hlt
   by_cases he : y = x
   ·subst he
    have F := hid (show y ∈ xs from mem_of_get (by rw [HX.out]; exact hlt) ey.out)
    have e1 : (y == y) = true := by simp
    clear h ey hlow
    go_wp2
    go_ret
    exact ⟨rfl, by rw [decide_eq_true F.out]; rfl⟩
   ·have S := hid (headNo_step hlt hlow ey he)
    have e1 : (y == x) = false := by simp [he]
    clear h ey hlow
    go_wp2
    go_round
    case rel => exact S.out
    case measure => simp [intOf]; omega
  ·have F := hid (not_mem_of (t := xs) (x := x) (fun j hj => hlow j (by rw [HX.out] at hj; omega)))
   clear h hlow
   go_wp2
   go_ret
   exact ⟨rfl, by rw [decide_eq_false F.out]; rfl⟩
def indexI (xs : List Int) (x : Int) : Int := if x ∈ xs then (idx xs x : Int) else -1
set_option maxHeartbeats 1000000 in
theorem indexOf (A : Option Addr) (n c : Nat) (xs : List Int) (x : Int) (w : World) (h : Seg w w.heap.size A n xs) (hn : n ≤ 1048576) :
  Calls Try.prog 123 #[.slice A n c, .int .i64 x] w fun e w' => w = w' ∧ e = .returned (.int .i64 (indexI xs x)) := by
 have HX := hid h.1
 go_enter Try.func123, Try.ntmps123
 go_wp2
 go_loop [8] (fun i => HeadNo n xs x i) (fun i => n - (intOf i).toNat)
 case atStart => exact ⟨0, Nat.zero_le _, rfl, fun j hj => absurd hj (Nat.not_lt_zero _)⟩
 case round =>
  obtain ⟨k, hk, rfl, hlow⟩ := hrel
  by_cases hlt : k < n
  ·obtain ⟨b, off, y, rfl, -, hy, ey⟩ := h.spot hlt
   by_cases he : y = x
   ·subst he
    have F := hid (show indexI xs y = (k : Int) by
     have hkl : k < xs.length := by rw [HX.out]; exact hlt
     unfold indexI
     rw [if_pos (mem_of_get hkl ey.out), idx_first hkl hlow ey.out])
    have e1 : (y == y) = true := by simp
    clear h ey hlow
    go_wp2
    go_ret
    exact ⟨rfl, by rw [F.out]; rfl⟩
   ·have S := hid (headNo_step hlt hlow ey he)
    have e1 : (x == y) = false := by simp; exact fun e => he e.symm
    clear h ey hlow
    go_wp2
    go_round
    case rel => exact S.out
    case measure => simp [intOf]; omega
  ·have F := hid (show indexI xs x = -1 by unfold indexI; rw [if_neg (not_mem_of (fun j hj => hlow j (by rw [HX.out] at hj; omega)))])
   clear h hlow
   go_wp2
   go_ret
   exact ⟨rfl, by rw [F.out]; rfl⟩
def HeadOrd (w : World) (m : Nat) (t : List Int) (out i : Value) (wr : World) : Prop :=
 ∃ (k : Nat) (O : Option Addr) (on oc : Nat), k ≤ m ∧ i = .int .i64 k ∧ out = .slice O on oc ∧ Own wr w.heap.size (.slice O on oc) (orderL (t.take k)) ∧ Below w.heap.size w wr
set_option maxHeartbeats 2000000 in
theorem l2Order (A : Option Addr) (m c : Nat) (t : List Int) (w : World) (h : Seg w w.heap.size A m t) (hm : m ≤ 1048576) :
  Calls Try.prog 100 #[.slice A m c] w (AnsList w (orderL t)) := by
 have HL := hid h.1
 have S0 : HeadOrd w m t (.slice (some ⟨w.heap.size, 0, none⟩) 0 0) (.int .i64 0) (w.alloc (.cells #[] 2)) :=
  ⟨0, _, _, _, Nat.zero_le _, rfl, rfl, by simpa [orderL] using own_empty w w.heap.size (Nat.le_refl _), (Below.refl _ _).alloc (Nat.le_refl _) _⟩
 have HS0 := hid S0
 clear S0
 go_enter Try.func100, Try.ntmps100
 go_wp2_with fail
 go_loopw [3, 4] (fun out i wr => HeadOrd w m t out i wr) (fun _ i _ => m - (intOf i).toNat)
 case atStart => exact HS0.out
 case round =>
  obtain ⟨k, O, on, oc, hk, rfl, rfl, ho, hb⟩ := hrel
  clear HS0
  have hon : on ≤ m := by have h1 := Own.len ho; have h2 := order_len (t.take k); simp at h2; have h3 := HL.out; omega
  by_cases hlt : k < m
  ·obtain ⟨b, off, x, rfl, hbb, hx, ex⟩ := h.spot hlt
   have hx1 : wr.cell? ⟨b, off + k, none⟩ = some (.int .i64 x) := (hb.cell (p := ⟨b, off + k, none⟩) hbb).trans hx
   have E := hid (order_take (t := t) (k := k) (by rw [HL.out]; exact hlt) ex.out)
   have hsz := hb.size
   clear hx h ex
   by_cases hneg : x < 0
   ·have L := hid (l1Has O on oc _ x wr (Own.seg ho) (by omega))
    by_cases hin : x ∈ orderL (t.take k)
    ·have R := hid (show extV (orderL (t.take k)) x = orderL (t.take k) by unfold extV ext; rw [if_pos hneg, if_pos hin])
     rw [decide_eq_true hin] at L
     have S : HeadOrd w m t (.slice O on oc) (.int .i64 ((k : Int) + 1)) wr := ⟨k + 1, O, on, oc, hlt, by simp, rfl, by rw [E.out, R.out]; exact ho, hb⟩
     replace S := hid S
     clear ho hb hin R E
     go_wp2_with fail
     refine L.out.mono ?_
     rintro e w' ⟨rfl, rfl⟩
     clear L
     go_wp2
     go_roundw
     case rel => exact S.out
     case measure => simp [intOf]; omega
    ·have R := hid (show extV (orderL (t.take k)) x = orderL (t.take k) ++ [x] by unfold extV ext; rw [if_pos hneg, if_neg hin])
     rw [decide_eq_false hin] at L
     clear hin
     go_wp2_with fail
     refine L.out.mono ?_
     rintro e w' ⟨rfl, rfl⟩
     clear L
     go_wp2_with (at_builtin; refine app1 rfl _ _ rfl w.heap.size O on oc (orderL (t.take k)) rfl (Own.alloc ho _) wr.heap.size 1 x rfl ((Row.new _ _ _).cell 0) (by omega) (by simp; omega) ?_; intro O' oc' w2 ho2 b2)
     have S : HeadOrd w m t (.slice O' (on + 1) oc') (.int .i64 ((k : Int) + 1)) w2 := ⟨k + 1, O', on + 1, oc', hlt, by simp, rfl, by rw [E.out, R.out]; exact ho2, (hb.alloc hsz _).trans b2⟩
     replace S := hid S
     clear ho2 b2 ho hb R E
     go_wp2
     go_roundw
     case rel => exact S.out
     case measure => simp [intOf]; omega
   ·have R := hid (show extV (orderL (t.take k)) x = orderL (t.take k) by unfold extV; rw [if_neg hneg])
    have S : HeadOrd w m t (.slice O on oc) (.int .i64 ((k : Int) + 1)) wr := ⟨k + 1, O, on, oc, hlt, by simp, rfl, by rw [E.out, R.out]; exact ho, hb⟩
    replace S := hid S
    have d1 : decide (x < 0) = false := by simp; omega
    clear ho hb R E
    go_wp2
    go_roundw
    case rel => exact S.out
    case measure => simp [intOf]; omega
  ·have F : AnsList w (orderL t) (.returned (.slice O on oc)) wr := by
    rw [List.take_of_length_le (by rw [HL.out]; omega)] at ho
    exact ⟨O, on, oc, rfl, ho, hb⟩
   have HF := hid F
   clear F ho hb h
   go_wp2
   go_ret
   exact HF.out
def upTo (o : List Int) (x : Int) (q : Nat) : Int := if idx o x < q then -1 - (idx o x : Int) else x
def HeadIn (wr : World) (pn : Nat) (o : List Int) (x : Int) (n k : Value) (wi : World) : Prop := ∃ q d : Nat, q ≤ pn ∧ k = .int .i64 q ∧ n = .int .i64 (upTo o x q) ∧ wi = wr.drewN d
theorem upTo_yes {o : List Int} (hd : o.Nodup) {x : Int} {q : Nat} (hq : q < o.length) (h : o.getD q 0 = x) : upTo o x (q + 1) = -1 - (q : Int) := by
 unfold upTo
 rw [idx_nodup hd hq h, if_pos (by omega)]
theorem upTo_no {o : List Int} {x y : Int} {q : Nat} (hq : q < o.length) (h : o.getD q 0 = y) (hne : ¬ y = x) : upTo o x (q + 1) = upTo o x q := by
 unfold upTo
 have h1 : idx o x ≠ q := fun e => by
  by_cases hx : x ∈ o
  ·have := idx_get hx
   rw [e, h] at this
   exact hne this
  ·have := idx_not hx
   omega
 by_cases h2 : idx o x < q
 ·rw [if_pos h2, if_pos (by omega)]
 ·rw [if_neg h2, if_neg (by omega)]
def HeadBy (w : World) (m : Nat) (t o : List Int) (out i : Value) (wr : World) : Prop :=
 ∃ (k : Nat) (O : Option Addr) (on oc : Nat), k ≤ m ∧ i = .int .i64 k ∧ out = .slice O on oc ∧ Own wr w.heap.size (.slice O on oc) ((t.take k).map (ren o)) ∧ Below w.heap.size w wr
set_option maxHeartbeats 4000000 in
theorem l2By (P A : Option Addr) (pn pc m c : Nat) (o t : List Int) (w : World) (hp : Seg w w.heap.size P pn o) (h : Seg w w.heap.size A m t) (hpn : pn ≤ 1048576) (hm : m ≤ 1048576) (hd : o.Nodup) (ho : ∀ x ∈ t, x < 0 → x ∈ o) :
  Calls Try.prog 99 #[.slice P pn pc, .slice A m c] w (AnsList w (t.map (ren o))) := by
 have HL := hid h.1
 have HP := hid hp.1
 have HO := hid ho
 have HD := hid hd
 have S0 : HeadBy w m t o (.slice (some ⟨w.heap.size, 0, none⟩) 0 0) (.int .i64 0) (w.alloc (.cells #[] 2)) :=
  ⟨0, _, _, _, Nat.zero_le _, rfl, rfl, by simpa using own_empty w w.heap.size (Nat.le_refl _), (Below.refl _ _).alloc (Nat.le_refl _) _⟩
 have HS0 := hid S0
 clear S0 ho hd
 go_enter Try.func99, Try.ntmps99
 go_wp2_with fail
 go_loopw [5, 6] (fun out i wr => HeadBy w m t o out i wr) (fun _ i _ => m - (intOf i).toNat)
 case atStart => exact HS0.out
 case round =>
  obtain ⟨k, O, on, oc, hk, rfl, rfl, hown, hb⟩ := hrel
  clear HS0
  have hon : on ≤ m := by have h1 := Own.len hown; simp at h1; omega
  obtain ⟨wo, rfl⟩ : ∃ wo : World, wo = wr := ⟨_, rfl⟩
  by_cases hlt : k < m
  ·obtain ⟨b, off, x, rfl, hbb, hx, ex⟩ := h.spot hlt
   have hx1 : wo.cell? ⟨b, off + k, none⟩ = some (.int .i64 x) := (hb.cell (p := ⟨b, off + k, none⟩) hbb).trans hx
   have hmem := mem_of_get (by rw [HL.out]; exact hlt) ex.out
   have E := hid (show (t.take (k + 1)).map (ren o) = (t.take k).map (ren o) ++ [ren o x] by rw [take_snoc (by rw [HL.out]; exact hlt) ex.out, List.map_append]; rfl)
   have hsz := hb.size
   have hpo := hp.below hb
   clear hx h ex
   by_cases hneg : x < 0
   ·have hin := HO.out x hmem hneg
    have I0 : HeadIn wo pn o x (.int .i64 x) (.int .i64 0) wo := ⟨0, 0, Nat.zero_le _, rfl, by simp [upTo], rfl⟩
    have HI0 := hid I0
    have R := hid (show upTo o x pn = ren o x by unfold upTo ren; rw [if_pos hneg, if_pos (by rw [← HP.out]; exact idx_lt hin)])
    have REST := hid (fun (d : Nat) (O' : Option Addr) (oc' : Nat) (w2 : World) (ho2 : Own w2 w.heap.size (.slice O' (on + 1) oc') ((t.take k).map (ren o) ++ [ren o x])) (b2 : Below w.heap.size ((wo.drewN d).alloc (.cells #[.int .i64 (ren o x)] 2)) w2) =>
     (show HeadBy w m t o (.slice O' (on + 1) oc') (.int .i64 ((k : Int) + 1)) w2 from ⟨k + 1, O', on + 1, oc', hlt, by simp, rfl, by rw [E.out]; exact ho2, ((below_drewN hb d).alloc hsz _).trans b2⟩))
    clear I0 hin hmem hb
    go_wp2_with fail
    go_loopw [7, 8] (fun n q wi => HeadIn wo pn o x n q wi) (fun _ q _ => pn - (intOf q).toNat)
    case atStart => exact HI0.out
    case round =>
     obtain ⟨q, d, hq, rfl, rfl, hw⟩ := hrel
     clear HI0
     have hxr : wr.cell? ⟨b, off + k, none⟩ = some (.int .i64 x) := by rw [hw]; exact hx1
     have hpr : Seg wr w.heap.size P pn o := by rw [hw]; exact hpo
     have HW := hid hw
     clear hw
     by_cases hq2 : q < pn
     ·obtain ⟨b2, off2, y, rfl, -, hy, ey⟩ := hpr.spot hq2
      by_cases he : y = x
      ·have U := hid (upTo_yes HD.out (by rw [HP.out]; exact hq2) (ey.out.trans he))
       have S : ∀ nq : Nat, HeadIn wo pn o x (.int .i64 (-1 - (q : Int))) (.int .i64 ((q : Int) + 1)) (wr.drewN nq) := fun nq => ⟨q + 1, d + nq, hq2, by simp, by rw [U.out], by rw [HW.out, World.drewN_drewN]⟩
       replace S := hid S
       have e1 : (y == x) = true := by simp [he]
       clear hpr ey U hpo hp hx1 hown
       generalize upTo o x q = z at *
       go_wp2_with fail
       go_quiet (fail)
       go_wp2
       go_roundw
       case rel => exact S.out _
       case measure => simp [intOf]; omega
      ·have U := hid (upTo_no (x := x) (by rw [HP.out]; exact hq2) ey.out he)
       have S : ∀ nq : Nat, HeadIn wo pn o x (.int .i64 (upTo o x q)) (.int .i64 ((q : Int) + 1)) (wr.drewN nq) := fun nq => ⟨q + 1, d + nq, hq2, by simp, by rw [U.out], by rw [HW.out, World.drewN_drewN]⟩
       replace S := hid S
       have e1 : (y == x) = false := by simp [he]
       clear hpr ey U hpo hp hx1 hown
       generalize upTo o x q = z at *
       go_wp2_with fail
       go_quiet (fail)
       go_wp2
       go_roundw
       case rel => exact S.out _
       case measure => simp [intOf]; omega
     ·have hqp : q = pn := by omega
      subst hqp
      have hown2 : Own wr w.heap.size (.slice O on oc) ((t.take k).map (ren o)) := by rw [HW.out]; exact hown
      have hszr : w.heap.size ≤ wr.heap.size := by rw [HW.out]; exact hsz
      rw [R.out]
      clear hpr hpo hp hx1 hown
      generalize hz : ren o x = z at *
      go_wp2_with (at_builtin; refine app1 rfl _ _ rfl w.heap.size O on oc ((t.take k).map (ren o)) rfl (Own.alloc hown2 _) wr.heap.size 1 z rfl ((Row.new _ _ _).cell 0) (by omega) (by simp; omega) ?_; intro O' oc' w2 ho2 b2)
      have S := hid (REST.out d O' oc' w2 ho2 (by rw [← HW.out]; exact b2))
      clear ho2 b2 hown2 REST
      go_wp2
      go_roundw
      case rel => exact S.out
      case measure => simp [intOf]; omega
   ·have RH := hid (show ren o x = x by unfold ren; rw [if_neg hneg])
    have d1 : decide (x < 0) = false := by simp; omega
    have REST := hid (fun (O' : Option Addr) (oc' : Nat) (w2 : World) (ho2 : Own w2 w.heap.size (.slice O' (on + 1) oc') ((t.take k).map (ren o) ++ [x])) (b2 : Below w.heap.size (wo.alloc (.cells #[.int .i64 x] 2)) w2) =>
     (show HeadBy w m t o (.slice O' (on + 1) oc') (.int .i64 ((k : Int) + 1)) w2 from ⟨k + 1, O', on + 1, oc', hlt, by simp, rfl, by rw [E.out, RH.out]; exact ho2, (hb.alloc hsz _).trans b2⟩))
    clear hmem hpo hb
    by_cases hp0 : 0 < pn
    all_goals
     go_wp2_with fail
     go_loopw [7, 8] (fun n q wi => n = .int .i64 x ∧ q = .int .i64 0 ∧ wi = wo) (fun _ _ _ => 0)
     case atStart => exact ⟨rfl, rfl, rfl⟩
     case round =>
      obtain ⟨rfl, rfl, hw⟩ := hrel
      subst hw
      go_wp2_with (at_builtin; refine app1 rfl _ _ rfl w.heap.size O on oc ((t.take k).map (ren o)) rfl (Own.alloc hown _) wr.heap.size 1 x rfl ((Row.new _ _ _).cell 0) (by omega) (by simp; omega) ?_; intro O' oc' w2 ho2 b2)
      have S := hid (REST.out O' oc' w2 ho2 b2)
      clear ho2 b2 hown REST
      go_wp2
      go_roundw
      case rel => exact S.out
      case measure => simp [intOf]; omega
  ·have F : AnsList w (t.map (ren o)) (.returned (.slice O on oc)) wo := by
    rw [List.take_of_length_le (by rw [HL.out]; omega)] at hown
    exact ⟨O, on, oc, rfl, hown, hb⟩
   have HF := hid F
   clear F hown hb h hp
   go_wp2
   go_ret
   exact HF.out
set_option maxHeartbeats 1000000 in
theorem l2Renamed (A : Option Addr) (m c : Nat) (t : List Int) (w : World) (h : Seg w w.heap.size A m t) (hm : m ≤ 1048576) :
  Calls Try.prog 68 #[.slice A m c] w (AnsList w (renL t)) := by
 have L := hid (l2Order A m c t w h hm)
 have HL := hid h.1
 go_enter Try.func68, Try.ntmps68
 go_wp2_with fail
 refine L.out.mono ?_
 rintro e w1 ⟨P, pn, pc, rfl, o1, bb⟩
 have hpn : pn ≤ 1048576 := by rw [Own.len o1]; have := order_len t; have := HL.out; omega
 have L2 := hid (l2By P A pn pc m c (orderL t) t w1 (Own.seg o1) (h.next bb) hpn hm (order_nodup t) (fun x hx h0 => order_mem.2 ⟨hx, h0⟩))
 clear L o1 h
 go_wp2_with fail
 refine L2.out.mono ?_
 rintro e w2 ⟨Q, qn, qc, rfl, o2, b2⟩
 have F : AnsList w (renL t) (.returned (.slice Q qn qc)) w2 := ⟨Q, qn, qc, rfl, Own.lower o2 bb.size, next_trans bb b2⟩
 have HF := hid F
 clear F o2 b2 bb L2
 go_wp2
 go_ret
 exact HF.out
end rename
end
section
open Go.Lib (hid)
namespace same
open Go.RowKit base ints
set_option maxHeartbeats 400000 in
theorem specSame (A A' : Option Addr) (n m c c' : Nat) (xs ys : List Int) (w : World) (h : Seg w w.heap.size A n xs) (h' : Seg w w.heap.size A' m ys) (hn : n ≤ 1048576) (hm : m ≤ 1048576) :
  Calls Try.prog 39 #[.slice A n c, .slice A' m c'] w (AnsSame w xs ys) := by
 by_cases hnm : n = m
 ·subst hnm
  go_enter Try.func39, Try.ntmps39
  go_wp2
  go_loopw [5] (fun i wr => HeadSame w n xs ys i wr) (fun i _ => n - (intOf i).toNat)
  case atStart => exact ⟨0, 0, Nat.zero_le _, rfl, rfl, fun j h => absurd h (Nat.not_lt_zero _)⟩
  case round =>
   obtain ⟨k, d, hk, rfl, rfl, hc⟩ := hrel
   by_cases hlt : k < n
   ·obtain ⟨b, off, x, rfl, -, hx, ex⟩ := h.spot hlt
    obtain ⟨b', off', y, rfl, -, hx', ey⟩ := h'.spot hlt
    by_cases he : x = y
    ·subst he
     have S := hid (alike_step (w := w) hlt hc ex ey)
     clear hc h h' ex ey
     go_wp2
     go_quiet (fail)
     go_wp2
     go_roundw
     case rel => exact S.out _
     case measure => simp [intOf]; omega
    ·have S := hid (same_not (w := w) ex ey he)
     have hne : (x != y) = true := by simp [he]
     clear hc h h' ex ey he
     go_wp2
     go_quiet (fail)
     go_wp2
     go_ret
     rw [World.drewN_drewN]
     exact S.out _
   ·have S := hid (same_yes (w := w) h.1 h'.1 hlt hc)
    clear hc h h'
    go_wp2
    go_ret
    exact S.out _
 ·have S := hid (same_len (w := w) h.1 h'.1 hnm)
  have hne : ((n : Int) != (m : Int)) = true := by simp; omega
  clear h h'
  go_enter Try.func39, Try.ntmps39
  go_wp2
  go_ret
  exact S.out
set_option maxHeartbeats 400000 in
theorem libEqual (A A' : Option Addr) (n m c c' : Nat) (xs ys : List Int) (w : World) (h : Seg w w.heap.size A n xs) (h' : Seg w w.heap.size A' m ys) (hn : n ≤ 1048576) (hm : m ≤ 1048576) :
  Calls Try.prog 82 #[.slice A n c, .slice A' m c'] w (AnsSame w xs ys) := by
 by_cases hnm : n = m
 ·subst hnm
  go_enter Try.func82, Try.ntmps82
  go_wp2
  go_loopw [13] (fun i wr => HeadSame w n xs ys i wr) (fun i _ => n - (intOf i).toNat)
  case atStart => exact ⟨0, 0, Nat.zero_le _, rfl, rfl, fun j h => absurd h (Nat.not_lt_zero _)⟩
  case round =>
   obtain ⟨k, d, hk, rfl, rfl, hc⟩ := hrel
   by_cases hlt : k < n
   ·obtain ⟨b, off, x, rfl, -, hx, ex⟩ := h.spot hlt
    obtain ⟨b', off', y, rfl, -, hx', ey⟩ := h'.spot hlt
    by_cases he : x = y
    ·subst he
     have S := hid (alike_step (w := w) hlt hc ex ey)
     clear hc h h' ex ey
     go_wp2
     go_quiet (fail)
     go_wp2
     go_roundw
     case rel => exact S.out _
     case measure => simp [intOf]; omega
    ·have S := hid (same_not (w := w) ex ey he)
     have hne : (x != y) = true := by simp [he]
     clear hc h h' ex ey he
     go_wp2
     go_quiet (fail)
     go_wp2
     go_ret
     rw [World.drewN_drewN]
     exact S.out _
   ·have S := hid (same_yes (w := w) h.1 h'.1 hlt hc)
    clear hc h h'
    go_wp2
    go_ret
    exact S.out _
 ·have S := hid (same_len (w := w) h.1 h'.1 hnm)
  have hne : ((n : Int) != (m : Int)) = true := by simp; omega
  clear h h'
  go_enter Try.func82, Try.ntmps82
  go_wp2
  go_ret
  exact S.out
theorem implSame (A A' : Option Addr) (n m c c' : Nat) (xs ys : List Int) (w : World) (h : Seg w w.heap.size A n xs) (h' : Seg w w.heap.size A' m ys) (hn : n ≤ 1048576) (hm : m ≤ 1048576) :
  Calls Try.prog 42 #[.slice A n c, .slice A' m c'] w (AnsSame w xs ys) := by
 have L := hid (libEqual A A' n m c c' xs ys w h h' hn hm)
 clear h h'
 go_enter Try.func42, Try.ntmps42
 go_wp2_with fail
 refine L.out.mono ?_
 rintro e w' ⟨rfl, d, rfl⟩
 go_wp2
 go_ret
 exact ⟨rfl, d, rfl⟩
end same
end
section
open Go.Lib (hid)
namespace unifStep
open Go.RowKit base ints sig term termOk endAt sub same cursor marks app sym Go.Proofs.Ytobedfmagjgdcaa.look segs termFacts fillMath rename matchMath unifMath unifDom thn unifRep
set_option maxRecDepth 100000
theorem containsInt (A : Option Addr) (n c : Nat) (xs : List Int) (x : Int) (w : World) (h : Seg w w.heap.size A n xs) (hn : n ≤ 1048576) :
  Calls Try.prog 118 #[.slice A n c, .int .i64 x] w fun e w' => w = w' ∧ e = .returned (.bool (decide (x ∈ xs))) := by
 have L := hid (indexOf A n c xs x w h hn)
 clear h
 go_enter Try.func118, Try.ntmps118
 go_wp2_with fail
 refine L.out.mono ?_
 rintro e w' ⟨rfl, rfl⟩
 have E : decide (0 ≤ indexI xs x) = decide (x ∈ xs) := decide_eq_decide.2 (by unfold indexI; split <;> simp_all)
 have HE := hid E
 clear L E
 generalize indexI xs x = z at *
 go_wp2
 go_ret
 exact ⟨rfl, by rw [← HE.out]; rfl⟩
theorem drew_below (w : World) (d : Nat) : Below w.heap.size w (w.drewN d) := ⟨rfl, rfl, rfl, Nat.le_refl _, fun _ _ => rfl⟩
def AnsStep (w : World) (g : Nat) (A : Option Addr) (n c : Nat) (sg a b : List Int) (L : Nat → List Int) (e : Ending) (w' : World) : Prop :=
 w.grownBy w' (some g) ∧ ((∃ x y L' P pn pc Q qn qc gl lb, e = .returned (.tuple #[]) ∧ Un w' g A n c sg P pn pc x Q qn qc y gl lb L' ∧ Wy sg a b L' x y ∧ free L' < free L) ∨ ((∀ M, ¬ Short sg a b M) ∧ ∃ u v, e = .panicked [{ v := .iface u v, recovered := false }]))
theorem pre_step {x y : List Int} {k : Nat} (e : x.take k = y.take k) (hx : k < x.length) (hy : k < y.length) (h : x.getD k 0 = y.getD k 0) : x.take (k + 1) = y.take (k + 1) := by
 rw [List.take_succ_eq_append_getElem hx, List.take_succ_eq_append_getElem hy, e]
 simp [List.getD, hx, hy] at h
 rw [h]
theorem step_of {w w1 w2 : World} {g : Nat} {A : Option Addr} {n c : Nat} {sg a b x y : List Int} {L : Nat → List Int} {k : Nat} {p q : Int} (hw : Wy sg a b L x y) (s : Spot sg a b L k) (ep : x.getD k 0 = p) (eq : y.getD k 0 = q) (h1 : p < 0) (h2 : p ∉ subL sg y k) (h3 : 0 ≤ q ∨ p < q) (hg : w.grownBy w1 (some g)) {e : Ending}
  (h : AnsRep w1 g A n c sg (fillL (ones (vr p) (subL sg y k)) x) (fillL (ones (vr p) (subL sg y k)) y) (fun m => fillL (ones (vr p) (subL sg y k)) (L m)) e w2) : AnsStep w g A n c sg a b L e w2 := by
 subst ep
 subst eq
 obtain ⟨g2, ⟨l1, l2, rfl, P, pn, pc, Q, qn, qc, gl, lb, U⟩ | ⟨hl, u, v, rfl⟩⟩ := h
 ·obtain ⟨W, hf⟩ := hw.step s h1 h2 h3 l1 l2
  exact ⟨grown_trans hg g2, .inl ⟨_, _, _, P, pn, pc, Q, qn, qc, gl, lb, rfl, U, W, hf⟩⟩
 ·exact ⟨grown_trans hg g2, .inr ⟨hw.long s h1 h2 h3 hl, u, v, rfl⟩⟩
theorem step_of' {w w1 w2 : World} {g : Nat} {A : Option Addr} {n c : Nat} {sg a b x y : List Int} {L : Nat → List Int} {k : Nat} {p q : Int} (hw : Wy sg a b L x y) (s : Spot sg a b L k) (ep : x.getD k 0 = p) (eq : y.getD k 0 = q) (h1 : q < 0) (h2 : q ∉ subL sg x k) (h3 : 0 ≤ p ∨ q < p) (hg : w.grownBy w1 (some g)) {e : Ending}
  (h : AnsRep w1 g A n c sg (fillL (ones (vr q) (subL sg x k)) x) (fillL (ones (vr q) (subL sg x k)) y) (fun m => fillL (ones (vr q) (subL sg x k)) (L m)) e w2) : AnsStep w g A n c sg a b L e w2 := by
 subst ep
 subst eq
 obtain ⟨g2, ⟨l1, l2, rfl, P, pn, pc, Q, qn, qc, gl, lb, U⟩ | ⟨hl, u, v, rfl⟩⟩ := h
 ·obtain ⟨W, hf⟩ := hw.symm.step s.symm h1 h2 h3 l2 l1
  exact ⟨grown_trans hg g2, .inl ⟨_, _, _, P, pn, pc, Q, qn, qc, gl, lb, rfl, U, W.symm, hf⟩⟩
 ·exact ⟨grown_trans hg g2, .inr ⟨fun M hM => hw.symm.long s.symm h1 h2 h3 (fun h => hl ⟨h.2, h.1⟩) M hM.symm, u, v, rfl⟩⟩
theorem Wy.sub {sg a b x y : List Int} {L : Nat → List Int} (hw : Wy sg a b L x y) {k : Nat} (hk : k < y.length) : subI sg y (k : Int) = subL sg y k ∧ 1 ≤ (subL sg y k).length ∧ (subL sg y k).length ≤ 60 := by
 have h1 := hw.symm.okx
 have h2 := (sub_trm hw.symm.tx hk).1.pos
 refine ⟨by unfold subI; rw [if_pos (there_yes h1 (by omega) (by omega)), Int.toNat_natCast], h2, ?_⟩
 have := hw.ly
 unfold subL
 rw [List.length_take, List.length_drop]
 omega
set_option maxHeartbeats 4000000 in
theorem step (g : Nat) (A P Q : Option Addr) (n c pn pc qn qc gl : Nat) (lb : Array Value) (sg a b x y : List Int) (L : Nat → List Int) (w : World) (h : Un w g A n c sg P pn pc x Q qn qc y gl lb L) (hw : Wy sg a b L x y) (hne : x ≠ y) (hn : n ≤ 1048576) :
  Calls Try.prog 94 #[.pointer (some ⟨g, 0, none⟩)] w (AnsStep w g A n c sg a b L) := by
 have HWAY := hid hw
 have HLX := hid h.p.1
 have HLY := hid h.q.1
 have HNE := hid hne
 have hx60 : pn ≤ 60 := by rw [← h.p.1]; exact hw.lx
 have hy60 : qn ≤ 60 := by rw [← h.q.1]; exact hw.ly
 have c1 := h.c1
 have c2 := h.c2
 have U := h
 clear hw hne h
 go_enter Try.func94, Try.ntmps94
 go_wp2
 go_loopg [2] pn (fun g_ k_ wr => ∃ k d : Nat, k_ = .int .i64 k ∧ k + g_ = pn ∧ k ≤ qn ∧ x.take k = y.take k ∧ wr = w.drewN d)
 case atStart => exact ⟨0, 0, rfl, by omega, Nat.zero_le _, rfl, rfl⟩
 case round =>
  obtain ⟨k, d, rfl, hkg, hky, hpre, hwd⟩ := hrel
  have kx : k < pn := by
   rcases Nat.lt_or_ge k pn with h | h
   ·exact h
   ·exact absurd (unifMath.differ HWAY.out.tx HWAY.out.symm.tx hpre (by rw [HLX.out]; omega) (by rw [HLY.out]; omega) (.inl (by rw [HLX.out]; omega))) HNE.out
  have ky : k < qn := by
   rcases Nat.lt_or_ge k qn with h | h
   ·exact h
   ·exact absurd (unifMath.differ HWAY.out.tx HWAY.out.symm.tx hpre (by rw [HLX.out]; omega) (by rw [HLY.out]; omega) (.inr (by rw [HLY.out]; omega))) HNE.out
  have HKG := hid hkg
  have HPRE := hid hpre
  have i0 : (0 : Int) ≤ (k : Int) := by omega
  have j1 : (k : Int) < (pn : Int) := by omega
  have j2 : (k : Int) < (qn : Int) := by omega
  have bd : Below w.heap.size w wr := by rw [hwd]; exact ⟨rfl, rfl, rfl, Nat.le_refl _, fun _ _ => rfl⟩
  have HWD := hid hwd
  have HBD := hid bd
  have U := U.next bd
  have c1 := U.c1
  have c2 := U.c2
  clear bd hwd hkg hpre
  obtain ⟨b1, o1, p, rfl, hb1, hp, ep⟩ := U.p.spot kx
  obtain ⟨b2, o2, q, rfl, hb2, hq, eq⟩ := U.q.spot ky
  by_cases hpq : p = q
  ·subst hpq
   have S1 := hid (fun d' => (show ∃ k' d : Nat, (.int .i64 ((k : Int) + 1) : Value) = .int .i64 k' ∧ k' + (gk - 1) = pn ∧ k' ≤ qn ∧ x.take k' = y.take k' ∧ wr.drewN d' = w.drewN d from ⟨k + 1, d + d', by simp, by have := HKG.out; omega, ky, pre_step HPRE.out (by rw [HLX.out]; exact kx) (by rw [HLY.out]; exact ky) (by rw [ep.out, eq.out]), by rw [HWD.out, World.drewN_drewN]⟩))
   have hgk := hid (show gk - 1 < gk by have := HKG.out; omega)
   clear U ep eq
   go_wp2
   go_quiet (fail)
   go_wp2
   go_roundg (gk - 1)
   case measure => exact hgk.out
   case rel => exact S1.out _
  ·have HS := hid (HWAY.out.spot HPRE.out (by rw [HLX.out]; exact kx) (by rw [HLY.out]; exact ky) (by rw [ep.out, eq.out]; exact hpq))
   have HEP := hid ep.out
   have HEQ := hid eq.out
   have hpd : (p == q) = false := by simp [hpq]
   have hp24 : -24 ≤ p := HWAY.out.tx.mem (by rw [← HEP.out]; have := HLX.out; simp [List.getD, show k < x.length by omega])
   have hq24 : -24 ≤ q := HWAY.out.symm.tx.mem (by rw [← HEQ.out]; have := HLY.out; simp [List.getD, show k < y.length by omega])
   have HU := hid U
   have HPQ := hid hpq
   clear ep eq U hpq
   go_wp2_with fail
   go_quiet (fail)
   have U1 := HU.out.next (unifStep.drew_below wr nq)
   have B1 := next_trans HBD.out (unifStep.drew_below wr nq)
   have p1 : (wr.drewN nq).cell? ⟨b1, o1 + k, none⟩ = some (.int .i64 p) := hp
   have q1 : (wr.drewN nq).cell? ⟨b2, o2 + k, none⟩ = some (.int .i64 q) := hq
   clear HU HBD hp hq c1 c2
   generalize wr.drewN nq = w1 at *
   have HU := hid U1
   have HBD := hid B1
   have hp := p1
   have hq := q1
   have c0 := U1.c0
   have c1 := U1.c1
   have c2 := U1.c2
   clear U1 B1 p1 q1
   go_wp2_with fail
   go_quiet (fail)
   have U1 := HU.out.next (unifStep.drew_below w1 nq)
   have B1 := next_trans HBD.out (unifStep.drew_below w1 nq)
   have p1 : (w1.drewN nq).cell? ⟨b1, o1 + k, none⟩ = some (.int .i64 p) := hp
   have q1 : (w1.drewN nq).cell? ⟨b2, o2 + k, none⟩ = some (.int .i64 q) := hq
   clear HU HBD hp hq c1 c2
   generalize w1.drewN nq = w2 at *
   have HU := hid U1
   have HBD := hid B1
   have hp := p1
   have hq := q1
   have c0 := U1.c0
   have c1 := U1.c1
   have c2 := U1.c2
   clear U1 B1 p1 q1
   by_cases hlt : q < p
   ·have hlt' : decide (q < p) = true := decide_eq_true hlt
    have H3 := hid (show 0 ≤ p ∨ q < p from .inr (by have := HPQ.out; omega))
    go_wp2_with fail
    go_quiet (fail)
    have U1 := HU.out.next (unifStep.drew_below w2 nq)
    have B1 := next_trans HBD.out (unifStep.drew_below w2 nq)
    have p1 : (w2.drewN nq).cell? ⟨b1, o1 + k, none⟩ = some (.int .i64 p) := hp
    have q1 : (w2.drewN nq).cell? ⟨b2, o2 + k, none⟩ = some (.int .i64 q) := hq
    clear HU HBD hp hq c1 c2
    generalize w2.drewN nq = w3 at *
    have HU := hid U1
    have HBD := hid B1
    have hp := p1
    have hq := q1
    have c0 := U1.c0
    have c1 := U1.c1
    have c2 := U1.c2
    clear U1 B1 p1 q1
    by_cases hn0 : 0 ≤ q
    ·have hno : ∀ M, ¬ Short sg a b M := fun M hM => HWAY.out.symm.clash HS.out.symm (by rw [HEQ.out]; exact hn0) (by rw [HEP.out]; omega) M hM.symm
     have F := hid (fun (u : TypeId) (v : Value) => (show AnsStep w g A n c sg a b L (.panicked [{ v := .iface u v, recovered := false }]) w3 from ⟨grown_below HBD.out _, .inr ⟨hno, u, v, rfl⟩⟩))
     clear hno HU HBD
     go_wp2
     exact ⟨rfl, F.out _ _⟩
    ·have hn1 : q < 0 := by omega
     obtain ⟨es, e1, e60⟩ := Wy.sub HWAY.out.symm (k := k) (by rw [HLX.out]; exact kx)
     have LS := hid (implSubAt A (some ⟨b1, o1, none⟩) n c pn pc sg x (k : Int) w3 HU.out.s HU.out.p hn (by omega) (by omega) (by omega) HU.out.kp.1 HU.out.kp.2.1)
     rw [es] at LS
     have HES := hid e1
     have HE60 := hid e60
     clear es e1 e60
     go_wp2_with fail
     refine LS.out.mono ?_
     rintro e w4 ⟨D, dn, dc, rfl, od, bb⟩
     have hdn : dn ≤ 60 := by rw [Own.len od]; exact HE60.out
     have hd1 : 1 ≤ dn := by rw [Own.len od]; exact HES.out
     have sd := Own.seg od
     have kd := own_cap od
     have U4 := HU.out.next bb
     have B4 := next_trans HBD.out bb
     have LC := hid (containsInt D dn dc (subL sg x k) q w4 sd (by omega))
     clear HU HBD LS bb od c0 c1 c2 hp hq
     by_cases hm : q ∈ subL sg x k
     ·rw [decide_eq_true hm] at LC
      have hno : ∀ M, ¬ Short sg a b M := fun M hM => HWAY.out.symm.occurs HS.out.symm (by rw [HEQ.out]; exact hn1) (by rw [HEQ.out]; exact hm) M hM.symm
      have F := hid (fun (u : TypeId) (v : Value) => (show AnsStep w g A n c sg a b L (.panicked [{ v := .iface u v, recovered := false }]) w4 from ⟨grown_below B4 _, .inr ⟨hno, u, v, rfl⟩⟩))
      clear hno U4 B4 sd hm
      go_wp2_with fail
      refine LC.out.mono ?_
      rintro e w5 ⟨rfl, rfl⟩
      go_wp2
      exact ⟨rfl, F.out _ _⟩
     ·rw [decide_eq_false hm] at LC
      obtain ⟨v, hv⟩ : ∃ v : Nat, q = -1 - (v : Int) := ⟨(-1 - q).toNat, by omega⟩
      have HVR := hid (show vr q = v by unfold vr; omega)
      have hv24 : v < 24 := by omega
      have HVI := hid (show -1 - q = (v : Int) by omega)
      have HM := hid hm
      have LR := hid (replace g A _ _ D n c pn pc qn qc dn dc gl lb sg x y (subL sg x k) L v w4 U4 sd kd hd1 hdn hv24 hx60 hy60 (fun z hz => HWAY.out.tx.mem hz) (fun z hz => HWAY.out.symm.tx.mem hz) (fun j _ => HWAY.out.each j) (fun j hj z hz => (HWAY.out.part.sub.trm j hj).mem hz))
      have HB4 := hid B4
      have w64 : IntKind.i64.wrap (-1 - q) = (v : Int) := by rw [IntKind.wrap_i64]; omega
      clear U4 B4 sd hm hv
      go_wp2_with fail
      refine LC.out.mono ?_
      rintro e w5 ⟨rfl, rfl⟩
      go_wp2_with fail
      first
       | rw [HVI.out]
       | rw [w64]
       | skip
      refine LR.out.mono ?_
      rintro e w6 hrep
      have F := hid (show AnsStep w g A n c sg a b L e w6 from step_of' HWAY.out HS.out HEP.out HEQ.out hn1 HM.out H3.out (grown_below HB4.out _) (by rw [HVR.out]; exact hrep))
      obtain ⟨-, ⟨-, -, rfl, -⟩ | ⟨-, u, v, rfl⟩⟩ := hrep
      ·clear LR LC
       go_wp2
       first
        | exact bodyPost_ret (results_none rfl _ _ _) rfl F.out
        | (go_end0; exact F.out)
      ·clear LR LC
       go_wp2
       exact ⟨rfl, F.out⟩
   ·have hlt' : decide (q < p) = false := decide_eq_false hlt
    have H3 := hid (show 0 ≤ q ∨ p < q from .inr (by have := HPQ.out; omega))
    go_wp2_with fail
    go_quiet (fail)
    have U1 := HU.out.next (unifStep.drew_below w2 nq)
    have B1 := next_trans HBD.out (unifStep.drew_below w2 nq)
    have p1 : (w2.drewN nq).cell? ⟨b1, o1 + k, none⟩ = some (.int .i64 p) := hp
    have q1 : (w2.drewN nq).cell? ⟨b2, o2 + k, none⟩ = some (.int .i64 q) := hq
    clear HU HBD hp hq c1 c2
    generalize w2.drewN nq = w3 at *
    have HU := hid U1
    have HBD := hid B1
    have hp := p1
    have hq := q1
    have c0 := U1.c0
    have c1 := U1.c1
    have c2 := U1.c2
    clear U1 B1 p1 q1
    by_cases hn0 : 0 ≤ p
    ·have hno : ∀ M, ¬ Short sg a b M := fun M hM => HWAY.out.clash HS.out (by rw [HEP.out]; exact hn0) (by rw [HEQ.out]; omega) M hM
     have F := hid (fun (u : TypeId) (v : Value) => (show AnsStep w g A n c sg a b L (.panicked [{ v := .iface u v, recovered := false }]) w3 from ⟨grown_below HBD.out _, .inr ⟨hno, u, v, rfl⟩⟩))
     clear hno HU HBD
     go_wp2
     exact ⟨rfl, F.out _ _⟩
    ·have hn1 : p < 0 := by omega
     obtain ⟨es, e1, e60⟩ := Wy.sub HWAY.out (k := k) (by rw [HLY.out]; exact ky)
     have LS := hid (implSubAt A (some ⟨b2, o2, none⟩) n c qn qc sg y (k : Int) w3 HU.out.s HU.out.q hn (by omega) (by omega) (by omega) HU.out.kq.1 HU.out.kq.2.1)
     rw [es] at LS
     have HES := hid e1
     have HE60 := hid e60
     clear es e1 e60
     go_wp2_with fail
     refine LS.out.mono ?_
     rintro e w4 ⟨D, dn, dc, rfl, od, bb⟩
     have hdn : dn ≤ 60 := by rw [Own.len od]; exact HE60.out
     have hd1 : 1 ≤ dn := by rw [Own.len od]; exact HES.out
     have sd := Own.seg od
     have kd := own_cap od
     have U4 := HU.out.next bb
     have B4 := next_trans HBD.out bb
     have LC := hid (containsInt D dn dc (subL sg y k) p w4 sd (by omega))
     clear HU HBD LS bb od c0 c1 c2 hp hq
     by_cases hm : p ∈ subL sg y k
     ·rw [decide_eq_true hm] at LC
      have hno : ∀ M, ¬ Short sg a b M := fun M hM => HWAY.out.occurs HS.out (by rw [HEP.out]; exact hn1) (by rw [HEP.out]; exact hm) M hM
      have F := hid (fun (u : TypeId) (v : Value) => (show AnsStep w g A n c sg a b L (.panicked [{ v := .iface u v, recovered := false }]) w4 from ⟨grown_below B4 _, .inr ⟨hno, u, v, rfl⟩⟩))
      clear hno U4 B4 sd hm
      go_wp2_with fail
      refine LC.out.mono ?_
      rintro e w5 ⟨rfl, rfl⟩
      go_wp2
      exact ⟨rfl, F.out _ _⟩
     ·rw [decide_eq_false hm] at LC
      obtain ⟨v, hv⟩ : ∃ v : Nat, p = -1 - (v : Int) := ⟨(-1 - p).toNat, by omega⟩
      have HVR := hid (show vr p = v by unfold vr; omega)
      have hv24 : v < 24 := by omega
      have HVI := hid (show -1 - p = (v : Int) by omega)
      have HM := hid hm
      have LR := hid (replace g A _ _ D n c pn pc qn qc dn dc gl lb sg x y (subL sg y k) L v w4 U4 sd kd hd1 hdn hv24 hx60 hy60 (fun z hz => HWAY.out.tx.mem hz) (fun z hz => HWAY.out.symm.tx.mem hz) (fun j _ => HWAY.out.each j) (fun j hj z hz => (HWAY.out.part.sub.trm j hj).mem hz))
      have HB4 := hid B4
      have w64 : IntKind.i64.wrap (-1 - p) = (v : Int) := by rw [IntKind.wrap_i64]; omega
      clear U4 B4 sd hm hv
      go_wp2_with fail
      refine LC.out.mono ?_
      rintro e w5 ⟨rfl, rfl⟩
      go_wp2_with fail
      first
       | rw [HVI.out]
       | rw [w64]
       | skip
      refine LR.out.mono ?_
      rintro e w6 hrep
      have F := hid (show AnsStep w g A n c sg a b L e w6 from step_of HWAY.out HS.out HEP.out HEQ.out hn1 HM.out H3.out (grown_below HB4.out _) (by rw [HVR.out]; exact hrep))
      obtain ⟨-, ⟨-, -, rfl, -⟩ | ⟨-, u, v, rfl⟩⟩ := hrep
      ·clear LR LC
       go_wp2
       first
        | exact bodyPost_ret (results_none rfl _ _ _) rfl F.out
        | (go_end0; exact F.out)
      ·clear LR LC
       go_wp2
       exact ⟨rfl, F.out⟩
end unifStep
end
section
open Go.Lib (hid)
namespace unifRun
open Go.RowKit base ints sig term termOk same cursor marks unifMath unifDom thn unifRep unifStep
set_option maxRecDepth 100000
def AnsRun (w : World) (g : Nat) (A : Option Addr) (n c : Nat) (sg a b : List Int) (e : Ending) (w' : World) : Prop :=
 w.grownBy w' (some g) ∧ ((∃ x L P pn pc Q qn qc gl lb, e = .returned (.tuple #[]) ∧ Un w' g A n c sg P pn pc x Q qn qc x gl lb L ∧ Wy sg a b L x x) ∨ ((∀ M, ¬ Short sg a b M) ∧ ∃ u v, e = .panicked [{ v := .iface u v, recovered := false }]))
def HeadR (w : World) (g : Nat) (A : Option Addr) (n c : Nat) (sg a b : List Int) (f : Nat) (wr : World) : Prop :=
 w.grownBy wr (some g) ∧ ∃ x y L P pn pc Q qn qc gl lb, Un wr g A n c sg P pn pc x Q qn qc y gl lb L ∧ Wy sg a b L x y ∧ free L + 1 ≤ f
set_option maxHeartbeats 2000000 in
theorem run (g : Nat) (A P Q : Option Addr) (n c pn pc qn qc gl : Nat) (lb : Array Value) (sg a b x y : List Int) (L : Nat → List Int) (w : World) (h : Un w g A n c sg P pn pc x Q qn qc y gl lb L) (hw : Wy sg a b L x y) (hn : n ≤ 1048576) :
  Calls Try.prog 60 #[.pointer (some ⟨g, 0, none⟩)] w (AnsRun w g A n c sg a b) := by
 have HH := hid (show HeadR w g A n c sg a b 25 w from ⟨World.grownBy.refl _ _, x, y, L, P, pn, pc, Q, qn, qc, gl, lb, h, hw, by have := free_le L; omega⟩)
 clear h hw
 go_enter Try.func60, Try.ntmps60
 go_wp2
 go_loopg [] 25 (fun f_ wr => HeadR w g A n c sg a b f_ wr)
 case atStart => exact HH.out
 case round =>
  obtain ⟨hg, x, y, L, P, pn, pc, Q, qn, qc, gl, lb, U, hw, hf⟩ := hrel
  clear HH
  have hx60 : pn ≤ 60 := by rw [← U.p.1]; exact hw.lx
  have hy60 : qn ≤ 60 := by rw [← U.q.1]; exact hw.ly
  have c1 := U.c1
  have c2 := U.c2
  have HG := hid hg
  have HF := hid hf
  have HWAY := hid hw
  have HU := hid (fun d => U.next (unifStep.drew_below wr d))
  have LS := hid (fun d => implSame P Q pn qn pc qc x y (wr.drewN d) (HU.out d).p (HU.out d).q (by omega) (by omega))
  clear U hw hg hf
  go_wp2_with fail
  go_region_held3 (fun w' => w'.cell? ⟨g, 1, none⟩ = some (.slice P pn pc) ∧ w'.cell? ⟨g, 2, none⟩ = some (.slice Q qn qc))
   (exact ⟨c1, c2⟩)
   (first
    | (go_at_call 42; refine (LS.out 1).mono ?_; rintro e w3 ⟨rfl, d, rfl⟩))
  have U1 := HU.out (1 + d)
  have G1 := grown_trans HG.out (grown_below (unifStep.drew_below wr (1 + d)) (some g))
  clear HU HG LS c1 c2
  generalize wr.drewN (1 + d) = w1 at *
  by_cases hxy : x = y
  ·subst hxy
   rw [decide_eq_true (show x = x from rfl)]
   have F := hid (show AnsRun w g A n c sg a b (.returned (.tuple #[])) w1 from ⟨G1, .inl ⟨x, L, P, pn, pc, Q, qn, qc, gl, lb, rfl, U1, HWAY.out⟩⟩)
   clear U1 G1 HWAY HF
   go_wp2
   first
    | exact bodyPost_ret (results_none rfl _ _ _) rfl F.out
    | (go_end0; exact F.out)
  ·rw [decide_eq_false hxy]
   have LT := hid (unifStep.step g A P Q n c pn pc qn qc gl lb sg a b x y L w1 U1 HWAY.out hxy hn)
   have HG1 := hid G1
   clear U1 G1 HWAY hxy
   go_wp2_with fail
   refine LT.out.mono ?_
   rintro e w2 ⟨g2, ⟨x', y', L', P', pn', pc', Q', qn', qc', gl', lb', rfl, U2, W2, hf2⟩ | ⟨hno, u, v, rfl⟩⟩
   ·have S := hid (show HeadR w g A n c sg a b (gk - 1) w2 from ⟨grown_trans HG1.out g2, x', y', L', P', pn', pc', Q', qn', qc', gl', lb', U2, W2, by have := HF.out; omega⟩)
    have M := hid (show gk - 1 < gk by have := HF.out; omega)
    clear U2 W2 g2 hf2 LT HF
    go_wp2
    go_roundg (gk - 1)
    case measure => exact M.out
    case rel => exact S.out
   ·have F := hid (show AnsRun w g A n c sg a b (.panicked [{ v := .iface u v, recovered := false }]) w2 from ⟨grown_trans HG1.out g2, .inr ⟨hno, u, v, rfl⟩⟩)
    clear g2 hno LT HF
    go_wp2
    exact ⟨rfl, F.out⟩
end unifRun
end
section
open Go.Lib (hid)
namespace plain
open Go.RowKit base ints cursor same marks app appAt sym sub segs segsHelp kinds fillMath Go.Proofs.Ytobedfmagjgdcaa.look plainMath
set_option maxRecDepth 100000
theorem Inn.none_ (w : World) (lo hi : Nat) : Inn w lo hi (.slice none 0 0) [] := ⟨none, 0, rfl, Own.nil _ _, fun k hk => by cases hk⟩
theorem inn_own {w : World} {lo : Nat} {A : Option Addr} {n c : Nat} {xs : List Int} (h : Own w lo (.slice A n c) xs) : Inn w lo w.heap.size (.slice A n c) xs := by
 have hl := Own.len h
 subst hl
 exact ⟨A, c, rfl, h, fun k hk => (World.ownsRow.lt h k (by rw [blk_own]; exact hk)).2⟩
set_option maxHeartbeats 1000000 in
theorem appS1 {w : World} {ops : Array Oper} {rest : List Oper} {o : Oper} {a : Act} {Q : Exit → Act → World → Prop} (hgd : o.guard = none) (s x : Operand)
  (ho : o.op = .call { callee := .builtin .append, args := #[s, x], argTypes := #[25, 25] })
  (lo mid : Nat) (A : Option Addr) (n c : Nat) (xss : List (List Int)) (hs : a.eval s = .slice A n c) (hown : Owns w lo mid A n c xss)
  (g c2 : Nat) (v : Value) (ys : List Int) (hx : a.eval x = .slice (some ⟨g, 0, none⟩) 1 c2) (hy : w.cell? ⟨g, 0, none⟩ = some v) (hv : Inn w mid w.heap.size v ys) (hn : n ≤ 1048576) (hlo : lo ≤ mid) (hmid : mid ≤ w.heap.size)
  (h : ∀ A' c' w', Owns w' lo w'.heap.size A' (n + 1) c' (xss ++ [ys]) → w.grownBy w' (blk A) → (blk A' = blk A ∨ blk A' = some w.heap.size) → Below lo w w' → wpList Try.prog ops Q rest (a.put o.dst (.slice A' (n + 1) c')) w') : wpList Try.prog ops Q (o :: rest) a w := by
 obtain ⟨i0, hi, hz0, hz1, hz2⟩ := info_parts info_list
 obtain ⟨hlen, ⟨vs, hr, hin, hap⟩, htop⟩ := hown
 have hvl : vs.length = n := by have := hr.1; omega
 have hvc : v.oneCell' = true := by obtain ⟨A1, c1, rfl, _⟩ := hv; rfl
 refine wpList_append_own_at w hgd s x 25 ho lo 22 i0 (.slice none 0 0) 1 24 Try.underlying25 hi hz0 hz1 hz2 rfl (by decide) (.slice A n c) n vs hs hr
  ⟨g, 0, none⟩ 1 c2 [v] hx rfl (fun j u hj => ?_) (fun u hu => ?_) (by unfold maxLen; omega) (by omega) (by omega) ?_
 ·match j, hj with
  | 0, hj => simp at hj; subst hj; simpa [Addr.add] using hy
 ·simp at hu; subst hu; exact hvc
 ·intro v' w' hown' hg _ hat
  have hform : ∃ A' c', v' = .slice A' (n + 1) c' := by
   rcases hown'.2 with ⟨_, h0⟩ | ⟨g', cap, cur, e, _⟩
   ·omega
   ·exact ⟨_, _, e⟩
  obtain ⟨A', c', rfl⟩ := hform
  rw [blk_own] at hg
  rw [blk_own, blk_own] at hat
  have hsz := hg.size
  have hne : ∀ {u : Value} {zs : List Int} {l2 h2 : Nat}, Inn w l2 h2 u zs → u.ownBlock = none ∨ u.ownBlock ≠ blk A := fun {u zs l2 h2} hu => by
   rcases own_form hr with ⟨rfl, _⟩ | ⟨g', cur, rfl, _, hrow, _⟩
   ·cases e : u.ownBlock with
    | none => exact .inl rfl
    | some z => exact .inr (fun e2 => by cases e2)
   ·exact .inr (hu.ne hrow)
  have hget : ∀ j, j < n → (vs ++ [v]).getD j undef = vs.getD j undef := fun j hj => by simp [List.getD, List.getElem?_append_left (show j < vs.length by omega)]
  have hget2 : ∀ j, j < n → (xss ++ [ys]).getD j [] = xss.getD j [] := fun j hj => by simp [List.getD, List.getElem?_append_left (show j < xss.length by omega)]
  have hnew : (vs ++ [v]).getD n undef = v := by simp [List.getD, ← hvl]
  have hnew2 : (xss ++ [ys]).getD n [] = ys := by simp [List.getD, ← hlen]
  refine h A' c' w' ⟨by simp [hlen], ⟨vs ++ [v], hown', fun j hj => ?_, fun i j k hij hj e1 e2 => ?_⟩, fun k hk => (World.ownsRow.lt hown' k (by rw [blk_own]; exact hk)).2⟩ hg hat ?_
  ·by_cases e : j = n
   ·subst e
    rw [hnew, hnew2]
    exact (hv.kept hg (hne hv)).wider (by omega) (by omega)
   ·rw [hget j (by omega), hget2 j (by omega)]
    exact ((hin j (by omega)).kept hg (hne (hin j (by omega)))).wider (Nat.le_refl _) (by omega)
  ·by_cases e : j = n
   ·subst e
    rw [hget i hij] at e1
    rw [hnew] at e2
    have h1 := ((hin i hij).blk k e1).2.1
    have h2 := (hv.blk k e2).1
    omega
   ·rw [hget i (by omega)] at e1
    rw [hget j (by omega)] at e2
    exact hap i j k hij (by omega) e1 e2
  ·refine (Below.refl lo w).grown hg (by omega) (fun k hk => ?_)
   exact (World.ownsRow.lt hr k (by rw [blk_own]; exact hk)).1
def AnsSubst (w : World) (xss : List (List Int)) (e : Ending) (w' : World) : Prop := ∃ A n c, e = .returned (.agg #[.slice A n c]) ∧ Owns w' w.heap.size w'.heap.size A n c xss ∧ Below w.heap.size w w'
def HeadP (w : World) (L : Nat → List Int) (terms i : Value) (wr : World) : Prop :=
 ∃ (k : Nat) (A : Option Addr) (n c : Nat), k ≤ 24 ∧ i = .int .i64 k ∧ terms = .slice A n c ∧ n ≤ k ∧ Owns wr (w.heap.size + 1) wr.heap.size A n c (plainL L k) ∧ Row wr w.heap.size 39 #[.slice none 0 0] ∧ Below w.heap.size w wr
theorem Seg.away {w w' : World} {A : Option Addr} {n : Nat} {xs : List Int} {r : Option Nat} (h : Seg w w.heap.size A n xs) (hg : w.grownBy w' r) (hne : ∀ k, blk A = some k → r ≠ some k) : Seg w' w'.heap.size A n xs :=
 ⟨h.1, fun hn => by
  obtain ⟨b, off, e, hb, hc⟩ := h.2 hn
  refine ⟨b, off, e, Nat.lt_of_lt_of_le hb hg.size, fun j hj => ?_⟩
  exact (World.cell?_of_block (hg.block b hb (fun e2 => hne b (by rw [e]; rfl) e2.symm))).trans (hc j hj)⟩
def HeadQ (w : World) (mid top : Nat) (L : Nat → List Int) (k : Nat) (A1 : Option Addr) (n1 : Nat) (ys : List Int) (terms : Value) (wr : World) : Prop :=
 ∃ (A : Option Addr) (n c : Nat), terms = .slice A n c ∧ n ≤ k ∧ (plainL L k).length ≤ n ∧ Owns wr (w.heap.size + 1) wr.heap.size A n c (plainL L k ++ List.replicate (n - (plainL L k).length) []) ∧ (∀ q, blk A = some q → q < mid ∨ top ≤ q) ∧
  Seg wr wr.heap.size A1 n1 ys ∧ Row wr w.heap.size 39 #[.slice none 0 0] ∧ Below w.heap.size w wr ∧ top ≤ wr.heap.size
def lenOf (v : Value) : Nat := match v with
 | .slice _ n _ => n
 | _ => 0
set_option maxHeartbeats 16000000 in
theorem plain (g : Nat) (lb : Array Value) (eg : ∀ args w, (callFunc g args).run Try.prog w = .ok (.enter g args) w) (L : Nat → List Int) (w : World)
  (hL : Looks g lb w L 24) (h1 : ∀ i, 1 ≤ (L i).length) (hM : ∀ i, (L i).length ≤ 4096) :
  Calls Try.prog 61 #[.func (.func g) #[] lb] w (AnsSubst w (plainL L 24)) := by
 have H1 := hid h1
 have HM := hid hM
 have HK := hid hL
 have S0 : HeadP w L (.slice none 0 0) (.int .i64 0) (w.alloc (.cells #[.slice none 0 0] 39)) :=
  ⟨0, none, 0, 0, by omega, rfl, rfl, Nat.le_refl _, by simpa [plainL, rowsL, strip] using Owns.nil (w.alloc (.cells #[.slice none 0 0] 39)) (w.heap.size + 1) (w.alloc (.cells #[.slice none 0 0] 39)).heap.size, Row.new _ _ _, (Below.refl _ _).alloc (Nat.le_refl _) _⟩
 have HS0 := hid S0
 clear S0 h1 hM hL
 go_enter Try.func61, Try.ntmps61
 go_wp2
 go_loopw [3, 6] (fun terms i wr => HeadP w L terms i wr) (fun _ i _ => 24 - (intOf i).toNat)
 case atStart => exact HS0.out
 case round =>
  obtain ⟨k, A, n, c, hk, rfl, rfl, hnk, ho, hr, hb⟩ := hrel
  clear HS0
  obtain ⟨wo, rfl⟩ : ∃ wo : World, wo = wr := ⟨_, rfl⟩
  by_cases hlt : k < 24
  ·have hcall := HK.out wo k hb hlt
   have hLk : (L k).length ≤ 4096 := HM.out k
   have hL1 : 1 ≤ (L k).length := H1.out k
   obtain ⟨ys, hys⟩ : ∃ ys, L k = ys := ⟨_, rfl⟩
   rw [hys] at hcall hLk hL1
   have HY := hid hys
   have HC := hid hcall
   clear hys hcall
   have hsz := hb.size
   have hrlt := hr.lt
   by_cases hsame : ys = [-1 - (k : Int)]
   ·have DS := hid (decide_eq_true hsame)
    go_wp2_with (first
     | (go_at_fn g; refine HC.out.mono ?_; rintro e w1 ⟨A1, n1, c1, rfl, s1, cap1, far1, bb1⟩; have hn1 : n1 ≤ 4096 := (by rw [← s1.1]; exact hLk))
     | (go_at_call 59; refine (varTerm (k : Int) _ (by omega) (by omega)).mono ?_; rintro e w2 ⟨A2, n2, c2, rfl, o2, bb2⟩; have hn2 : n2 ≤ 1048576 := (by rw [Own.len o2]; simp))
     | (go_at_call 42; refine (implSame A1 A2 n1 n2 c1 c2 ys [-1 - (k : Int)] w2 (s1.next bb2) (Own.seg o2) (by omega) hn2).mono ?_; rintro e w3 ⟨he, d, rfl⟩; rw [DS.out] at he; subst he))
    have bb3 : Below wo.heap.size wo (w2.drewN d) := below_drewN (next_trans bb1 bb2) d
    have hs3 := bb3.size
    have S : HeadP w L (.slice A n c) (.int .i64 ((k : Int) + 1)) (w2.drewN d) := ⟨k + 1, A, n, c, hlt, by simp, rfl, by omega, by rw [plain_same (HY.out.trans hsame)]; exact (ho.next bb3).wider (Nat.le_refl _) hs3, hr.next bb3, hb.trans (bb3.mono hsz)⟩
    have HS := hid S
    clear S bb3 hs3 s1 cap1 far1 bb1 o2 bb2 ho hr hb HC HY hsame DS
    go_wp2
    go_roundw
    case rel => exact HS.out
    case measure => simp [intOf]; omega
   ·have DS := hid (decide_eq_false hsame)
    have HNE := hid hsame
    clear hsame
    go_wp2_with (first
     | (go_at_fn g; refine HC.out.mono ?_; rintro e w1 ⟨A1, n1, c1, rfl, s1, cap1, far1, bb1⟩; have hn1 : n1 ≤ 4096 := (by rw [← s1.1]; exact hLk))
     | (go_at_call 59; refine (varTerm (k : Int) _ (by omega) (by omega)).mono ?_; rintro e w2 ⟨A2, n2, c2, rfl, o2, bb2⟩; have hn2 : n2 ≤ 1048576 := (by rw [Own.len o2]; simp))
     | (go_at_call 42; refine (implSame A1 A2 n1 n2 c1 c2 ys [-1 - (k : Int)] w2 (s1.next bb2) (Own.seg o2) (by omega) hn2).mono ?_; rintro e w3 ⟨he, hd⟩; rw [DS.out] at he; subst he; have bb3 : Below w2.heap.size w2 w3 := (by obtain ⟨d, rfl⟩ := hd; exact drewN_below _ _)))
    have bbo := next_trans (next_trans bb1 bb2) bb3
    have s3 := (s1.next bb2).next bb3
    have hs3 := bbo.size
    have h12 := bb2.size
    have h23 := bb3.size
    have hn1' : 1 ≤ n1 := by rw [← s1.1]; exact hL1
    have hA1 : ∀ q, blk A1 = some q → q < w.heap.size ∨ (wo.heap.size ≤ q ∧ q < w3.heap.size) := fun q hq => by
     rcases far1 q hq with h | h
     ·exact .inl h
     ·refine .inr ⟨h, ?_⟩
      obtain ⟨b, off, e, hb', _⟩ := s1.2 (by omega)
      rw [e] at hq
      have : b = q := Option.some.inj hq
      omega
    have Q0 : HeadQ w wo.heap.size w3.heap.size L k A1 n1 ys (.slice A n c) w3 := by
     have hl := ho.len
     refine ⟨A, n, c, rfl, hnk, by omega, ?_, fun q hq => .inl (ho.top q hq), s3, hr.next bbo, hb.trans (bbo.mono hsz), Nat.le_refl _⟩
     rw [show n - (plainL L k).length = 0 by omega, List.replicate_zero, List.append_nil]
     exact (ho.next bbo).wider (Nat.le_refl _) hs3
    have HQ0 := hid Q0
    have HA1 := hid hA1
    clear Q0 hA1 bbo s3 s1 cap1 far1 bb1 o2 bb2 bb3 ho hr hb HC DS hd
    go_loopw [3] (fun terms wr => HeadQ w wo.heap.size w3.heap.size L k A1 n1 ys terms wr) (fun terms _ => k - lenOf terms)
    case atStart => exact HQ0.out
    case round =>
     obtain ⟨A, n, c, rfl, hnk, hpn, ho, hloc, s1, hr, hb, htop⟩ := hrel
     clear HQ0
     have hrl := hr.lt
     have hne : ∀ q, blk A1 = some q → blk A ≠ some q := fun q hq e => by
      have h1 := HA1.out q hq
      have h2 := hloc q e
      obtain ⟨vs, hown, _⟩ := ho.row
      have h3 := (World.ownsRow.lt hown q (by rw [blk_own]; exact e)).1
      omega
     have hneB : blk A ≠ some w.heap.size := fun e => by
      obtain ⟨vs, hown, _⟩ := ho.row
      have h3 := (World.ownsRow.lt hown _ (by rw [blk_own]; exact e)).1
      omega
     by_cases hlt2 : n < k
     ·have ho1 := ho.next (w' := wr.alloc (.cells #[.slice none 0 0] 22)) ((Below.refl _ _).alloc (Nat.le_refl _) _)
      have hr1 := hr.alloc (.cells #[.slice none 0 0] 22)
      have s1a := s1.next (w' := wr.alloc (.cells #[.slice none 0 0] 22)) ((Below.refl _ _).alloc (Nat.le_refl _) _)
      go_wp2_with (at_builtin; refine appS1 rfl _ _ rfl (w.heap.size + 1) wr.heap.size A n c _ rfl ho1 wr.heap.size 1 (.slice none 0 0) [] rfl ((Row.new _ _ _).cell 0) (Inn.none_ _ _ _) (by omega) (by omega) (by simp) ?_; intro A' c' w5 ho5 hg5 hat5 b5)
      have S : HeadQ w wo.heap.size w3.heap.size L k A1 n1 ys (.slice A' (n + 1) c') w5 := by
       refine ⟨A', n + 1, c', rfl, hlt2, by omega, ?_, fun q hq => ?_, Seg.away s1a hg5 hne, Row.away hr1 hg5 hneB, (hb.alloc (by omega) _).trans (b5.mono (by omega)), ?_⟩
       ·rw [show n + 1 - (plainL L k).length = (n - (plainL L k).length) + 1 by omega, List.replicate_succ', ← List.append_assoc]
        exact ho5
       ·rcases hat5 with h | h
        ·exact hloc q (by rw [← h]; exact hq)
        ·rw [h] at hq
         injection hq with hq
         simp at hq
         omega
       ·have := hg5.size; simp at this; omega
      have HS := hid S
      clear S ho5 hg5 hat5 b5 ho1 hr1 s1a ho hloc s1 hr hb hne hneB
      go_wp2
      go_roundw
      case rel => exact HS.out
      case measure => simp [lenOf]; omega
     ·have hkn : n = k := by omega
      subst hkn
      obtain ⟨b1, off1, e1, _, _⟩ := s1.2 (by omega)
      subst e1
      rw [plain_pad] at ho
      have LC := hid (cloneInts b1 off1 n1 c1 ys wr s1 (by omega))
      go_wp2_with (first
       | (go_at_call 95; refine LC.out.mono ?_; rintro e w5 ⟨A5, n5, c5, rfl, o5, bb5⟩; have z5 := bb5.size; have ho5 := (ho.next bb5).next (w' := w5.alloc (.cells #[.slice A5 n5 c5] 22)) ((Below.refl _ _).alloc (Nat.le_refl _) _); have i5 := (inn_own o5).next (w' := w5.alloc (.cells #[.slice A5 n5 c5] 22)) ((Below.refl _ _).alloc (Nat.le_refl _) _); have i6 := Inn.wider i5 (Nat.le_refl _) (show w5.heap.size ≤ (w5.alloc (.cells #[.slice A5 n5 c5] 22)).heap.size by simp); have r5 := (hr.next bb5).alloc (.cells #[.slice A5 n5 c5] 22))
       | (at_builtin; refine appS1 rfl _ _ rfl (w.heap.size + 1) wr.heap.size A n c _ rfl ho5 w5.heap.size 1 (.slice A5 n5 c5) ys rfl ((Row.new _ _ _).cell 0) i6 (by omega) (by omega) (by simp; omega) ?_; intro A' c' w6 ho6 hg6 hat6 b6))
      have S : HeadP w L (.slice A' (n + 1) c') (.int .i64 ((n : Int) + 1)) w6 := by
       refine ⟨n + 1, A', n + 1, c', hlt, by simp, rfl, Nat.le_refl _, ?_, Row.away r5 hg6 hneB, ((hb.trans (bb5.mono (by omega))).alloc (by omega) _).trans (b6.mono (by omega))⟩
       rw [plain_new (by rw [HY.out]; exact HNE.out) (by rw [HY.out]; exact hL1), HY.out]
       exact ho6
      have HS := hid S
      clear S ho6 hg6 hat6 b6 ho5 i5 i6 r5 o5 bb5 ho hloc s1 hr hb hne hneB LC
      go_wp2
      go_roundw
      case rel => exact HS.out
      case measure => simp [intOf]; omega
  ·have hk24 : k = 24 := by omega
   subst hk24
   have hcell : wo.cell? ⟨w.heap.size, 0, none⟩ = some (.slice none 0 0) := hr.cell 0
   have hfr : wo.frozen? ⟨w.heap.size, 0, none⟩ = false := hr.free 0
   have F : AnsSubst w (plainL L 24) (.returned (.agg #[.slice A n c])) (wo.setCell ⟨w.heap.size, 0, none⟩ (.slice A n c)) :=
    ⟨A, n, c, rfl, (owns_put ho hr (Nat.lt_succ_self _) 0 _).wider (by omega) (by simp), hb.setCell (Nat.le_refl _) _⟩
   have HF := hid F
   clear F ho hr hb
   go_wp2
   exact bodyPost_ret (v := .agg #[.slice A n c]) (by simp [results, Try.results61, go_sem, hcell]) rfl HF.out
end plain
end
section
open Go.Lib (hid)
namespace plainOf
open Go.RowKit base ints sig cursor marks app appAt sym sub segs segsHelp kinds varsOf fillMath Go.Proofs.Ytobedfmagjgdcaa.look substOk gives plainMath plain
set_option maxRecDepth 100000
theorem own_one {w : World} {base : Nat} {D : Option Addr} {c : Nat} {x : Int} (h : Own w base (.slice D 1 c) [x]) : ∃ g, D = some ⟨g, 0, none⟩ ∧ w.cell? ⟨g, 0, none⟩ = some (.int .i64 x) := by
 rcases own_form (n := 1) (vs := [x].map (Value.int .i64)) h with ⟨_, h1, _⟩ | ⟨g, cur, e, _, hr, _, _, _, _, hc⟩
 ·omega
 ·refine ⟨g, e, ?_⟩
  rw [hr.cell 0, hc 0 (by omega)]
  rfl
theorem Owns.shrink {w : World} {lo hi m n c : Nat} {A : Option Addr} {xss : List (List Int)} (h : Owns w lo hi A m c xss) (hn : n ≤ m) : Owns w lo hi A n c (xss.take n) := by
 obtain ⟨h1, ⟨vs, hr, hin, hap⟩, h3⟩ := h
 rcases own_form hr with ⟨rfl, h0, rfl, rfl⟩ | ⟨g, cur, rfl, hlo, hrow, hmc, hsz, hmax, hlen, hc⟩
 ·obtain rfl : n = 0 := by omega
  simpa using Owns.nil w lo hi
 ·have e1 : ∀ j, j < n → (cur.toList.take n).getD j undef = vs.getD j undef := fun j hj => by
   have := hc j (by omega)
   simp [List.getD, List.getElem?_take, hj, this]
  have e2 : ∀ j, j < n → (xss.take n).getD j [] = xss.getD j [] := fun j hj => by simp [List.getD, List.getElem?_take, hj]
  refine ⟨by rw [List.length_take, h1]; omega, ⟨_, rowsOf hrow hsz (by omega) hmax hlo, fun j hj => ?_, fun i j k hij hj a b => ?_⟩, h3⟩
  ·rw [e1 j hj, e2 j hj]
   exact hin j (by omega)
  ·rw [e1 i (by omega)] at a
   rw [e1 j hj] at b
   exact hap i j k hij (by omega) a b
def HeadL1 (w : World) (S : Option Addr) (m c : Nat) (ss : List (List Int)) (i : Value) (wr : World) : Prop :=
 ∃ (k : Nat) (A : Option Addr) (cA : Nat), k ≤ m ∧ i = .int .i64 k ∧ Owns wr (w.heap.size + 3) wr.heap.size A k cA (rowsL (givesL ss) k) ∧ Row wr w.heap.size 39 #[.slice S m c] ∧ Row wr (w.heap.size + 1) 39 #[.slice none 0 0] ∧
  Row wr (w.heap.size + 2) 39 #[.slice A k cA] ∧ Below w.heap.size w wr
theorem headL1_step {w wr w1 w5 w6 : World} {S A A' : Option Addr} {m c k cA c' : Nat} {ss : List (List Int)} (hk : k < m) (ho : Owns w6 (w.heap.size + 3) w6.heap.size A' (k + 1) c' (rowsL (givesL ss) (k + 1)))
  (r0 : Row wr w.heap.size 39 #[.slice S m c]) (r1 : Row wr (w.heap.size + 1) 39 #[.slice none 0 0]) (r2 : Row wr (w.heap.size + 2) 39 #[.slice A k cA]) (hb : Below w.heap.size w wr)
  (b1 : Below wr.heap.size wr w1) (b5 : Below w1.heap.size w1 w5) (hg : w5.grownBy w6 (blk A)) (hA : ∀ z, blk A = some z → w.heap.size + 3 ≤ z) :
  HeadL1 w S m c ss (.int .i64 ((k : Int) + 1)) (w6.setCell ⟨w.heap.size + 2, 0, none⟩ (.slice A' (k + 1) c')) := by
 have bb := next_trans b1 b5
 have q0 := Row.away (r0.next bb) hg (fun e => by have := hA _ e; omega)
 have q1 := Row.away (r1.next bb) hg (fun e => by have := hA _ e; omega)
 have q2 := Row.away (r2.next bb) hg (fun e => by have := hA _ e; omega)
 have hbb : Below w.heap.size w w6 := (hb.trans (bb.mono hb.size)).grown hg (by have := hb.size; have := bb.size; omega) (fun z hz => by have := hA z hz; omega)
 refine ⟨k + 1, A', c', hk, by simp, ?_, q0.far (by simp) _, q1.far (by simp) _, ?_, hbb.setCell (by simp) _⟩
 ·have := owns_put ho q2 (by omega) 0 (.slice A' (k + 1) c')
  simpa using this
 ·have := q2.put 0 (.slice A' (k + 1) c')
  simpa using this
def HeadL2 (w : World) (L : Nat → List Int) (m : Nat) (A : Option Addr) (cA : Nat) (p : Value) (wr : World) : Prop :=
 ∃ n : Nat, n ≤ m ∧ p = .pointer (some ⟨w.heap.size + 2, 0, none⟩) ∧ strip ((rowsL L m).take n) = plainL L m ∧ Owns wr (w.heap.size + 3) wr.heap.size A m cA (rowsL L m) ∧ Row wr (w.heap.size + 1) 39 #[.slice none 0 0] ∧
  Row wr (w.heap.size + 2) 39 #[.slice A n cA] ∧ Below w.heap.size w wr
def lenAt (w : World) (p : Addr) : Nat := match w.cell? p with
 | some (.slice _ n _) => n
 | _ => 0
theorem headL2_end {w wr : World} {L : Nat → List Int} {m n cA : Nat} {A : Option Addr} (hn : n ≤ m) (hs : strip ((rowsL L m).take n) = plainL L m) (ho : Owns wr (w.heap.size + 3) wr.heap.size A m cA (rowsL L m))
  (r1 : Row wr (w.heap.size + 1) 39 #[.slice none 0 0]) (hb : Below w.heap.size w wr) (hend : n = 0 ∨ (rowsL L m).getD (n - 1) [] ≠ []) :
  AnsSubst w (plainL L m) (.returned (.agg #[.slice A n cA])) (wr.setCell ⟨w.heap.size + 1, 0, none⟩ (.slice A n cA)) := by
 have e : (rowsL L m).take n = plainL L m := by
  rw [← hs]
  rcases hend with rfl | h
  ·simp [strip]
  ·by_cases h0 : n = 0
   ·subst h0; simp [strip]
   ·have := strip_last (l := rowsL L m) (q := n - 1) (by rw [rows_len]; omega) h
    rw [show n - 1 + 1 = n by omega] at this
    exact this.symm
 have h1 := Owns.shrink (owns_put ho r1 (by omega) 0 (.slice A n cA)) hn
 rw [e] at h1
 exact ⟨A, n, cA, rfl, h1.wider (by omega) (by simp), hb.setCell (by simp) _⟩
set_option maxHeartbeats 8000000 in
theorem l2Plain (S : Option Addr) (m c : Nat) (ss : List (List Int)) (w : World) (h : Segs w w.heap.size S m ss) (ht : tot ss ≤ 1048576) :
  Calls Try.prog 56 #[.agg #[.slice S m c]] w (AnsSubst w (plainL (givesL ss) m)) := by
 have HT := hid ht
 have hm : m ≤ 1048576 := tot_len h.1 ht
 have HE := hid (tot_each ht)
 clear ht
 go_enter Try.func56, Try.ntmps56
 go_wp2_with fail
 go_loopw [4] (fun i wr => HeadL1 w S m c ss i wr) (fun i _ => m - (intOf i).toNat)
 case atStart =>
  have b0 : Below w.heap.size w (((w.alloc (.cells #[.slice S m c] 39)).alloc (.cells #[.slice none 0 0] 39)).alloc (.cells #[.slice none 0 0] 39)) := (((Below.refl _ _).alloc (Nat.le_refl _) _).alloc (by simp) _).alloc (by simp; omega) _
  have q1 := Row.new (w.alloc (.cells #[.slice S m c] 39)) 39 #[.slice none 0 0]
  have q2 := Row.new ((w.alloc (.cells #[.slice S m c] 39)).alloc (.cells #[.slice none 0 0] 39)) 39 #[.slice none 0 0]
  refine ⟨0, none, 0, Nat.zero_le _, rfl, by simpa [rowsL] using Owns.nil _ _ _, ((Row.new w 39 #[.slice S m c]).alloc _).alloc _, ?_, ?_, b0⟩
  ·have := q1.alloc (.cells #[.slice none 0 0] 39); simpa using this
  ·simpa using q2
 case round =>
  obtain ⟨k, A, cA, hk, rfl, ho, r0, r1, r2, hb⟩ := hrel
  have c0 : wr.cell? ⟨w.heap.size, 0, none⟩ = some (.slice S m c) := r0.cell 0
  have cO : wr.cell? ⟨w.heap.size + 2, 0, none⟩ = some (.slice A k cA) := r2.cell 0
  have i0 : (0 : Int) ≤ (k : Int) := by omega
  by_cases hlt : k < m
  ·have i1 : (k : Int) < (m : Int) := by omega
   have LG := hid (l2Gives S m c ss k wr ((h.below hb).more hb.size) HT.out (by omega))
   have HA : Hid (∀ z, blk A = some z → w.heap.size + 3 ≤ z) := hid (fun z hz => by
    obtain ⟨vs, hown, _⟩ := ho.row
    exact (World.ownsRow.lt hown z (by rw [blk_own]; exact hz)).1)
   have hw1 : IntKind.i64.wrap (-1 - (k : Int)) = -1 - (k : Int) := by rw [IntKind.wrap_i64]; omega
   have hrl := r2.lt
   obtain ⟨ys, hys⟩ : ∃ ys, givesL ss k = ys := ⟨_, rfl⟩
   rw [hys] at LG
   have hlen : ys.length ≤ 1048576 := by
    rw [← hys]
    unfold givesL
    split
    ·simp [vt]
    ·exact HE.out k
   have RS := hid (rows_succ (givesL ss) k)
   by_cases h1 : ys.length = 1
   ·obtain ⟨x, rfl⟩ : ∃ x, ys = [x] := by
     match ys, h1 with
     | [x], _ => exact ⟨x, rfl⟩
    by_cases hx : x = -1 - (k : Int)
    ·have RB := hid (show bare (givesL ss) k = [] by unfold bare; rw [if_pos (by rw [hys, hx]; rfl)])
     have DX : (x == -1 - (k : Int)) = true := by simp [hx]
     clear hx hys
     go_wp2_with (first
      | (go_at_call 73; go_must (refine LG.out.mono ?_; rintro e w1 ⟨D, dn, dc, rfl, od, bb⟩; obtain rfl : dn = 1 := Own.len od; obtain ⟨gD, rfl, cD⟩ := own_one od; have cO1 : w1.cell? ⟨w.heap.size + 2, 0, none⟩ = some (.slice A k cA) := (r2.next bb).cell 0; have e5 : ((w1.alloc (.cells #[] 2)).alloc (.cells #[.slice (some ⟨w1.heap.size, 0, none⟩) 0 0] 22)).cell? ⟨w1.heap.size + 1, 0, none⟩ = some (.slice (some ⟨w1.heap.size, 0, none⟩) 0 0) := (by simp); have c15 : (w1.alloc (.cells #[] 2)).cell? ⟨w.heap.size + 2, 0, none⟩ = some (.slice A k cA) := ((r2.next bb).alloc (.cells #[] 2)).cell 0; have B5 : Below w1.heap.size w1 ((w1.alloc (.cells #[] 2)).alloc (.cells #[.slice (some ⟨w1.heap.size, 0, none⟩) 0 0] 22)) := ((Below.refl _ _).alloc (Nat.le_refl _) _).alloc (by simp) _; have hz5 := B5.size; have hz1 := bb.size; have ho5 := (ho.next bb).next B5; have i5 : Inn ((w1.alloc (.cells #[] 2)).alloc (.cells #[.slice (some ⟨w1.heap.size, 0, none⟩) 0 0] 22)) wr.heap.size ((w1.alloc (.cells #[] 2)).alloc (.cells #[.slice (some ⟨w1.heap.size, 0, none⟩) 0 0] 22)).heap.size (.slice (some ⟨w1.heap.size, 0, none⟩) 0 0) [] := Inn.wider ((inn_own (own_empty w1 wr.heap.size bb.size)).next ((Below.refl _ _).alloc (Nat.le_refl _) _)) (Nat.le_refl _) (by simp); have r25 := (r2.next bb).next B5; have c25 : ((w1.alloc (.cells #[] 2)).alloc (.cells #[.slice (some ⟨w1.heap.size, 0, none⟩) 0 0] 22)).cell? ⟨w.heap.size + 2, 0, none⟩ = some (.slice A k cA) := r25.cell 0))
      | (at_builtin; go_must (refine appS1 rfl _ _ rfl (w.heap.size + 3) wr.heap.size A k cA (rowsL (givesL ss) k) rfl ho5 _ 1 (.slice (some ⟨w1.heap.size, 0, none⟩) 0 0) [] rfl e5 i5 (by omega) (by omega) (by omega) ?_; intro A' c' w6 ho6 hg6 hat6 b6; have q2 := Row.away r25 hg6 (fun e => by have := HA.out _ e; omega); have c26 : w6.cell? ⟨w.heap.size + 2, 0, none⟩ = some (.slice A k cA) := q2.cell 0; have f26 : w6.frozen? ⟨w.heap.size + 2, 0, none⟩ = false := q2.free 0)))
     have S := hid (headL1_step (ss := ss) hlt (by rw [RS.out, RB.out]; exact ho6) r0 r1 r2 hb bb B5 hg6 HA.out)
     clear ho6 hg6 hat6 b6 ho5 i5 r25 c25 c15 q2 od bb B5 r0 r1 r2 hb ho RS RB LG cO1
     go_wp2
     go_roundw
     case rel => exact S.out
     case measure => simp [intOf]; omega
    ·have RB := hid (show bare (givesL ss) k = [x] by unfold bare; rw [if_neg (by rw [hys]; unfold vt; intro e; injection e with e; exact hx e), hys])
     have DX : (x == -1 - (k : Int)) = false := by simp [hx]
     clear hx hys
     go_wp2_with (first
      | (go_at_call 73; refine LG.out.mono ?_; rintro e w1 ⟨D, dn, dc, rfl, od, bb⟩; obtain rfl : dn = 1 := Own.len od; obtain ⟨gD, rfl, cD⟩ := own_one od; have cO1 : w1.cell? ⟨w.heap.size + 2, 0, none⟩ = some (.slice A k cA) := (r2.next bb).cell 0; have B5 : Below w1.heap.size w1 (w1.alloc (.cells #[.slice (some ⟨gD, 0, none⟩) 1 dc] 22)) := (Below.refl _ _).alloc (Nat.le_refl _) _; have hz5 := B5.size; have hz1 := bb.size; have ho5 := (ho.next bb).next B5; have i5 : Inn (w1.alloc (.cells #[.slice (some ⟨gD, 0, none⟩) 1 dc] 22)) wr.heap.size (w1.alloc (.cells #[.slice (some ⟨gD, 0, none⟩) 1 dc] 22)).heap.size (.slice (some ⟨gD, 0, none⟩) 1 dc) [x] := Inn.wider ((inn_own od).next ((Below.refl _ _).alloc (Nat.le_refl _) _)) (Nat.le_refl _) (by simp); have r25 := (r2.next bb).next B5; have c25 : (w1.alloc (.cells #[.slice (some ⟨gD, 0, none⟩) 1 dc] 22)).cell? ⟨w.heap.size + 2, 0, none⟩ = some (.slice A k cA) := r25.cell 0)
      | (at_builtin; refine appS1 rfl _ _ rfl (w.heap.size + 3) wr.heap.size A k cA (rowsL (givesL ss) k) rfl ho5 _ 1 (.slice (some ⟨gD, 0, none⟩) 1 dc) [x] rfl ((Row.new _ _ _).cell 0) i5 (by omega) (by omega) (by omega) ?_; intro A' c' w6 ho6 hg6 hat6 b6; have q2 := Row.away r25 hg6 (fun e => by have := HA.out _ e; omega); have c26 : w6.cell? ⟨w.heap.size + 2, 0, none⟩ = some (.slice A k cA) := q2.cell 0; have f26 : w6.frozen? ⟨w.heap.size + 2, 0, none⟩ = false := q2.free 0))
     have S := hid (headL1_step (ss := ss) hlt (by rw [RS.out, RB.out]; exact ho6) r0 r1 r2 hb bb B5 hg6 HA.out)
     clear ho6 hg6 hat6 b6 ho5 i5 r25 c25 q2 od bb B5 r0 r1 r2 hb ho RS RB LG cO1
     go_wp2
     go_roundw
     case rel => exact S.out
     case measure => simp [intOf]; omega
   ·have RB := hid (show bare (givesL ss) k = ys by unfold bare; rw [if_neg (by rw [hys]; unfold vt; intro e; rw [e] at h1; exact h1 rfl), hys])
    clear hys
    go_wp2_with (first
     | (go_at_call 73; refine LG.out.mono ?_; rintro e w1 ⟨D, dn, dc, rfl, od, bb⟩; have hdn : ¬ dn = 1 := (by rw [Own.len od]; exact h1); have hdz : ¬ (dn : Int) = 1 := (by omega); have hdb : (((dn : Nat) : Int) == 1) = false := (by simp; omega); have cO1 : w1.cell? ⟨w.heap.size + 2, 0, none⟩ = some (.slice A k cA) := (r2.next bb).cell 0; have B5 : Below w1.heap.size w1 (w1.alloc (.cells #[.slice D dn dc] 22)) := (Below.refl _ _).alloc (Nat.le_refl _) _; have hz5 := B5.size; have hz1 := bb.size; have ho5 := (ho.next bb).next B5; have i5 : Inn (w1.alloc (.cells #[.slice D dn dc] 22)) wr.heap.size (w1.alloc (.cells #[.slice D dn dc] 22)).heap.size (.slice D dn dc) ys := Inn.wider ((inn_own od).next ((Below.refl _ _).alloc (Nat.le_refl _) _)) (Nat.le_refl _) (by simp); have r25 := (r2.next bb).next B5; have c25 : (w1.alloc (.cells #[.slice D dn dc] 22)).cell? ⟨w.heap.size + 2, 0, none⟩ = some (.slice A k cA) := r25.cell 0)
     | (at_builtin; refine appS1 rfl _ _ rfl (w.heap.size + 3) wr.heap.size A k cA (rowsL (givesL ss) k) rfl ho5 _ 1 (.slice D dn dc) ys rfl ((Row.new _ _ _).cell 0) i5 (by omega) (by omega) (by omega) ?_; intro A' c' w6 ho6 hg6 hat6 b6; have q2 := Row.away r25 hg6 (fun e => by have := HA.out _ e; omega); have c26 : w6.cell? ⟨w.heap.size + 2, 0, none⟩ = some (.slice A k cA) := q2.cell 0; have f26 : w6.frozen? ⟨w.heap.size + 2, 0, none⟩ = false := q2.free 0))
    have S := hid (headL1_step (ss := ss) hlt (by rw [RS.out, RB.out]; exact ho6) r0 r1 r2 hb bb B5 hg6 HA.out)
    clear ho6 hg6 hat6 b6 ho5 i5 r25 c25 q2 od bb B5 r0 r1 r2 hb ho RS RB LG cO1
    go_wp2
    go_roundw
    case rel => exact S.out
    case measure => simp [intOf]; omega
  ·obtain rfl : k = m := by omega
   have HC := hid ho.cap
   have H2 : HeadL2 w (givesL ss) k A cA (.pointer (some ⟨w.heap.size + 2, 0, none⟩)) wr := ⟨k, Nat.le_refl _, rfl, by rw [List.take_of_length_le (by rw [rows_len]; exact Nat.le_refl _)]; rfl, ho, r1, r2, hb⟩
   have HH2 := hid H2
   have hc1 : cA ≤ 9223372036854775807 := ho.cap.2.1
   have hc0 : k ≤ cA := ho.cap.1
   clear H2 ho r0 r1 r2 hb cO h
   go_wp2_with fail
   go_loopw [] (fun wr => HeadL2 w (givesL ss) k A cA (.pointer (some ⟨w.heap.size + 2, 0, none⟩)) wr) (fun wr => lenAt wr ⟨w.heap.size + 2, 0, none⟩)
   case atStart => exact HH2.out
   case round =>
    obtain ⟨n, hn, -, hs, ho, r1, r2, hb⟩ := hrel
    clear HH2
    have cO : wr.cell? ⟨w.heap.size + 2, 0, none⟩ = some (.slice A n cA) := r2.cell 0
    have fO : wr.frozen? ⟨w.heap.size + 2, 0, none⟩ = false := r2.free 0
    have cR : wr.cell? ⟨w.heap.size + 1, 0, none⟩ = some (.slice none 0 0) := r1.cell 0
    have fR : wr.frozen? ⟨w.heap.size + 1, 0, none⟩ = false := r1.free 0
    by_cases h0 : n = 0
    ·subst h0
     have F := hid (headL2_end hn hs ho r1 hb (.inl rfl))
     clear hs ho r1 r2 hb
     go_wp2
     exact bodyPost_ret (v := .agg #[.slice A 0 cA]) (by simp [results, Try.results56, go_sem, cR]) rfl F.out
    ·obtain ⟨p, rfl⟩ : ∃ p, n = p + 1 := ⟨n - 1, by omega⟩
     obtain ⟨b, off, A', q, cq, rfl, hbb, hx, hseg, hcap⟩ := ho.segs.spot (k := p) (by omega)
     have p0 : (0 : Int) ≤ (p : Int) := by omega
     have p1 : ((p + 1 : Nat) : Int) - 1 = (p : Int) := by omega
     have p2 : (p : Int) ≤ (cA : Int) := by omega
     have p3 : (p : Int) < ((p + 1 : Nat) : Int) := by omega
     have p4 : (0 : Int) < ((p + 1 : Nat) : Int) := by omega
     have hw2 : IntKind.i64.wrap (p : Int) = (p : Int) := by rw [IntKind.wrap_i64]; omega
     by_cases hq : q = 0
     ·subst hq
      have hnil : (rowsL (givesL ss) k).getD p [] = [] := List.eq_nil_of_length_eq_zero hseg.1
      have S1 : HeadL2 w (givesL ss) k (some ⟨b, off, none⟩) cA (.pointer (some ⟨w.heap.size + 2, 0, none⟩)) (wr.setCell ⟨w.heap.size + 2, 0, none⟩ (.slice (some ⟨b, off, none⟩) p cA)) := by
       refine ⟨p, by omega, rfl, by rw [← strip_drop (by rw [rows_len]; omega) hnil]; exact hs, ?_, r1.far (by simp) _, ?_, hb.setCell (by simp) _⟩
       ·have := owns_put ho r2 (by omega) 0 (.slice (some ⟨b, off, none⟩) p cA)
        simpa using this
       ·have := r2.put 0 (.slice (some ⟨b, off, none⟩) p cA)
        simpa using this
      have HS1 := hid S1
      have E1 : (wr.setCell ⟨w.heap.size + 2, 0, none⟩ (.slice (some ⟨b, off, none⟩) p cA)).cell? ⟨w.heap.size + 2, 0, none⟩ = some (.slice (some ⟨b, off, none⟩) p cA) := by have := (r2.put 0 (.slice (some ⟨b, off, none⟩) p cA)).cell 0; simpa using this
      have HLT := hid (show lenAt (wr.setCell ⟨w.heap.size + 2, 0, none⟩ (.slice (some ⟨b, off, none⟩) p cA)) ⟨w.heap.size + 2, 0, none⟩ < lenAt wr ⟨w.heap.size + 2, 0, none⟩ by simp only [lenAt, E1, cO]; omega)
      clear S1 E1 hs ho r1 r2 hb hseg hcap hnil
      go_wp2
      go_roundw
      case rel => exact HS1.out
      case measure => exact HLT.out
     ·have hq1 : (0 : Int) < (q : Int) := by omega
      have F := hid (headL2_end hn hs ho r1 hb (.inr (fun e => by rw [show p + 1 - 1 = p by omega] at e; rw [e] at hseg; exact hq hseg.1.symm)))
      clear hs ho r1 r2 hb hseg hcap
      go_wp2
      exact bodyPost_ret (v := .agg #[.slice (some ⟨b, off, none⟩) (p + 1) cA]) (by simp [results, Try.results56, go_sem, cR]) rfl F.out
theorem tot_le {xss : List (List Int)} {M : Nat} (h : ∀ j, (xss.getD j []).length ≤ M) : tot xss ≤ xss.length + xss.length * M := by
 have : ∀ k, k ≤ xss.length → sumL xss k ≤ k * M := fun k => by
  induction k with
  | zero => intro _; simp [sumL]
  | succ k ih =>
   intro hk
   rw [sumL_succ (by omega)]
   have h1 := ih (by omega)
   have h2 := h k
   rw [Nat.succ_mul]
   omega
 unfold tot
 have := this xss.length (Nat.le_refl _)
 omega
end plainOf
end
section
namespace compMath
open term termOk termFacts segsHelp fillMath substOk gives plainMath plainOf
def compL (us ss : List (List Int)) (i : Nat) : List Int := fillL (givesL us) (givesL ss i)
def compOk (us ss : List (List Int)) : Bool := (List.range 24).all fun i => decide ((compL us ss i).length ≤ 60)
def composedB (sg : List Int) (ss us : List (List Int)) : Bool := substOkB sg ss && (substOkB sg us && compOk us ss)
def composedI (sg : List Int) (ss us : List (List Int)) : List (List Int) := if composedB sg ss us = true then plainL (compL us ss) 24 else []
theorem composed_yes {sg : List Int} {ss us : List (List Int)} (h : composedB sg ss us = true) : composedI sg ss us = plainL (compL us ss) 24 := by unfold composedI; rw [if_pos h]
theorem compOk_iff {us ss : List (List Int)} : compOk us ss = true ↔ ∀ i, i < 24 → (compL us ss i).length ≤ 60 := by
 unfold compOk
 rw [List.all_eq_true]
 exact ⟨fun h i hi => of_decide_eq_true (h i (List.mem_range.2 hi)), fun h i hi => decide_eq_true (h i (List.mem_range.1 hi))⟩
theorem comp_out {us ss : List (List Int)} {i : Nat} (h : ss.length ≤ i) (h' : us.length ≤ i) : compL us ss i = vt i := by
 unfold compL
 rw [gives_out (by omega)]
 unfold vt
 rw [fill_cons, fill_nil, List.append_nil, rep_var (by omega), show (-1 - (-1 - (i : Int))).toNat = i by omega, gives_out (by omega)]
 rfl
theorem comp_pos (us ss : List (List Int)) (i : Nat) : 1 ≤ (compL us ss i).length := by
 have h1 := fill_ge (gives_pos us) (givesL ss i)
 have h2 := gives_pos ss i
 unfold compL
 omega
def outL (us ss : List (List Int)) (k : Nat) : List (List Int) := (List.range k).map (compL us ss)
theorem out_len (us ss : List (List Int)) (k : Nat) : (outL us ss k).length = k := by simp [outL]
theorem out_get {us ss : List (List Int)} {k i : Nat} (h : i < k) : (outL us ss k).getD i [] = compL us ss i := by simp [outL, List.getD, h]
theorem out_succ (us ss : List (List Int)) (k : Nat) : outL us ss (k + 1) = outL us ss k ++ [compL us ss k] := by simp [outL, List.range_succ]
theorem out_gives {us ss : List (List Int)} {k i : Nat} (h : i < k) : givesL (outL us ss k) i = compL us ss i := by
 have := comp_pos us ss i
 rw [gives_term (by rw [out_get h]; omega), out_get h]
end compMath
end
section
open Go.Lib (hid)
namespace shifted
open Go.RowKit base ints sig term termOk marks app sym segs termFacts varsMath fillMath Go.Proofs.Ytobedfmagjgdcaa.look
set_option maxRecDepth 100000
def AnsPairS (w : World) (ys : List Int) (b : Bool) (e : Ending) (w' : World) : Prop := ∃ A n c, e = .returned (.tuple #[.slice A n c, .bool b]) ∧ Seg w' w'.heap.size A n ys ∧ Below w.heap.size w w'
def AnsPairO (w : World) (ys : List Int) (b : Bool) (e : Ending) (w' : World) : Prop := ∃ A n c, e = .returned (.tuple #[.slice A n c, .bool b]) ∧ Own w' w.heap.size (.slice A n c) ys ∧ Below w.heap.size w w'
theorem shifted_no {sg t : List Int} {k : Int} (h : termOkB sg t = false ∨ ¬ (0 ≤ k ∧ k ≤ 24) ∨ shiftB k t = false) : shiftedB sg t k = false := by
 unfold shiftedB
 rcases h with h | h | h
 ·rw [h]; rfl
 ·rw [decide_eq_false h, Bool.and_false, Bool.false_and]
 ·rw [h, Bool.and_false]
theorem shifted_yes {sg t : List Int} {k : Int} (h1 : termOkB sg t = true) (h2 : 0 ≤ k ∧ k ≤ 24) (h3 : shiftB k t = true) : shiftedB sg t k = true := by unfold shiftedB; rw [h1, h3, decide_eq_true h2]; rfl
theorem pairS_no {w w' : World} {sg t : List Int} {k : Int} {A : Option Addr} {c : Nat} (h : shiftedB sg t k = false) (hb : Below w.heap.size w w') : AnsPairS w (shiftedL sg t k) (shiftedB sg t k) (.returned (.tuple #[.slice A 0 c, .bool false])) w' :=
 ⟨A, 0, c, by rw [h], by unfold shiftedL; rw [if_neg (by rw [h]; simp)]; exact Seg.empty, hb⟩
def HeadSh (w : World) (m : Nat) (t : List Int) (k : Int) (out i : Value) (wr : World) : Prop :=
 ∃ (j : Nat) (O : Option Addr) (on oc : Nat), j ≤ m ∧ i = .int .i64 j ∧ out = .slice O on oc ∧ Own wr w.heap.size (.slice O on oc) (shiftL k (t.take j)) ∧ (∀ q, q < j → -24 ≤ sh k (t.getD q 0)) ∧ Below w.heap.size w wr
set_option maxHeartbeats 4000000 in
theorem specShifted (A A' : Option Addr) (n c m c' : Nat) (sg t : List Int) (k : Int) (w : World) (h : Seg w w.heap.size A n sg) (h' : Seg w w.heap.size A' m t) (hn : n ≤ 1048576) (hm : m ≤ 1048576) (_ : -9223372036854775808 ≤ k) (_ : k ≤ 9223372036854775807) :
  Calls Try.prog 63 #[.agg #[.slice A n c], .slice A' m c', .int .i64 k] w (AnsPairS w (shiftedL sg t k) (shiftedB sg t k)) := by
 obtain ⟨W, hW⟩ : ∃ W, W = w.alloc (.cells #[.slice A n c] 29) := ⟨_, rfl⟩
 have bel : Below w.heap.size w W := by rw [hW]; exact (Below.refl _ _).alloc (Nat.le_refl _) _
 have s := (h.below bel).more bel.size
 have s' := (h'.below bel).more bel.size
 have HW := hid hW
 have HL := hid h'.1
 have L := hid (specTermOk A A' n c m c' sg t W s s' hn hm)
 clear hW h s
 cases hok : termOkB sg t with
 | false =>
  have HS := hid hok
  clear hok s' h'
  go_enter Try.func63, Try.ntmps63
  go_wp2_with fail
  rw [← HW.out]
  refine L.out.mono ?_
  rintro e w1 ⟨he, bb⟩
  rw [HS.out] at he
  subst he
  have F := hid (pairS_no (A := some ⟨w1.heap.size, 0, none⟩) (c := 0) (shifted_no (k := k) (.inl HS.out)) ((next_trans bel bb).alloc (next_trans bel bb).size (.cells #[] 2)))
  clear bb bel
  go_wp2
  go_ret2
  exact F.out
 | true =>
  have HS := hid hok
  have HV := hid (fun x hx => term_mem (x := x) hok hx)
  clear hok s'
  by_cases hk : 0 ≤ k ∧ k ≤ 24
  ·go_enter Try.func63, Try.ntmps63
   go_wp2_with fail
   rw [← HW.out]
   refine L.out.mono ?_
   rintro e w1 ⟨he, bb⟩
   rw [HS.out] at he
   subst he
   replace bel := next_trans bel bb
   clear bb L
   go_wp2_with fail
   refine (inYes _ _ _ _ hk).mono ?_
   rintro e w' ⟨rfl, rfl⟩
   obtain ⟨hk0, hk1⟩ := hk
   have S0 : HeadSh w m t k (.slice (some ⟨w1.heap.size, 0, none⟩) 0 0) (.int .i64 0) (w1.alloc (.cells #[] 2)) := ⟨0, _, 0, 0, Nat.zero_le _, rfl, rfl, by simpa [shiftL] using own_empty w1 w.heap.size bel.size, fun q hq => absurd hq (Nat.not_lt_zero _), bel.alloc bel.size _⟩
   have HS0 := hid S0
   clear S0 bel
   go_wp2_with fail
   go_loopw [8, 9] (fun out i wr => HeadSh w m t k out i wr) (fun _ i _ => m - (intOf i).toNat)
   case atStart => exact HS0.out
   case round =>
    obtain ⟨j, O, on, oc, hj, rfl, rfl, ho, hlow, hb⟩ := hrel
    have HLOW := hid hlow
    clear HS0 hlow
    have hon : on ≤ m := by rw [Own.len ho, shift_len]; simp; omega
    by_cases hlt : j < m
    ·obtain ⟨b, off, x, rfl, hbb, hx, ex⟩ := h'.spot hlt
     have hx1 : wr.cell? ⟨b, off + j, none⟩ = some (.int .i64 x) := (hb.cell (p := ⟨b, off + j, none⟩) hbb).trans hx
     have hmem : x ∈ t := by
      have hkl : j < t.length := by rw [HL.out]; exact hlt
      have := ex.out
      rw [← this]
      simp [List.getD, hkl]
     have hx24 := HV.out x hmem
     obtain ⟨hxa, hxb⟩ := hx24
     have hsz := hb.size
     have E := hid (shift_take (k := k) (t := t) (j := j) (by rw [HL.out]; exact hlt) ex.out)
     clear hx h'
     by_cases hneg : x < 0
     ·have R : sh k x = x - k := by unfold sh; rw [if_pos hneg]
      by_cases hlo : x - k < -24
      ·have F := hid (pairS_no (A := some ⟨wr.heap.size, 0, none⟩) (c := 0) (shifted_no (sg := sg) (k := k) (.inr (.inr (shiftB_no hmem (by rw [R]; exact hlo))))) (hb.alloc hb.size (.cells #[] 2)))
       clear ho hb ex hmem E R
       go_wp2
       go_ret2
       exact F.out
      ·have RH := hid R
       clear R
       go_wp2_with (at_builtin; refine app1 rfl _ _ rfl w.heap.size O on oc (shiftL k (t.take j)) rfl (Own.alloc ho _) wr.heap.size 1 (x - k) rfl ((Row.new _ _ _).cell 0) (by omega) (by simp; omega) ?_; intro O' oc' w2 ho2 b2)
       have S : HeadSh w m t k (.slice O' (on + 1) oc') (.int .i64 ((j : Int) + 1)) w2 := ⟨j + 1, O', on + 1, oc', hlt, by simp, rfl, by rw [E.out, RH.out]; exact ho2, fun q hq => by
        by_cases e : q = j
        ·subst e; rw [ex.out, RH.out]; omega
        ·exact HLOW.out q (by omega), (hb.alloc hsz _).trans b2⟩
       replace S := hid S
       clear ho2 b2 ho hb E ex hmem
       go_wp2
       go_roundw
       case rel => exact S.out
       case measure => simp [intOf]; omega
     ·have RH := hid (show sh k x = x by unfold sh; rw [if_neg hneg])
      have d1 : decide (x < 0) = false := by simp; omega
      have d2 : decide (x < -24) = false := by simp; omega
      go_wp2_with (at_builtin; refine app1 rfl _ _ rfl w.heap.size O on oc (shiftL k (t.take j)) rfl (Own.alloc ho _) wr.heap.size 1 x rfl ((Row.new _ _ _).cell 0) (by omega) (by simp; omega) ?_; intro O' oc' w2 ho2 b2)
      have S : HeadSh w m t k (.slice O' (on + 1) oc') (.int .i64 ((j : Int) + 1)) w2 := ⟨j + 1, O', on + 1, oc', hlt, by simp, rfl, by rw [E.out, RH.out]; exact ho2, fun q hq => by
       by_cases e : q = j
       ·subst e; rw [ex.out, RH.out]; omega
       ·exact HLOW.out q (by omega), (hb.alloc hsz _).trans b2⟩
      replace S := hid S
      clear ho2 b2 ho hb E ex hmem
      go_wp2
      go_roundw
      case rel => exact S.out
      case measure => simp [intOf]; omega
    ·have hB : shiftedB sg t k = true := shifted_yes HS.out ⟨hk0, hk1⟩ (shiftB_yes (fun q hq => HLOW.out q (by rw [HL.out] at hq; omega)))
     have F : AnsPairS w (shiftedL sg t k) (shiftedB sg t k) (.returned (.tuple #[.slice O on oc, .bool true])) wr := by
      rw [List.take_of_length_le (by rw [HL.out]; omega)] at ho
      exact ⟨O, on, oc, by rw [hB], by unfold shiftedL; rw [if_pos hB]; exact Own.seg ho, hb⟩
     have HF := hid F
     clear F ho hb h' hB
     go_wp2
     go_ret2
     exact HF.out
  ·go_enter Try.func63, Try.ntmps63
   go_wp2_with fail
   rw [← HW.out]
   refine L.out.mono ?_
   rintro e w1 ⟨he, bb⟩
   rw [HS.out] at he
   subst he
   replace bel := next_trans bel bb
   clear bb L
   go_wp2_with fail
   refine (inNo _ _ _ _ hk).mono ?_
   rintro e w' ⟨rfl, rfl⟩
   have F := hid (pairS_no (A := some ⟨w1.heap.size, 0, none⟩) (c := 0) (shifted_no (sg := sg) (t := t) (k := k) (.inr (.inl hk))) (bel.alloc bel.size (.cells #[] 2)))
   clear bel hk
   go_wp2
   go_ret2
   exact F.out
theorem lookShift (B : Nat) (k : Int) (w : World) (hr : Row w B 2 #[.int .i64 k]) (h0 : 0 ≤ k) (h1 : k ≤ 24) :
  Looks 97 #[.pointer (some ⟨B, 0, none⟩)] w (fun i => vt (i + k.toNat)) 24 := by
 intro W i hb hi
 have cB : W.cell? ⟨B, 0, none⟩ = some (.int .i64 k) := (hr.next hb).cell 0
 have L := hid (varTerm ((i : Int) + k) W (by omega) (by omega))
 have E := hid (show [-1 - ((i : Int) + k)] = vt (i + k.toNat) by unfold vt; rw [show (((i + k.toNat : Nat)) : Int) = (i : Int) + k by omega])
 clear hr hb
 show Calls Try.prog 97 #[.int .i64 (i : Int), .pointer (some ⟨B, 0, none⟩)] W _
 go_enter Try.func97, Try.ntmps97
 go_wp2_with fail
 refine L.out.mono ?_
 rintro e w1 ⟨A, n, c, rfl, ho, bb⟩
 rw [E.out] at ho
 have F : AnsLook w.heap.size W (vt (i + k.toNat)) (.returned (.slice A n c)) w1 := look_new ho bb
 have HF := hid F
 clear F ho bb L cB
 go_wp2
 go_ret
 exact HF.out
theorem pairO_no {w w' : World} {sg t : List Int} {k : Int} (h : shiftedB sg t k = false) (hb : Below w.heap.size w w') : AnsPairO w (shiftedL sg t k) (shiftedB sg t k) (.returned (.tuple #[.slice none 0 0, .bool false])) w' :=
 ⟨none, 0, 0, by rw [h], by unfold shiftedL; rw [if_neg (by rw [h]; simp)]; exact Own.nil _ _, hb⟩
theorem vt_len (i : Nat) : (vt i).length = 1 := rfl
set_option maxHeartbeats 4000000 in
theorem implShifted (A A' : Option Addr) (n c m c' : Nat) (sg t : List Int) (k : Int) (w : World) (h : Seg w w.heap.size A n sg) (h' : Seg w w.heap.size A' m t) (hn : n ≤ 1048576) (hm : m ≤ 1048576) (_ : -9223372036854775808 ≤ k) (_ : k ≤ 9223372036854775807) :
  Calls Try.prog 65 #[.agg #[.slice A n c], .slice A' m c', .int .i64 k] w (AnsPairO w (shiftedL sg t k) (shiftedB sg t k)) := by
 obtain ⟨W, hW⟩ : ∃ W, W = (w.alloc (.cells #[.slice A n c] 29)).alloc (.cells #[.int .i64 k] 2) := ⟨_, rfl⟩
 have rA : Row W w.heap.size 29 #[.slice A n c] := by rw [hW]; have := (Row.new w 29 #[.slice A n c]).alloc (.cells #[.int .i64 k] 2); simpa using this
 have rK : Row W (w.heap.size + 1) 2 #[.int .i64 k] := by rw [hW]; have := Row.new (w.alloc (.cells #[.slice A n c] 29)) 2 #[.int .i64 k]; simpa using this
 have bel : Below w.heap.size w W := by rw [hW]; exact ((Below.refl _ _).alloc (Nat.le_refl _) _).alloc (by simp) _
 have s := (h.below bel).more bel.size
 have s' := (h'.below bel).more bel.size
 have HW := hid hW
 have HL := hid h'.1
 have L := hid (implTermOk A A' n c m c' sg t W s s' hn hm)
 clear hW h h'
 cases hok : termOkB sg t with
 | false =>
  have HS := hid hok
  clear hok s' s
  go_enter Try.func65, Try.ntmps65
  go_wp2_with fail
  rw [← HW.out]
  refine L.out.mono ?_
  rintro e w1 ⟨he, bb⟩
  rw [HS.out] at he
  subst he
  have F := hid (pairO_no (shifted_no (k := k) (.inl HS.out)) (next_trans bel bb))
  clear bb bel rA rK
  go_wp2
  go_ret2
  exact F.out
 | true =>
  have HS := hid hok
  have HV := hid (fun x hx => (term_mem (x := x) hok hx).1)
  have H60 : m ≤ 60 := by rw [← HL.out]; exact (term_len hok).2
  clear hok
  by_cases hk : 0 ≤ k ∧ k ≤ 24
  ·obtain ⟨hk0, hk1⟩ := hk
   have hmf : ∀ (fn : Fn) (first cap : Array Value) (w : World), (Instr.makeFunc fn first cap).run Try.prog w = .ok (.func fn first cap) w := fun _ _ _ _ => rfl
   go_enter Try.func65, Try.ntmps65
   go_wp2_with fail
   rw [← HW.out]
   refine L.out.mono ?_
   rintro e w1 ⟨he, bb⟩
   rw [HS.out] at he
   subst he
   replace bel := next_trans bel bb
   replace rA := rA.next bb
   replace rK := rK.next bb
   replace s := s.next bb
   replace s' := s'.next bb
   have cK : w1.cell? ⟨w.heap.size + 1, 0, none⟩ = some (.int .i64 k) := rK.cell 0
   have L2 := hid (fill 97 #[.pointer (some ⟨w.heap.size + 1, 0, none⟩)] (enters_of Try.func97 (by kernel_rfl) rfl) A' m c' t _ w1 (lookShift (w.heap.size + 1) k w1 rK hk0 hk1) s' H60 HV.out (fun i => by simp [vt_len]))
   clear bb L s'
   go_wp2_with fail
   refine L2.out.mono ?_
   rintro e w2 ⟨O, on, oc, rfl, ho, bb⟩
   have hsh : fillL (fun i => vt (i + k.toNat)) t = shiftL k t := by rw [shift_fill, show ((k.toNat : Nat) : Int) = k by omega]
   rw [hsh] at ho
   have hon : on ≤ 60 := by rw [Own.len ho, shift_len, HL.out]; exact H60
   replace rA := rA.next bb
   have cA : w2.cell? ⟨w.heap.size, 0, none⟩ = some (.slice A n c) := rA.cell 0
   have L3 := hid (implTermOk A O n c on oc sg (shiftL k t) w2 (s.next bb) (Own.seg ho) hn (by omega))
   have EO := hid (show termOkB sg (shiftL k t) = shiftB k t by have := shift_ok (k := k.toNat) HS.out; rw [show ((k.toNat : Nat) : Int) = k by omega] at this; exact this)
   have bel2 := next_trans bel bb
   have ho2 := Own.lower ho (show w.heap.size ≤ w1.heap.size from bel.size)
   clear bb L2 hsh ho rK cK s
   cases hsb : shiftB k t with
   | false =>
    have HB := hid hsb
    clear hsb
    go_wp2_with fail
    refine L3.out.mono ?_
    rintro e w3 ⟨he, bb⟩
    rw [EO.out, HB.out] at he
    subst he
    have F := hid (pairO_no (shifted_no (sg := sg) (k := k) (.inr (.inr HB.out))) (next_trans bel2 bb))
    clear bb bel2 bel rA cA ho2 hmf L3
    go_wp2
    go_ret2
    exact F.out
   | true =>
    have HB := hid hsb
    clear hsb
    go_wp2_with fail
    refine L3.out.mono ?_
    rintro e w3 ⟨he, bb⟩
    rw [EO.out, HB.out] at he
    subst he
    have hB : shiftedB sg t k = true := shifted_yes HS.out ⟨hk0, hk1⟩ HB.out
    have F : AnsPairO w (shiftedL sg t k) (shiftedB sg t k) (.returned (.tuple #[.slice O on oc, .bool true])) w3 := ⟨O, on, oc, by rw [hB], by unfold shiftedL; rw [if_pos hB]; exact ho2.next bb, next_trans bel2 bb⟩
    have HF := hid F
    clear F bb bel2 bel rA cA ho2 hmf L3 hB
    go_wp2
    go_ret2
    exact HF.out
  ·by_cases hk0 : k < 0
   ·go_enter Try.func65, Try.ntmps65
    go_wp2_with fail
    rw [← HW.out]
    refine L.out.mono ?_
    rintro e w1 ⟨he, bb⟩
    rw [HS.out] at he
    subst he
    have cK : w1.cell? ⟨w.heap.size + 1, 0, none⟩ = some (.int .i64 k) := (rK.next bb).cell 0
    have F := hid (pairO_no (shifted_no (sg := sg) (t := t) (k := k) (.inr (.inl hk))) (next_trans bel bb))
    clear bb bel rA rK hk
    go_wp2
    go_ret2
    exact F.out
   ·have hk1 : 24 < k := by omega
    go_enter Try.func65, Try.ntmps65
    go_wp2_with fail
    rw [← HW.out]
    refine L.out.mono ?_
    rintro e w1 ⟨he, bb⟩
    rw [HS.out] at he
    subst he
    have cK : w1.cell? ⟨w.heap.size + 1, 0, none⟩ = some (.int .i64 k) := (rK.next bb).cell 0
    have F := hid (pairO_no (shifted_no (sg := sg) (t := t) (k := k) (.inr (.inl hk))) (next_trans bel bb))
    clear bb bel rA rK hk
    go_wp2
    go_ret2
    exact F.out
end shifted
end
end Go.Proofs.Ytobedfmagjgdcaa
