/-
  MERGED: my texts UnifRep, Rename, UnifStep, UnifRun, CompMath, TabR, Bind, one behind the other, as they are. By an AI agent.
-/
import Derived.Test.YtkmhnkljigncmaaMFnUnified5
import Derived.Deep.AppendLies
import Derived.Deep.QuietTactic
import Derived.BigQuiet
import Derived.Deep.LoopGhost
import Derived.Deep.RegionHeld3
section
/-
  CONTRACT: impl.unification.replace: one variable replaced in both terms and in the look-up; it panics where one becomes too long. Conditions: the slices read as lists ('Seg'), the terms have at most 60 numbers. By an AI agent.
-/
namespace Go.Proofs.Ytkmhnkljigncmaa.unifRep
open Go.RowKit Go.Proofs.Ytkmhnkljigncmaa.base Go.Proofs.Ytkmhnkljigncmaa.ints Go.Proofs.Ytkmhnkljigncmaa.sig Go.Proofs.Ytkmhnkljigncmaa.cursor Go.Proofs.Ytkmhnkljigncmaa.marks Go.Proofs.Ytkmhnkljigncmaa.app Go.Proofs.Ytkmhnkljigncmaa.sym Go.Proofs.Ytkmhnkljigncmaa.segs Go.Proofs.Ytkmhnkljigncmaa.fillMath Go.Proofs.Ytkmhnkljigncmaa.gives Go.Proofs.Ytkmhnkljigncmaa.unifMath Go.Proofs.Ytkmhnkljigncmaa.look Go.Proofs.Ytkmhnkljigncmaa.thn Go.Proofs.Ytkmhnkljigncmaa.heldT
set_option maxRecDepth 100000

/-- no cell holds a number -/
def NoInt (cs : Array Value) : Prop := ∀ (j : Nat) (z : Int), cs[j]? ≠ some (Value.int .i64 z)
theorem noInt4 {a b c d : Value} (h1 : ∀ z : Int, a ≠ .int .i64 z) (h2 : ∀ z : Int, b ≠ .int .i64 z) (h3 : ∀ z : Int, c ≠ .int .i64 z) (h4 : ∀ z : Int, d ≠ .int .i64 z) : NoInt #[a, b, c, d] := fun j z e => by
  rcases j with _ | _ | _ | _ | j
  · exact h1 z (by simpa using e)
  · exact h2 z (by simpa using e)
  · exact h3 z (by simpa using e)
  · exact h4 z (by simpa using e)
  · simp at e
theorem seg_ne {w : World} {B b off n : Nat} {xs : List Int} {g : Nat} {t : TypeId} {cs : Array Value} (h : Seg w B (some ⟨b, off, none⟩) n xs) (hn : 0 < n) (hr : Row w g t cs) (hno : NoInt cs) : b ≠ g := by
  rintro rfl
  obtain ⟨b', off', e, _, hc⟩ := h.2 hn
  injection e with e
  injection e with e1 e2
  subst e1 e2
  have := hc 0 hn
  rw [hr.cell] at this
  exact hno _ _ this
theorem segE {w w' : World} {n : Nat} {A : Option Addr} {xs : List Int} {g : Nat} {t : TypeId} {cs : Array Value} (h : Seg w w.heap.size A n xs) (hr : Row w g t cs) (hno : NoInt cs) (hg : w.grownBy w' (some g)) : Seg w' w'.heap.size A n xs := by
  refine ⟨h.1, fun hn => ?_⟩
  obtain ⟨b, off, rfl, hb, hc⟩ := h.2 hn
  have hne := seg_ne h hn hr hno
  exact ⟨b, off, rfl, Nat.lt_of_lt_of_le hb hg.size, fun j hj => hg.cell (hc j hj) (by show some b ≠ some g; exact fun e => hne (by injection e))⟩

/-- the unification in block g stands at x, y and the look-up L -/
structure Un (w : World) (g : Nat) (A : Option Addr) (n c : Nat) (sg : List Int) (P : Option Addr) (pn pc : Nat) (x : List Int) (Q : Option Addr) (qn qc : Nat) (y : List Int) (gl : Nat) (lb : Array Value) (L : Nat → List Int) : Prop where
  row : Row w g 68 #[.slice A n c, .slice P pn pc, .slice Q qn qc, .func (.func gl) #[] lb]
  s : Seg w w.heap.size A n sg
  p : Seg w w.heap.size P pn x
  q : Seg w w.heap.size Q qn y
  kp : Cap P pn pc
  kq : Cap Q qn qc
  eg : ∀ args w, (callFunc gl args).run Try.prog w = .ok (.enter gl args) w
  lk : LooksE (some g) gl lb w L 24
section
variable {w w' : World} {g : Nat} {A : Option Addr} {n c : Nat} {sg : List Int} {P : Option Addr} {pn pc : Nat} {x : List Int} {Q : Option Addr} {qn qc : Nat} {y : List Int} {gl : Nat} {lb : Array Value} {L : Nat → List Int}
theorem un_noInt : NoInt #[.slice A n c, .slice P pn pc, .slice Q qn qc, .func (.func gl) #[] lb] := noInt4 (fun _ e => by cases e) (fun _ e => by cases e) (fun _ e => by cases e) (fun _ e => by cases e)
theorem Un.next (h : Un w g A n c sg P pn pc x Q qn qc y gl lb L) (hb : Below w.heap.size w w') : Un w' g A n c sg P pn pc x Q qn qc y gl lb L :=
  ⟨h.row.next hb, h.s.next hb, h.p.next hb, h.q.next hb, h.kp, h.kq, h.eg, h.lk.next (grown_below hb _)⟩
theorem Un.c0 (h : Un w g A n c sg P pn pc x Q qn qc y gl lb L) : w.cell? ⟨g, 0, none⟩ = some (.slice A n c) := h.row.cell 0
theorem Un.c1 (h : Un w g A n c sg P pn pc x Q qn qc y gl lb L) : w.cell? ⟨g, 1, none⟩ = some (.slice P pn pc) := h.row.cell 1
theorem Un.c2 (h : Un w g A n c sg P pn pc x Q qn qc y gl lb L) : w.cell? ⟨g, 2, none⟩ = some (.slice Q qn qc) := h.row.cell 2
theorem Un.c3 (h : Un w g A n c sg P pn pc x Q qn qc y gl lb L) : w.cell? ⟨g, 3, none⟩ = some (.func (.func gl) #[] lb) := h.row.cell 3
end

/-- the look-up of one replacement -/
theorem lookOnce (o : Option Nat) (bi bt i : Nat) (T : Option Addr) (tn tc : Nat) (t : List Int) (w : World) (ni : o ≠ some bi) (nt : o ≠ some bt) (ci : w.cell? ⟨bi, 0, none⟩ = some (.int .i64 (i : Int))) (ct : w.cell? ⟨bt, 0, none⟩ = some (.slice T tn tc)) (hs : Seg w w.heap.size T tn t) (ht : 1 ≤ tn) (hc : Cap T tn tc) (hi : i < 24)
    (hk : ∀ W, w.grownBy W o → Seg W W.heap.size T tn t) :
    LooksE o 146 #[.pointer (some ⟨bi, 0, none⟩), .pointer (some ⟨bt, 0, none⟩)] w (ones i t) 24 := by
  intro W j hg hj
  have pi : W.cell? ⟨bi, 0, none⟩ = some (.int .i64 (i : Int)) := hg.cell ci (fun e => ni e.symm)
  have pt : W.cell? ⟨bt, 0, none⟩ = some (.slice T tn tc) := hg.cell ct (fun e => nt e.symm)
  show Calls Try.prog 146 #[.int .i64 (j : Int), .pointer (some ⟨bi, 0, none⟩), .pointer (some ⟨bt, 0, none⟩)] W _
  have HB : Hid (∀ k, blk T = some k → k < w.heap.size ∨ W.heap.size ≤ k) := Lib.hid fun k e => by
    obtain ⟨b, off, rfl, hb, _⟩ := hs.2 ht
    injection e with e
    exact .inl (by rw [← e]; exact hb)
  by_cases e : j = i
  · subst e
    have F : AnsLook w.heap.size W (ones j t j) (.returned (.slice T tn tc)) W := ⟨T, tn, tc, rfl, by unfold ones; rw [if_pos rfl]; exact hk W hg, hc, HB.out, Below.refl _ _⟩
    have HF := Lib.hid F
    clear F hg hk hs ci ct
    go_enter Try.func146, Try.ntmps146
    go_wp2
    go_ret
    exact HF.out
  · have hne : ((j : Int) == (i : Int)) = false := by simp; exact fun h => e (by omega)
    have HE := Lib.hid (show ones i t j = vt j by unfold ones; rw [if_neg e])
    clear hg hk hs ci ct
    go_enter Try.func146, Try.ntmps146
    go_wp2_with fail
    refine (varTerm (j : Int) W (by omega) (by omega)).mono ?_
    rintro e w' ⟨A, n, c, rfl, ho, hb⟩
    have F : AnsLook w.heap.size W (ones i t j) (.returned (.slice A n c)) w' := by rw [HE.out]; exact look_new ho hb
    have HF := Lib.hid F
    clear F ho hb
    go_wp2
    go_ret
    exact HF.out

/-- what replace leaves: the new state, or a panic where a term is too long -/
def AnsRep (w : World) (g : Nat) (A : Option Addr) (n c : Nat) (sg x y : List Int) (L : Nat → List Int) (e : Ending) (w' : World) : Prop :=
  w.grownBy w' (some g) ∧ ((x.length ≤ 60 ∧ y.length ≤ 60 ∧ e = .returned (.tuple #[]) ∧ ∃ P pn pc Q qn qc gl lb, Un w' g A n c sg P pn pc x Q qn qc y gl lb L) ∨
    (¬ (x.length ≤ 60 ∧ y.length ≤ 60) ∧ ∃ u v, e = .panicked [{ v := .iface u v, recovered := false }]))
/-- behind the assignment -/
def Put (w : World) (g : Nat) (A : Option Addr) (n c : Nat) (sg x y : List Int) (L : Nat → List Int) (w' : World) : Prop :=
  w.grownBy w' (some g) ∧ ∃ P pn pc Q qn qc gl lb, Un w' g A n c sg P pn pc x Q qn qc y gl lb L
theorem put_mk {w w2 w3 w4 w5 : World} {g : Nat} {A : Option Addr} {n c : Nat} {sg : List Int} {P : Option Addr} {pn pc : Nat} {x : List Int} {Q : Option Addr} {qn qc : Nat} {y : List Int} {gl : Nat} {lb : Array Value} {L : Nat → List Int} (h : Un w g A n c sg P pn pc x Q qn qc y gl lb L)
    {X : Option Addr} {xn xc : Nat} {x' : List Int} {Y : Option Addr} {yn yc : Nat} {y' : List Int} {g' : Nat} {lb' : Array Value} {L' : Nat → List Int} (b2 : Below w.heap.size w w2) (b3 : Below w2.heap.size w2 w3) (b4 : Below w3.heap.size w3 w4) (b5 : Below w4.heap.size w4 w5)
    (ox : Own w3 w2.heap.size (.slice X xn xc) x') (oy : Own w4 w3.heap.size (.slice Y yn yc) y') (eg : ∀ args w, (callFunc g' args).run Try.prog w = .ok (.enter g' args) w) (lk : LooksE (some g) g' lb' w5 L' 24) :
    Put w g A n c sg x' y' L' (((w5.setCell ⟨g, 1, none⟩ (.slice X xn xc)).setCell ⟨g, 2, none⟩ (.slice Y yn yc)).setCell ⟨g, 3, none⟩ (.func (.func g') #[] lb')) := by
  have b := next_trans b2 (next_trans b3 (next_trans b4 b5))
  have h5 := h.next b
  have hg : w5.grownBy (((w5.setCell ⟨g, 1, none⟩ (.slice X xn xc)).setCell ⟨g, 2, none⟩ (.slice Y yn yc)).setCell ⟨g, 3, none⟩ (.func (.func g') #[] lb')) (some g) := grown_put (grown_put (grown_put (World.grownBy.refl _ _) _ _) _ _) _ _
  refine ⟨grown_trans (grown_below b _) hg, X, xn, xc, Y, yn, yc, g', lb', ?_, segE h5.s h5.row un_noInt hg, segE ((Own.seg ox).next (next_trans b4 b5)) h5.row un_noInt hg, segE ((Own.seg oy).next b5) h5.row un_noInt hg, own_cap ox, own_cap oy, eg, lk.next hg⟩
  have r := ((h5.row.put 1 (.slice X xn xc)).put 2 (.slice Y yn yc)).put 3 (.func (.func g') #[] lb')
  simpa using r

set_option maxHeartbeats 4000000 in
theorem replace (g : Nat) (A P Q T : Option Addr) (n c pn pc qn qc tn tc gl : Nat) (lb : Array Value) (sg x y t : List Int) (L : Nat → List Int) (i : Nat) (w : World) (h : Un w g A n c sg P pn pc x Q qn qc y gl lb L) (hs : Seg w w.heap.size T tn t) (hc : Cap T tn tc) (ht : 1 ≤ tn) (ht60 : tn ≤ 60) (hi : i < 24) (hx : pn ≤ 60) (hy : qn ≤ 60)
    (vx : ∀ z ∈ x, -24 ≤ z) (vy : ∀ z ∈ y, -24 ≤ z) (hL : ∀ j, j < 24 → (L j).length ≤ 60) (vL : ∀ j, j < 24 → ∀ z ∈ L j, -24 ≤ z) :
    Calls Try.prog 136 #[.pointer (some ⟨g, 0, none⟩), .int .i64 (i : Int), .slice T tn tc] w (AnsRep w g A n c sg (fillL (ones i t) x) (fillL (ones i t) y) (fun m => fillL (ones i t) (L m))) := by
  have hgz := h.row.lt
  obtain ⟨W, hW⟩ : ∃ W, W = (w.alloc (.cells #[.int .i64 (i : Int)] 2)).alloc (.cells #[.slice T tn tc] 24) := ⟨_, rfl⟩
  have bW : Below w.heap.size w W := by rw [hW]; exact ((Below.refl _ _).alloc (Nat.le_refl _) _).alloc (by simp) _
  have ri : Row W w.heap.size 2 #[.int .i64 (i : Int)] := by rw [hW]; exact (Row.new w _ _).alloc _
  have rt : Row W (w.heap.size + 1) 24 #[.slice T tn tc] := by
    rw [hW]
    have := Row.new (w.alloc (.cells #[.int .i64 (i : Int)] 2)) 24 #[.slice T tn tc]
    simpa using this
  have U := h.next bW
  have hsW := hs.next bW
  have lt : t.length ≤ 60 := by rw [hs.1]; exact ht60
  have one60 : ∀ j, (ones i t j).length ≤ 60 := fun j => by unfold ones; split; exact lt; simp [vt]
  have LO : LooksE (some g) 146 #[.pointer (some ⟨w.heap.size, 0, none⟩), .pointer (some ⟨w.heap.size + 1, 0, none⟩)] W (ones i t) 24 :=
    lookOnce (some g) _ _ i T tn tc t W (by simp; omega) (by simp; omega) (ri.cell 0) (rt.cell 0) hsW ht hc hi (fun W' hg => segE hsW U.row un_noInt hg)
  have eo := enters_of Try.func146 (by kernel_rfl) rfl
  have et := enters_of Try.func113 (by kernel_rfl) rfl
  have M1 := Lib.hid (fun j => Nat.le_trans (one60 j) (show 60 ≤ 4096 by omega))
  have LF1 := Lib.hid (fun (w2 : World) (b : Below W.heap.size W w2) => fill _ _ eo P pn pc x (ones i t) w2 (LO.next (grown_below b _)).looks (U.next b).p hx vx M1.out)
  have LF2 := Lib.hid (fun (w3 : World) (b : Below W.heap.size W w3) => fill _ _ eo Q qn qc y (ones i t) w3 (LO.next (grown_below b _)).looks (U.next b).q hy vy M1.out)
  have c1 := U.c1
  have c2 := U.c2
  have c3 := U.c3
  have HW := Lib.hid hW
  have HU := Lib.hid U
  have HLO := Lib.hid LO
  have HBW := Lib.hid bW
  have hmf : ∀ (fn : Fn) (first cap : Array Value) (w : World), (Instr.makeFunc fn first cap).run Try.prog w = .ok (.func fn first cap) w := fun _ _ _ _ => rfl
  clear hW bW ri rt U hsW LO h hs
  go_enter Try.func136, Try.ntmps136
  go_wp2_with fail
  rw [← HW.out]
  go_cut [] (fun wx => Put W g A n c sg (fillL (ones i t) x) (fillL (ones i t) y) (fun m => fillL (ones i t) (L m)) wx)
  case first =>
    have BD : Hid (Below W.heap.size W W.drew) := Lib.hid (Below.refl _ _).drew
    have HV := Lib.hid vL
    have HL60 := Lib.hid hL
    clear vx vy one60 HW hL vL
    -- region
    refine AnyT.start (S := (fun w' => w'.cell? ⟨g, 1, none⟩ = some (.slice P pn pc) ∧ w'.cell? ⟨g, 2, none⟩ = some (.slice Q qn qc) ∧ w'.cell? ⟨g, 3, none⟩ = some (.func (.func gl) #[] lb))) (fun i => decide (21 ≤ i)) (by kernel_rfl) ⟨c1, c2, c3⟩ (fun hHeld => ?_)
    refine AnyT.takeA (i := 0) (v := ?_) rfl (by kernel_rfl) (by kernel_rfl) (by kernel_rfl) (fun _ _ _ h => h) (Or.inl ⟨by rfl, ?_⟩) ?_
    rotate_left 1
    · (intro w0 _; go_simp; try with_reducible rfl)
    try simp only [Act.put, List.setIfInBounds_toArray, List.set_cons_zero, List.set_cons_succ, List.getElem_toArray, List.getElem_cons_zero, List.getElem_cons_succ]
    refine AnyT.takeA (i := 1) (v := ?_) rfl (by kernel_rfl) (by kernel_rfl) (by kernel_rfl) (fun _ _ _ h => h) (Or.inl ⟨by rfl, ?_⟩) ?_
    rotate_left 1
    · (intro w0 _; go_simp; try with_reducible rfl)
    try simp only [Act.put, List.setIfInBounds_toArray, List.set_cons_zero, List.set_cons_succ, List.getElem_toArray, List.getElem_cons_zero, List.getElem_cons_succ]
    refine AnyT.takeA (i := 2) (v := ?_) rfl (by kernel_rfl) (by kernel_rfl) (by kernel_rfl) (fun _ _ _ h => h) (Or.inl ⟨by rfl, ?_⟩) ?_
    rotate_left 1
    · (intro w0 _; go_simp; try with_reducible rfl)
    try simp only [Act.put, List.setIfInBounds_toArray, List.set_cons_zero, List.set_cons_succ, List.getElem_toArray, List.getElem_cons_zero, List.getElem_cons_succ]
    refine AnyT.takeA (i := 3) (v := ?_) rfl (by kernel_rfl) (by kernel_rfl) (by kernel_rfl) (fun _ _ _ h => h) (Or.inl ⟨by rfl, ?_⟩) ?_
    rotate_left 1
    · (intro w0 _; go_simp; try with_reducible rfl)
    try simp only [Act.put, List.setIfInBounds_toArray, List.set_cons_zero, List.set_cons_succ, List.getElem_toArray, List.getElem_cons_zero, List.getElem_cons_succ]
    refine AnyT.takeA (i := 4) (v := ?_) rfl (by kernel_rfl) (by kernel_rfl) (by kernel_rfl) (fun _ _ _ h => h) (Or.inl ⟨by rfl, ?_⟩) ?_
    rotate_left 1
    · (intro w0 _; go_simp; try with_reducible rfl)
    try simp only [Act.put, List.setIfInBounds_toArray, List.set_cons_zero, List.set_cons_succ, List.getElem_toArray, List.getElem_cons_zero, List.getElem_cons_succ]
    refine AnyT.takeA (i := 5) (v := ?_) rfl (by kernel_rfl) (by kernel_rfl) (by kernel_rfl) (fun _ _ _ h => h) (Or.inl ⟨by rfl, ?_⟩) ?_
    rotate_left 1
    · (intro w0 _; go_simp; try with_reducible rfl)
    try simp only [Act.put, List.setIfInBounds_toArray, List.set_cons_zero, List.set_cons_succ, List.getElem_toArray, List.getElem_cons_zero, List.getElem_cons_succ]
    refine AnyT.takeA (i := 6) (v := ?_) rfl (by kernel_rfl) (by kernel_rfl) (by kernel_rfl) (fun _ _ _ h => h) (Or.inl ⟨by rfl, ?_⟩) ?_
    rotate_left 1
    · (intro w0 _; go_simp; try with_reducible rfl)
    try simp only [Act.put, List.setIfInBounds_toArray, List.set_cons_zero, List.set_cons_succ, List.getElem_toArray, List.getElem_cons_zero, List.getElem_cons_succ]
    refine AnyT.take (i := 7) (v := ?_) rfl (by kernel_rfl) (by kernel_rfl) (by kernel_rfl) (by kernel_rfl) (fun _ _ _ h => h) (Or.inl ⟨by rfl, ?_⟩) (by assumption) ?_
    rotate_left 1
    · (intro w0 hSw; (try dsimp only at hSw); go_simp; try with_reducible rfl)
    try simp only [Act.put, List.setIfInBounds_toArray, List.set_cons_zero, List.set_cons_succ, List.getElem_toArray, List.getElem_cons_zero, List.getElem_cons_succ]
    refine AnyT.takeA (i := 9) (v := ?_) rfl (by kernel_rfl) (by kernel_rfl) (by kernel_rfl) (fun _ _ _ h => h) (Or.inl ⟨by rfl, ?_⟩) ?_
    rotate_left 1
    · (intro w0 _; go_simp; try with_reducible rfl)
    try simp only [Act.put, List.setIfInBounds_toArray, List.set_cons_zero, List.set_cons_succ, List.getElem_toArray, List.getElem_cons_zero, List.getElem_cons_succ]
    refine AnyT.takeA (i := 10) (v := ?_) rfl (by kernel_rfl) (by kernel_rfl) (by kernel_rfl) (fun _ _ _ h => h) (Or.inl ⟨by rfl, ?_⟩) ?_
    rotate_left 1
    · (intro w0 _; go_simp; try with_reducible rfl)
    try simp only [Act.put, List.setIfInBounds_toArray, List.set_cons_zero, List.set_cons_succ, List.getElem_toArray, List.getElem_cons_zero, List.getElem_cons_succ]
    refine AnyT.takeA (i := 11) (v := ?_) rfl (by kernel_rfl) (by kernel_rfl) (by kernel_rfl) (fun _ _ _ h => h) (Or.inl ⟨by rfl, ?_⟩) ?_
    rotate_left 1
    · (intro w0 _; go_simp; try with_reducible rfl)
    try simp only [Act.put, List.setIfInBounds_toArray, List.set_cons_zero, List.set_cons_succ, List.getElem_toArray, List.getElem_cons_zero, List.getElem_cons_succ]
    refine AnyT.takeA (i := 12) (v := ?_) rfl (by kernel_rfl) (by kernel_rfl) (by kernel_rfl) (fun _ _ _ h => h) (Or.inl ⟨by rfl, ?_⟩) ?_
    rotate_left 1
    · (intro w0 _; go_simp; try with_reducible rfl)
    try simp only [Act.put, List.setIfInBounds_toArray, List.set_cons_zero, List.set_cons_succ, List.getElem_toArray, List.getElem_cons_zero, List.getElem_cons_succ]
    refine AnyT.take (i := 13) (v := ?_) rfl (by kernel_rfl) (by kernel_rfl) (by kernel_rfl) (by kernel_rfl) (fun _ _ _ h => h) (Or.inl ⟨by rfl, ?_⟩) (by assumption) ?_
    rotate_left 1
    · (intro w0 hSw; (try dsimp only at hSw); go_simp; try with_reducible rfl)
    try simp only [Act.put, List.setIfInBounds_toArray, List.set_cons_zero, List.set_cons_succ, List.getElem_toArray, List.getElem_cons_zero, List.getElem_cons_succ]
    refine AnyT.takeA (i := 15) (v := ?_) rfl (by kernel_rfl) (by kernel_rfl) (by kernel_rfl) (fun _ _ _ h => h) (Or.inl ⟨by rfl, ?_⟩) ?_
    rotate_left 1
    · (intro w0 _; go_simp; try with_reducible rfl)
    try simp only [Act.put, List.setIfInBounds_toArray, List.set_cons_zero, List.set_cons_succ, List.getElem_toArray, List.getElem_cons_zero, List.getElem_cons_succ]
    refine AnyT.takeA (i := 16) (v := ?_) rfl (by kernel_rfl) (by kernel_rfl) (by kernel_rfl) (fun _ _ _ h => h) (Or.inl ⟨by rfl, ?_⟩) ?_
    rotate_left 1
    · (intro w0 _; go_simp; try with_reducible rfl)
    try simp only [Act.put, List.setIfInBounds_toArray, List.set_cons_zero, List.set_cons_succ, List.getElem_toArray, List.getElem_cons_zero, List.getElem_cons_succ]
    refine AnyT.takeA (i := 17) (v := ?_) rfl (by kernel_rfl) (by kernel_rfl) (by kernel_rfl) (fun _ _ _ h => h) (Or.inl ⟨by rfl, ?_⟩) ?_
    rotate_left 1
    · (intro w0 _; go_simp; try with_reducible rfl)
    try simp only [Act.put, List.setIfInBounds_toArray, List.set_cons_zero, List.set_cons_succ, List.getElem_toArray, List.getElem_cons_zero, List.getElem_cons_succ]
    refine AnyT.take (i := 18) (v := ?_) rfl (by kernel_rfl) (by kernel_rfl) (by kernel_rfl) (by kernel_rfl) (fun _ _ _ h => h) (Or.inl ⟨by rfl, ?_⟩) (by assumption) ?_
    rotate_left 1
    · (intro w0 hSw; (try dsimp only at hSw); go_simp; try with_reducible rfl)
    try simp only [Act.put, List.setIfInBounds_toArray, List.set_cons_zero, List.set_cons_succ, List.getElem_toArray, List.getElem_cons_zero, List.getElem_cons_succ]
    refine AnyT.takeA (i := 19) (v := ?_) rfl (by kernel_rfl) (by kernel_rfl) (by kernel_rfl) (fun _ _ _ h => h) (Or.inl ⟨by rfl, ?_⟩) ?_
    rotate_left 1
    · (intro w0 _; go_simp; try with_reducible rfl)
    try simp only [Act.put, List.setIfInBounds_toArray, List.set_cons_zero, List.set_cons_succ, List.getElem_toArray, List.getElem_cons_zero, List.getElem_cons_succ]
    refine AnyT.call (i := 8) (by kernel_rfl) rfl (fun K hK => ?_)
    try simp only [Act.put, List.setIfInBounds_toArray, List.set_cons_zero, List.set_cons_succ, List.getElem_toArray, List.getElem_cons_zero, List.getElem_cons_succ]
    rw [if_pos (by rfl)]
    go_simp
    refine (LF1.out W.drew BD.out).mono ?_; rintro e w3 ⟨X, xn, xc, rfl, ox, b3⟩; have U3 := HU.out.next (next_trans BD.out b3); have d1 := U3.c1; have d2 := U3.c2; have d3 := U3.c3; clear U3; go_wp2_with fail
    refine hK.out _ _ (fun _ _ => ?_) (fun hKeep => ?_)
    · first | assumption | exact ⟨by assumption, by assumption⟩ | exact ⟨by assumption, by assumption, by assumption⟩
    replace hHeld := hKeep (by rfl) hHeld
    clear hK K hKeep
    try simp only [Act.put, List.setIfInBounds_toArray, List.set_cons_zero, List.set_cons_succ, List.getElem_toArray, List.getElem_cons_zero, List.getElem_cons_succ]
    refine AnyT.call (i := 14) (by kernel_rfl) rfl (fun K hK => ?_)
    try simp only [Act.put, List.setIfInBounds_toArray, List.set_cons_zero, List.set_cons_succ, List.getElem_toArray, List.getElem_cons_zero, List.getElem_cons_succ]
    rw [if_pos (by rfl)]
    go_simp
    refine (LF2.out w3 (next_trans BD.out b3)).mono ?_; rintro e w4 ⟨Y, yn, yc, rfl, oy, b4⟩; have U4 := HU.out.next (next_trans (next_trans BD.out b3) b4); have e1 := U4.c1; have e2 := U4.c2; have e3 := U4.c3; clear U4; go_wp2_with fail
    refine hK.out _ _ (fun _ _ => ?_) (fun hKeep => ?_)
    · first | assumption | exact ⟨by assumption, by assumption⟩ | exact ⟨by assumption, by assumption, by assumption⟩
    replace hHeld := hKeep (by rfl) hHeld
    clear hK K hKeep
    try simp only [Act.put, List.setIfInBounds_toArray, List.set_cons_zero, List.set_cons_succ, List.getElem_toArray, List.getElem_cons_zero, List.getElem_cons_succ]
    refine AnyT.call (i := 20) (by kernel_rfl) rfl (fun K hK => ?_)
    try simp only [Act.put, List.setIfInBounds_toArray, List.set_cons_zero, List.set_cons_succ, List.getElem_toArray, List.getElem_cons_zero, List.getElem_cons_succ]
    rw [if_pos (by rfl)]
    go_simp
    refine (thenB gl _ lb _ w4).mono ?_; rintro e w5 ⟨b1, b2, rfl, z1, z2, k1, k2, b5⟩; have U5 := HU.out.next (next_trans (next_trans (next_trans BD.out b3) b4) b5); have f1 := U5.c1; have f2 := U5.c2; have f3 := U5.c3; have fr1 := U5.row.free 1; have fr2 := U5.row.free 2; have fr3 := U5.row.free 3; clear U5; go_wp2_with fail
    refine hK.out _ _ (fun _ _ => ?_) (fun hKeep => ?_)
    · first | assumption | exact ⟨by assumption, by assumption⟩ | exact ⟨by assumption, by assumption, by assumption⟩
    replace hHeld := hKeep (by rfl) hHeld
    clear hK K hKeep
    try simp only [Act.put, List.setIfInBounds_toArray, List.set_cons_zero, List.set_cons_succ, List.getElem_toArray, List.getElem_cons_zero, List.getElem_cons_succ]
    refine AnyT.call (i := 21) (by kernel_rfl) rfl (fun K hK => ?_)
    try simp only [Act.put, List.setIfInBounds_toArray, List.set_cons_zero, List.set_cons_succ, List.getElem_toArray, List.getElem_cons_zero, List.getElem_cons_succ]
    rw [if_pos (by rfl)]
    go_simp
    refine hK.out _ _ (fun h => by cases h) (fun _ => ?_)
    clear hK K
    try simp only [Act.put, List.setIfInBounds_toArray, List.set_cons_zero, List.set_cons_succ, List.getElem_toArray, List.getElem_cons_zero, List.getElem_cons_succ]
    refine AnyT.call (i := 22) (by kernel_rfl) rfl (fun K hK => ?_)
    try simp only [Act.put, List.setIfInBounds_toArray, List.set_cons_zero, List.set_cons_succ, List.getElem_toArray, List.getElem_cons_zero, List.getElem_cons_succ]
    rw [if_pos (by rfl)]
    go_simp
    refine hK.out _ _ (fun h => by cases h) (fun _ => ?_)
    clear hK K
    try simp only [Act.put, List.setIfInBounds_toArray, List.set_cons_zero, List.set_cons_succ, List.getElem_toArray, List.getElem_cons_zero, List.getElem_cons_succ]
    refine AnyT.call (i := 23) (by kernel_rfl) rfl (fun K hK => ?_)
    try simp only [Act.put, List.setIfInBounds_toArray, List.set_cons_zero, List.set_cons_succ, List.getElem_toArray, List.getElem_cons_zero, List.getElem_cons_succ]
    rw [if_pos (by rfl)]
    go_simp
    refine hK.out _ _ (fun h => by cases h) (fun _ => ?_)
    clear hK K
    try simp only [Act.put, List.setIfInBounds_toArray, List.set_cons_zero, List.set_cons_succ, List.getElem_toArray, List.getElem_cons_zero, List.getElem_cons_succ]
    refine AnyT.call (i := 24) (by kernel_rfl) rfl (fun K hK => ?_)
    try simp only [Act.put, List.setIfInBounds_toArray, List.set_cons_zero, List.set_cons_succ, List.getElem_toArray, List.getElem_cons_zero, List.getElem_cons_succ]
    rw [if_pos (by rfl)]
    go_simp
    refine hK.out _ _ (fun h => by cases h) (fun _ => ?_)
    clear hK K
    try simp only [Act.put, List.setIfInBounds_toArray, List.set_cons_zero, List.set_cons_succ, List.getElem_toArray, List.getElem_cons_zero, List.getElem_cons_succ]
    refine AnyT.call (i := 25) (by kernel_rfl) rfl (fun K hK => ?_)
    try simp only [Act.put, List.setIfInBounds_toArray, List.set_cons_zero, List.set_cons_succ, List.getElem_toArray, List.getElem_cons_zero, List.getElem_cons_succ]
    rw [if_pos (by rfl)]
    go_simp
    refine hK.out _ _ (fun h => by cases h) (fun _ => ?_)
    clear hK K
    try simp only [Act.put, List.setIfInBounds_toArray, List.set_cons_zero, List.set_cons_succ, List.getElem_toArray, List.getElem_cons_zero, List.getElem_cons_succ]
    refine AnyT.call (i := 26) (by kernel_rfl) rfl (fun K hK => ?_)
    try simp only [Act.put, List.setIfInBounds_toArray, List.set_cons_zero, List.set_cons_succ, List.getElem_toArray, List.getElem_cons_zero, List.getElem_cons_succ]
    rw [if_pos (by rfl)]
    go_simp
    refine hK.out _ _ (fun h => by cases h) (fun _ => ?_)
    clear hK K
    try simp only [Act.put, List.setIfInBounds_toArray, List.set_cons_zero, List.set_cons_succ, List.getElem_toArray, List.getElem_cons_zero, List.getElem_cons_succ]
    refine AnyT.call (i := 27) (by kernel_rfl) rfl (fun K hK => ?_)
    try simp only [Act.put, List.setIfInBounds_toArray, List.set_cons_zero, List.set_cons_succ, List.getElem_toArray, List.getElem_cons_zero, List.getElem_cons_succ]
    rw [if_pos (by rfl)]
    go_simp
    refine hK.out _ _ (fun h => by cases h) (fun _ => ?_)
    clear hK K
    try simp only [Act.put, List.setIfInBounds_toArray, List.set_cons_zero, List.set_cons_succ, List.getElem_toArray, List.getElem_cons_zero, List.getElem_cons_succ]
    refine AnyT.call (i := 28) (by kernel_rfl) rfl (fun K hK => ?_)
    try simp only [Act.put, List.setIfInBounds_toArray, List.set_cons_zero, List.set_cons_succ, List.getElem_toArray, List.getElem_cons_zero, List.getElem_cons_succ]
    rw [if_pos (by rfl)]
    go_simp
    refine hK.out _ _ (fun h => by cases h) (fun _ => ?_)
    clear hK K
    try simp only [Act.put, List.setIfInBounds_toArray, List.set_cons_zero, List.set_cons_succ, List.getElem_toArray, List.getElem_cons_zero, List.getElem_cons_succ]
    refine AnyT.call (i := 29) (by kernel_rfl) rfl (fun K hK => ?_)
    try simp only [Act.put, List.setIfInBounds_toArray, List.set_cons_zero, List.set_cons_succ, List.getElem_toArray, List.getElem_cons_zero, List.getElem_cons_succ]
    rw [if_pos (by rfl)]
    go_simp
    refine hK.out _ _ (fun h => by cases h) (fun _ => ?_)
    clear hK K
    try simp only [Act.put, List.setIfInBounds_toArray, List.set_cons_zero, List.set_cons_succ, List.getElem_toArray, List.getElem_cons_zero, List.getElem_cons_succ]
    refine AnyT.done (by kernel_rfl) ?_ _
    -- end
    have B5 := next_trans (next_trans (next_trans BD.out b3) b4) b5
    have s1 := HBW.out.size
    have s2 := BD.out.size
    have s3 := b3.size
    have s4 := b4.size
    have lk := lookThen (some g) b1 b2 gl _ lb _ HU.out.eg eo L (ones i t) w5 (World.block_lt_of_cell? _ _ k1) (World.block_lt_of_cell? _ _ k2) (fun e => by injection e; omega) (fun e => by injection e; omega) k1 k2 (HU.out.next B5).lk (HLO.out.next (grown_below B5 _)) HL60.out HV.out M1.out
    have F := Lib.hid (put_mk HU.out BD.out b3 b4 b5 ox oy et lk)
    clear lk ox oy b3 b4 b5 B5 k1 k2 f1 f2 f3 fr1 fr2 fr3 hHeld
    go_wp2_with fail
    go_meet
    exact F.out
  case rest =>
    rename World => wc
    obtain ⟨hg, P', pn', pc', Q', qn', qc', gl', lb', U⟩ := hcut
    have HG := Lib.hid (grown_trans (grown_below HBW.out (some g)) hg)
    have hp1 := U.p.1
    have hq1 := U.q.1
    have d1 := U.c1
    have d2 := U.c2
    have np := U.kp.1
    have np2 := U.kp.2.1
    have nq := U.kq.1
    have nq2 := U.kq.2.1
    have L1 := Lib.hid (tooLong P' pn' pc' wc (by omega))
    have L2 := Lib.hid (tooLong Q' qn' qc' wc (by omega))
    have HUW := Lib.hid U
    have HP1 := Lib.hid hp1
    have HQ1 := Lib.hid hq1
    clear U hg hp1 hq1 LF1 LF2 c1 c2 c3 HU HLO HBW vx vy one60 hL vL M1
    by_cases hp : 60 < pn'
    · rw [decide_eq_true hp] at L1
      have F := Lib.hid (fun (u : TypeId) (v : Value) => (show AnsRep w g A n c sg (fillL (ones i t) x) (fillL (ones i t) y) (fun m => fillL (ones i t) (L m)) (.panicked [{ v := .iface u v, recovered := false }]) wc from ⟨HG.out, .inr ⟨fun h => by rw [HP1.out] at h; omega, u, v, rfl⟩⟩))
      clear HUW
      go_wp2_with fail
      refine L1.out.mono ?_
      rintro e w' ⟨rfl, rfl⟩
      go_wp2
      exact ⟨rfl, F.out _ _⟩
    · rw [decide_eq_false hp] at L1
      go_wp2_with fail
      refine L1.out.mono ?_
      rintro e w' ⟨rfl, rfl⟩
      by_cases hq : 60 < qn'
      · rw [decide_eq_true hq] at L2
        have F := Lib.hid (fun (u : TypeId) (v : Value) => (show AnsRep w g A n c sg (fillL (ones i t) x) (fillL (ones i t) y) (fun m => fillL (ones i t) (L m)) (.panicked [{ v := .iface u v, recovered := false }]) wc from ⟨HG.out, .inr ⟨fun h => by rw [HQ1.out] at h; omega, u, v, rfl⟩⟩))
        clear HUW
        go_wp2_with fail
        refine L2.out.mono ?_
        rintro e w' ⟨rfl, rfl⟩
        go_wp2
        exact ⟨rfl, F.out _ _⟩
      · rw [decide_eq_false hq] at L2
        have F := Lib.hid (show AnsRep w g A n c sg (fillL (ones i t) x) (fillL (ones i t) y) (fun m => fillL (ones i t) (L m)) (.returned (.tuple #[])) wc from ⟨HG.out, .inl ⟨by rw [HP1.out]; omega, by rw [HQ1.out]; omega, rfl, P', pn', pc', Q', qn', qc', gl', lb', HUW.out⟩⟩)
        clear HUW
        go_wp2_with fail
        refine L2.out.mono ?_
        rintro e w' ⟨rfl, rfl⟩
        go_wp2
        first
          | exact bodyPost_ret (results_none rfl _ _ _) rfl F.out
          | (go_end0; exact F.out)

end Go.Proofs.Ytkmhnkljigncmaa.unifRep
end

section
/-
  CONTRACTS: spec.l1Has, l2Order, l2By, l2Renamed, Renamed; slices.Index. Conditions: the slices read as lists ('Seg'), at most 1048576 numbers. By an AI agent.
-/
namespace Go.Proofs.Ytkmhnkljigncmaa.rename
open Go.RowKit Go.Proofs.Ytkmhnkljigncmaa.base Go.Proofs.Ytkmhnkljigncmaa.ints Go.Proofs.Ytkmhnkljigncmaa.sig Go.Proofs.Ytkmhnkljigncmaa.term Go.Proofs.Ytkmhnkljigncmaa.termOk Go.Proofs.Ytkmhnkljigncmaa.marks Go.Proofs.Ytkmhnkljigncmaa.app Go.Proofs.Ytkmhnkljigncmaa.sym Go.Proofs.Ytkmhnkljigncmaa.segs Go.Proofs.Ytkmhnkljigncmaa.termFacts Go.Proofs.Ytkmhnkljigncmaa.varsMath Go.Proofs.Ytkmhnkljigncmaa.varsOf Go.Proofs.Ytkmhnkljigncmaa.renMath
set_option maxRecDepth 100000

theorem mem_of_get {t : List Int} {k : Nat} {x : Int} (hk : k < t.length) (hx : t.getD k 0 = x) : x ∈ t := by
  rw [← hx]
  simp [List.getD, hk]
theorem not_mem_of {t : List Int} {x : Int} (h : ∀ j, j < t.length → t.getD j 0 ≠ x) : x ∉ t := fun hx => by
  obtain ⟨j, hj, e⟩ := List.getElem_of_mem hx
  exact h j hj (by simp [List.getD, hj, e])

/-- the first k are other numbers -/
def HeadNo (n : Nat) (xs : List Int) (x : Int) (i : Value) : Prop := ∃ k : Nat, k ≤ n ∧ i = .int .i64 k ∧ ∀ j, j < k → xs.getD j 0 ≠ x
theorem headNo_step {n k : Nat} {xs : List Int} {x y : Int} (hk : k < n) (h : ∀ j, j < k → xs.getD j 0 ≠ x) (hy : Hid (xs.getD k 0 = y)) (hne : ¬ y = x) : HeadNo n xs x (.int .i64 ((k : Int) + 1)) :=
  ⟨k + 1, hk, by simp, fun j hj => by
    by_cases e : j = k
    · subst e; rw [hy.out]; exact hne
    · exact h j (by omega)⟩

set_option maxHeartbeats 1000000 in
theorem l1Has (A : Option Addr) (n c : Nat) (xs : List Int) (x : Int) (w : World) (h : Seg w w.heap.size A n xs) (hn : n ≤ 1048576) :
    Calls Try.prog 104 #[.slice A n c, .int .i64 x] w fun e w' => w = w' ∧ e = .returned (.bool (decide (x ∈ xs))) := by
  have HX := Lib.hid h.1
  go_enter Try.func104, Try.ntmps104
  go_wp2
  go_loop [5] (fun i => HeadNo n xs x i) (fun i => n - (intOf i).toNat)
  case atStart => exact ⟨0, Nat.zero_le _, rfl, fun j hj => absurd hj (Nat.not_lt_zero _)⟩
  case round =>
    obtain ⟨k, hk, rfl, hlow⟩ := hrel
    by_cases hlt : k < n
    · obtain ⟨b, off, y, rfl, -, hy, ey⟩ := h.spot hlt
      by_cases he : y = x
      · subst he
        have F := Lib.hid (show y ∈ xs from mem_of_get (by rw [HX.out]; exact hlt) ey.out)
        have e1 : (y == y) = true := by simp
        clear h ey hlow
        go_wp2
        go_ret
        exact ⟨rfl, by rw [decide_eq_true F.out]; rfl⟩
      · have S := Lib.hid (headNo_step hlt hlow ey he)
        have e1 : (y == x) = false := by simp [he]
        clear h ey hlow
        go_wp2
        go_round
        case rel => exact S.out
        case measure => simp [intOf]; omega
    · have F := Lib.hid (not_mem_of (t := xs) (x := x) (fun j hj => hlow j (by rw [HX.out] at hj; omega)))
      clear h hlow
      go_wp2
      go_ret
      exact ⟨rfl, by rw [decide_eq_false F.out]; rfl⟩

/-- what slices.Index answers -/
def indexI (xs : List Int) (x : Int) : Int := if x ∈ xs then (idx xs x : Int) else -1
set_option maxHeartbeats 1000000 in
theorem indexOf (A : Option Addr) (n c : Nat) (xs : List Int) (x : Int) (w : World) (h : Seg w w.heap.size A n xs) (hn : n ≤ 1048576) :
    Calls Try.prog 123 #[.slice A n c, .int .i64 x] w fun e w' => w = w' ∧ e = .returned (.int .i64 (indexI xs x)) := by
  have HX := Lib.hid h.1
  go_enter Try.func123, Try.ntmps123
  go_wp2
  go_loop [8] (fun i => HeadNo n xs x i) (fun i => n - (intOf i).toNat)
  case atStart => exact ⟨0, Nat.zero_le _, rfl, fun j hj => absurd hj (Nat.not_lt_zero _)⟩
  case round =>
    obtain ⟨k, hk, rfl, hlow⟩ := hrel
    by_cases hlt : k < n
    · obtain ⟨b, off, y, rfl, -, hy, ey⟩ := h.spot hlt
      by_cases he : y = x
      · subst he
        have F := Lib.hid (show indexI xs y = (k : Int) by
          have hkl : k < xs.length := by rw [HX.out]; exact hlt
          unfold indexI
          rw [if_pos (mem_of_get hkl ey.out), idx_first hkl hlow ey.out])
        have e1 : (y == y) = true := by simp
        clear h ey hlow
        go_wp2
        go_ret
        exact ⟨rfl, by rw [F.out]; rfl⟩
      · have S := Lib.hid (headNo_step hlt hlow ey he)
        have e1 : (x == y) = false := by simp; exact fun e => he e.symm
        clear h ey hlow
        go_wp2
        go_round
        case rel => exact S.out
        case measure => simp [intOf]; omega
    · have F := Lib.hid (show indexI xs x = -1 by unfold indexI; rw [if_neg (not_mem_of (fun j hj => hlow j (by rw [HX.out] at hj; omega)))])
      clear h hlow
      go_wp2
      go_ret
      exact ⟨rfl, by rw [F.out]; rfl⟩

/-- the head of l2Order's loop -/
def HeadOrd (w : World) (m : Nat) (t : List Int) (out i : Value) (wr : World) : Prop :=
  ∃ (k : Nat) (O : Option Addr) (on oc : Nat), k ≤ m ∧ i = .int .i64 k ∧ out = .slice O on oc ∧ Own wr w.heap.size (.slice O on oc) (orderL (t.take k)) ∧ Below w.heap.size w wr

set_option maxHeartbeats 2000000 in
theorem l2Order (A : Option Addr) (m c : Nat) (t : List Int) (w : World) (h : Seg w w.heap.size A m t) (hm : m ≤ 1048576) :
    Calls Try.prog 125 #[.slice A m c] w (AnsList w (orderL t)) := by
  have HL := Lib.hid h.1
  have S0 : HeadOrd w m t (.slice (some ⟨w.heap.size, 0, none⟩) 0 0) (.int .i64 0) (w.alloc (.cells #[] 2)) :=
    ⟨0, _, _, _, Nat.zero_le _, rfl, rfl, by simpa [orderL] using own_empty w w.heap.size (Nat.le_refl _), (Below.refl _ _).alloc (Nat.le_refl _) _⟩
  have HS0 := Lib.hid S0
  clear S0
  go_enter Try.func125, Try.ntmps125
  go_wp2_with fail
  go_loopw [3, 4] (fun out i wr => HeadOrd w m t out i wr) (fun _ i _ => m - (intOf i).toNat)
  case atStart => exact HS0.out
  case round =>
    obtain ⟨k, O, on, oc, hk, rfl, rfl, ho, hb⟩ := hrel
    clear HS0
    have hon : on ≤ m := by have h1 := Own.len ho; have h2 := order_len (t.take k); simp at h2; have h3 := HL.out; omega
    by_cases hlt : k < m
    · obtain ⟨b, off, x, rfl, hbb, hx, ex⟩ := h.spot hlt
      have hx1 : wr.cell? ⟨b, off + k, none⟩ = some (.int .i64 x) := (hb.cell (p := ⟨b, off + k, none⟩) hbb).trans hx
      have E := Lib.hid (order_take (t := t) (k := k) (by rw [HL.out]; exact hlt) ex.out)
      have hsz := hb.size
      clear hx h ex
      by_cases hneg : x < 0
      · have L := Lib.hid (l1Has O on oc _ x wr (Own.seg ho) (by omega))
        by_cases hin : x ∈ orderL (t.take k)
        · have R := Lib.hid (show extV (orderL (t.take k)) x = orderL (t.take k) by unfold extV ext; rw [if_pos hneg, if_pos hin])
          rw [decide_eq_true hin] at L
          have S : HeadOrd w m t (.slice O on oc) (.int .i64 ((k : Int) + 1)) wr := ⟨k + 1, O, on, oc, hlt, by simp, rfl, by rw [E.out, R.out]; exact ho, hb⟩
          replace S := Lib.hid S
          clear ho hb hin R E
          go_wp2_with fail
          refine L.out.mono ?_
          rintro e w' ⟨rfl, rfl⟩
          clear L
          go_wp2
          go_roundw
          case rel => exact S.out
          case measure => simp [intOf]; omega
        · have R := Lib.hid (show extV (orderL (t.take k)) x = orderL (t.take k) ++ [x] by unfold extV ext; rw [if_pos hneg, if_neg hin])
          rw [decide_eq_false hin] at L
          clear hin
          go_wp2_with fail
          refine L.out.mono ?_
          rintro e w' ⟨rfl, rfl⟩
          clear L
          go_wp2_with (at_builtin; refine app1 rfl _ _ rfl w.heap.size O on oc (orderL (t.take k)) rfl (Own.alloc ho _) wr.heap.size 1 x rfl ((Row.new _ _ _).cell 0) (by omega) (by simp; omega) ?_; intro O' oc' w2 ho2 b2)
          have S : HeadOrd w m t (.slice O' (on + 1) oc') (.int .i64 ((k : Int) + 1)) w2 := ⟨k + 1, O', on + 1, oc', hlt, by simp, rfl, by rw [E.out, R.out]; exact ho2, (hb.alloc hsz _).trans b2⟩
          replace S := Lib.hid S
          clear ho2 b2 ho hb R E
          go_wp2
          go_roundw
          case rel => exact S.out
          case measure => simp [intOf]; omega
      · have R := Lib.hid (show extV (orderL (t.take k)) x = orderL (t.take k) by unfold extV; rw [if_neg hneg])
        have S : HeadOrd w m t (.slice O on oc) (.int .i64 ((k : Int) + 1)) wr := ⟨k + 1, O, on, oc, hlt, by simp, rfl, by rw [E.out, R.out]; exact ho, hb⟩
        replace S := Lib.hid S
        have d1 : decide (x < 0) = false := by simp; omega
        clear ho hb R E
        go_wp2
        go_roundw
        case rel => exact S.out
        case measure => simp [intOf]; omega
    · have F : AnsList w (orderL t) (.returned (.slice O on oc)) wr := by
        rw [List.take_of_length_le (by rw [HL.out]; omega)] at ho
        exact ⟨O, on, oc, rfl, ho, hb⟩
      have HF := Lib.hid F
      clear F ho hb h
      go_wp2
      go_ret
      exact HF.out

/-- a number, when the first q places of the order have been looked at -/
def upTo (o : List Int) (x : Int) (q : Nat) : Int := if idx o x < q then -1 - (idx o x : Int) else x
/-- the head of the inner loop -/
def HeadIn (wr : World) (pn : Nat) (o : List Int) (x : Int) (n k : Value) (wi : World) : Prop := ∃ q d : Nat, q ≤ pn ∧ k = .int .i64 q ∧ n = .int .i64 (upTo o x q) ∧ wi = wr.drewN d
theorem upTo_yes {o : List Int} (hd : o.Nodup) {x : Int} {q : Nat} (hq : q < o.length) (h : o.getD q 0 = x) : upTo o x (q + 1) = -1 - (q : Int) := by
  unfold upTo
  rw [idx_nodup hd hq h, if_pos (by omega)]
theorem upTo_no {o : List Int} {x y : Int} {q : Nat} (hq : q < o.length) (h : o.getD q 0 = y) (hne : ¬ y = x) : upTo o x (q + 1) = upTo o x q := by
  unfold upTo
  have h1 : idx o x ≠ q := fun e => by
    by_cases hx : x ∈ o
    · have := idx_get hx
      rw [e, h] at this
      exact hne this
    · have := idx_not hx
      omega
  by_cases h2 : idx o x < q
  · rw [if_pos h2, if_pos (by omega)]
  · rw [if_neg h2, if_neg (by omega)]
/-- the head of the outer loop -/
def HeadBy (w : World) (m : Nat) (t o : List Int) (out i : Value) (wr : World) : Prop :=
  ∃ (k : Nat) (O : Option Addr) (on oc : Nat), k ≤ m ∧ i = .int .i64 k ∧ out = .slice O on oc ∧ Own wr w.heap.size (.slice O on oc) ((t.take k).map (ren o)) ∧ Below w.heap.size w wr

set_option maxHeartbeats 4000000 in
theorem l2By (P A : Option Addr) (pn pc m c : Nat) (o t : List Int) (w : World) (hp : Seg w w.heap.size P pn o) (h : Seg w w.heap.size A m t) (hpn : pn ≤ 1048576) (hm : m ≤ 1048576) (hd : o.Nodup) (ho : ∀ x ∈ t, x < 0 → x ∈ o) :
    Calls Try.prog 124 #[.slice P pn pc, .slice A m c] w (AnsList w (t.map (ren o))) := by
  have HL := Lib.hid h.1
  have HP := Lib.hid hp.1
  have HO := Lib.hid ho
  have HD := Lib.hid hd
  have S0 : HeadBy w m t o (.slice (some ⟨w.heap.size, 0, none⟩) 0 0) (.int .i64 0) (w.alloc (.cells #[] 2)) :=
    ⟨0, _, _, _, Nat.zero_le _, rfl, rfl, by simpa using own_empty w w.heap.size (Nat.le_refl _), (Below.refl _ _).alloc (Nat.le_refl _) _⟩
  have HS0 := Lib.hid S0
  clear S0 ho hd
  go_enter Try.func124, Try.ntmps124
  go_wp2_with fail
  go_loopw [5, 6] (fun out i wr => HeadBy w m t o out i wr) (fun _ i _ => m - (intOf i).toNat)
  case atStart => exact HS0.out
  case round =>
    obtain ⟨k, O, on, oc, hk, rfl, rfl, hown, hb⟩ := hrel
    clear HS0
    have hon : on ≤ m := by have h1 := Own.len hown; simp at h1; omega
    obtain ⟨wo, rfl⟩ : ∃ wo : World, wo = wr := ⟨_, rfl⟩
    by_cases hlt : k < m
    · obtain ⟨b, off, x, rfl, hbb, hx, ex⟩ := h.spot hlt
      have hx1 : wo.cell? ⟨b, off + k, none⟩ = some (.int .i64 x) := (hb.cell (p := ⟨b, off + k, none⟩) hbb).trans hx
      have hmem := mem_of_get (by rw [HL.out]; exact hlt) ex.out
      have E := Lib.hid (show (t.take (k + 1)).map (ren o) = (t.take k).map (ren o) ++ [ren o x] by rw [take_snoc (by rw [HL.out]; exact hlt) ex.out, List.map_append]; rfl)
      have hsz := hb.size
      have hpo := hp.below hb
      clear hx h ex
      by_cases hneg : x < 0
      · have hin := HO.out x hmem hneg
        have I0 : HeadIn wo pn o x (.int .i64 x) (.int .i64 0) wo := ⟨0, 0, Nat.zero_le _, rfl, by simp [upTo], rfl⟩
        have HI0 := Lib.hid I0
        have R := Lib.hid (show upTo o x pn = ren o x by unfold upTo ren; rw [if_pos hneg, if_pos (by rw [← HP.out]; exact idx_lt hin)])
        have REST := Lib.hid (fun (d : Nat) (O' : Option Addr) (oc' : Nat) (w2 : World) (ho2 : Own w2 w.heap.size (.slice O' (on + 1) oc') ((t.take k).map (ren o) ++ [ren o x])) (b2 : Below w.heap.size ((wo.drewN d).alloc (.cells #[.int .i64 (ren o x)] 2)) w2) =>
          (show HeadBy w m t o (.slice O' (on + 1) oc') (.int .i64 ((k : Int) + 1)) w2 from ⟨k + 1, O', on + 1, oc', hlt, by simp, rfl, by rw [E.out]; exact ho2, ((below_drewN hb d).alloc hsz _).trans b2⟩))
        clear I0 hin hmem hb
        go_wp2_with fail
        go_loopw [7, 8] (fun n q wi => HeadIn wo pn o x n q wi) (fun _ q _ => pn - (intOf q).toNat)
        case atStart => exact HI0.out
        case round =>
          obtain ⟨q, d, hq, rfl, rfl, hw⟩ := hrel
          clear HI0
          have hxr : wr.cell? ⟨b, off + k, none⟩ = some (.int .i64 x) := by rw [hw]; exact hx1
          have hpr : Seg wr w.heap.size P pn o := by rw [hw]; exact hpo
          have HW := Lib.hid hw
          clear hw
          by_cases hq2 : q < pn
          · obtain ⟨b2, off2, y, rfl, -, hy, ey⟩ := hpr.spot hq2
            by_cases he : y = x
            · have U := Lib.hid (upTo_yes HD.out (by rw [HP.out]; exact hq2) (ey.out.trans he))
              have S : ∀ nq : Nat, HeadIn wo pn o x (.int .i64 (-1 - (q : Int))) (.int .i64 ((q : Int) + 1)) (wr.drewN nq) := fun nq => ⟨q + 1, d + nq, hq2, by simp, by rw [U.out], by rw [HW.out, World.drewN_drewN]⟩
              replace S := Lib.hid S
              have e1 : (y == x) = true := by simp [he]
              clear hpr ey U hpo hp hx1 hown
              generalize upTo o x q = z at *
              go_wp2_with fail
              go_quiet (fail)
              go_wp2
              go_roundw
              case rel => exact S.out _
              case measure => simp [intOf]; omega
            · have U := Lib.hid (upTo_no (x := x) (by rw [HP.out]; exact hq2) ey.out he)
              have S : ∀ nq : Nat, HeadIn wo pn o x (.int .i64 (upTo o x q)) (.int .i64 ((q : Int) + 1)) (wr.drewN nq) := fun nq => ⟨q + 1, d + nq, hq2, by simp, by rw [U.out], by rw [HW.out, World.drewN_drewN]⟩
              replace S := Lib.hid S
              have e1 : (y == x) = false := by simp [he]
              clear hpr ey U hpo hp hx1 hown
              generalize upTo o x q = z at *
              go_wp2_with fail
              go_quiet (fail)
              go_wp2
              go_roundw
              case rel => exact S.out _
              case measure => simp [intOf]; omega
          · have hqp : q = pn := by omega
            subst hqp
            have hown2 : Own wr w.heap.size (.slice O on oc) ((t.take k).map (ren o)) := by rw [HW.out]; exact hown
            have hszr : w.heap.size ≤ wr.heap.size := by rw [HW.out]; exact hsz
            rw [R.out]
            clear hpr hpo hp hx1 hown
            generalize hz : ren o x = z at *
            go_wp2_with (at_builtin; refine app1 rfl _ _ rfl w.heap.size O on oc ((t.take k).map (ren o)) rfl (Own.alloc hown2 _) wr.heap.size 1 z rfl ((Row.new _ _ _).cell 0) (by omega) (by simp; omega) ?_; intro O' oc' w2 ho2 b2)
            have S := Lib.hid (REST.out d O' oc' w2 ho2 (by rw [← HW.out]; exact b2))
            clear ho2 b2 hown2 REST
            go_wp2
            go_roundw
            case rel => exact S.out
            case measure => simp [intOf]; omega
      · have RH := Lib.hid (show ren o x = x by unfold ren; rw [if_neg hneg])
        have d1 : decide (x < 0) = false := by simp; omega
        have REST := Lib.hid (fun (O' : Option Addr) (oc' : Nat) (w2 : World) (ho2 : Own w2 w.heap.size (.slice O' (on + 1) oc') ((t.take k).map (ren o) ++ [x])) (b2 : Below w.heap.size (wo.alloc (.cells #[.int .i64 x] 2)) w2) =>
          (show HeadBy w m t o (.slice O' (on + 1) oc') (.int .i64 ((k : Int) + 1)) w2 from ⟨k + 1, O', on + 1, oc', hlt, by simp, rfl, by rw [E.out, RH.out]; exact ho2, (hb.alloc hsz _).trans b2⟩))
        clear hmem hpo hb
        by_cases hp0 : 0 < pn
        all_goals
          go_wp2_with fail
          go_loopw [7, 8] (fun n q wi => n = .int .i64 x ∧ q = .int .i64 0 ∧ wi = wo) (fun _ _ _ => 0)
          case atStart => exact ⟨rfl, rfl, rfl⟩
          case round =>
            obtain ⟨rfl, rfl, hw⟩ := hrel
            subst hw
            go_wp2_with (at_builtin; refine app1 rfl _ _ rfl w.heap.size O on oc ((t.take k).map (ren o)) rfl (Own.alloc hown _) wr.heap.size 1 x rfl ((Row.new _ _ _).cell 0) (by omega) (by simp; omega) ?_; intro O' oc' w2 ho2 b2)
            have S := Lib.hid (REST.out O' oc' w2 ho2 b2)
            clear ho2 b2 hown REST
            go_wp2
            go_roundw
            case rel => exact S.out
            case measure => simp [intOf]; omega
    · have F : AnsList w (t.map (ren o)) (.returned (.slice O on oc)) wo := by
        rw [List.take_of_length_le (by rw [HL.out]; omega)] at hown
        exact ⟨O, on, oc, rfl, hown, hb⟩
      have HF := Lib.hid F
      clear F hown hb h hp
      go_wp2
      go_ret
      exact HF.out

set_option maxHeartbeats 1000000 in
theorem l2Renamed (A : Option Addr) (m c : Nat) (t : List Int) (w : World) (h : Seg w w.heap.size A m t) (hm : m ≤ 1048576) :
    Calls Try.prog 86 #[.slice A m c] w (AnsList w (renL t)) := by
  have L := Lib.hid (l2Order A m c t w h hm)
  have HL := Lib.hid h.1
  go_enter Try.func86, Try.ntmps86
  go_wp2_with fail
  refine L.out.mono ?_
  rintro e w1 ⟨P, pn, pc, rfl, o1, bb⟩
  have hpn : pn ≤ 1048576 := by rw [Own.len o1]; have := order_len t; have := HL.out; omega
  have L2 := Lib.hid (l2By P A pn pc m c (orderL t) t w1 (Own.seg o1) (h.next bb) hpn hm (order_nodup t) (fun x hx h0 => order_mem.2 ⟨hx, h0⟩))
  clear L o1 h
  go_wp2_with fail
  refine L2.out.mono ?_
  rintro e w2 ⟨Q, qn, qc, rfl, o2, b2⟩
  have F : AnsList w (renL t) (.returned (.slice Q qn qc)) w2 := ⟨Q, qn, qc, rfl, Own.lower o2 bb.size, next_trans bb b2⟩
  have HF := Lib.hid F
  clear F o2 b2 bb L2
  go_wp2
  go_ret
  exact HF.out

end Go.Proofs.Ytkmhnkljigncmaa.rename
end

section
/-
  CONTRACTS: slices.Contains at []int64, impl.unification.step, run. Conditions: what stands in the unification's block ('Un') is on the way ('Wy'). (The two sides by wip/tools/mkstep.py.) By an AI agent.
-/
namespace Go.Proofs.Ytkmhnkljigncmaa.unifStep
open Go.RowKit Go.Proofs.Ytkmhnkljigncmaa.base Go.Proofs.Ytkmhnkljigncmaa.ints Go.Proofs.Ytkmhnkljigncmaa.sig Go.Proofs.Ytkmhnkljigncmaa.term Go.Proofs.Ytkmhnkljigncmaa.termOk Go.Proofs.Ytkmhnkljigncmaa.endAt Go.Proofs.Ytkmhnkljigncmaa.sub Go.Proofs.Ytkmhnkljigncmaa.same Go.Proofs.Ytkmhnkljigncmaa.cursor Go.Proofs.Ytkmhnkljigncmaa.marks Go.Proofs.Ytkmhnkljigncmaa.app Go.Proofs.Ytkmhnkljigncmaa.sym Go.Proofs.Ytkmhnkljigncmaa.look Go.Proofs.Ytkmhnkljigncmaa.segs Go.Proofs.Ytkmhnkljigncmaa.termFacts Go.Proofs.Ytkmhnkljigncmaa.fillMath Go.Proofs.Ytkmhnkljigncmaa.rename Go.Proofs.Ytkmhnkljigncmaa.matchMath Go.Proofs.Ytkmhnkljigncmaa.unifMath Go.Proofs.Ytkmhnkljigncmaa.unifDom Go.Proofs.Ytkmhnkljigncmaa.thn Go.Proofs.Ytkmhnkljigncmaa.unifRep
set_option maxRecDepth 100000

theorem containsInt (A : Option Addr) (n c : Nat) (xs : List Int) (x : Int) (w : World) (h : Seg w w.heap.size A n xs) (hn : n ≤ 1048576) :
    Calls Try.prog 135 #[.slice A n c, .int .i64 x] w fun e w' => w = w' ∧ e = .returned (.bool (decide (x ∈ xs))) := by
  have L := Lib.hid (indexOf A n c xs x w h hn)
  clear h
  go_enter Try.func135, Try.ntmps135
  go_wp2_with fail
  refine L.out.mono ?_
  rintro e w' ⟨rfl, rfl⟩
  have E : decide (0 ≤ indexI xs x) = decide (x ∈ xs) := decide_eq_decide.2 (by unfold indexI; split <;> simp_all)
  have HE := Lib.hid E
  clear L E
  generalize indexI xs x = z at *
  go_wp2
  go_ret
  exact ⟨rfl, by rw [← HE.out]; rfl⟩

theorem drew_below (w : World) (d : Nat) : Below w.heap.size w (w.drewN d) := ⟨rfl, rfl, rfl, Nat.le_refl _, fun _ _ => rfl⟩
/-- what a step leaves -/
def AnsStep (w : World) (g : Nat) (A : Option Addr) (n c : Nat) (sg a b : List Int) (L : Nat → List Int) (e : Ending) (w' : World) : Prop :=
  w.grownBy w' (some g) ∧ ((∃ x y L' P pn pc Q qn qc gl lb, e = .returned (.tuple #[]) ∧ Un w' g A n c sg P pn pc x Q qn qc y gl lb L' ∧ Wy sg a b L' x y ∧ free L' < free L) ∨ ((∀ M, ¬ Short sg a b M) ∧ ∃ u v, e = .panicked [{ v := .iface u v, recovered := false }]))
theorem pre_step {x y : List Int} {k : Nat} (e : x.take k = y.take k) (hx : k < x.length) (hy : k < y.length) (h : x.getD k 0 = y.getD k 0) : x.take (k + 1) = y.take (k + 1) := by
  rw [List.take_succ_eq_append_getElem hx, List.take_succ_eq_append_getElem hy, e]
  simp [List.getD, hx, hy] at h
  rw [h]
/-- what replace leaves is what the step leaves -/
theorem step_of {w w1 w2 : World} {g : Nat} {A : Option Addr} {n c : Nat} {sg a b x y : List Int} {L : Nat → List Int} {k : Nat} {p q : Int} (hw : Wy sg a b L x y) (s : Spot sg a b L k) (ep : x.getD k 0 = p) (eq : y.getD k 0 = q) (h1 : p < 0) (h2 : p ∉ subL sg y k) (h3 : 0 ≤ q ∨ p < q) (hg : w.grownBy w1 (some g)) {e : Ending}
    (h : AnsRep w1 g A n c sg (fillL (ones (vr p) (subL sg y k)) x) (fillL (ones (vr p) (subL sg y k)) y) (fun m => fillL (ones (vr p) (subL sg y k)) (L m)) e w2) : AnsStep w g A n c sg a b L e w2 := by
  subst ep
  subst eq
  obtain ⟨g2, ⟨l1, l2, rfl, P, pn, pc, Q, qn, qc, gl, lb, U⟩ | ⟨hl, u, v, rfl⟩⟩ := h
  · obtain ⟨W, hf⟩ := hw.step s h1 h2 h3 l1 l2
    exact ⟨grown_trans hg g2, .inl ⟨_, _, _, P, pn, pc, Q, qn, qc, gl, lb, rfl, U, W, hf⟩⟩
  · exact ⟨grown_trans hg g2, .inr ⟨hw.long s h1 h2 h3 hl, u, v, rfl⟩⟩
theorem step_of' {w w1 w2 : World} {g : Nat} {A : Option Addr} {n c : Nat} {sg a b x y : List Int} {L : Nat → List Int} {k : Nat} {p q : Int} (hw : Wy sg a b L x y) (s : Spot sg a b L k) (ep : x.getD k 0 = p) (eq : y.getD k 0 = q) (h1 : q < 0) (h2 : q ∉ subL sg x k) (h3 : 0 ≤ p ∨ q < p) (hg : w.grownBy w1 (some g)) {e : Ending}
    (h : AnsRep w1 g A n c sg (fillL (ones (vr q) (subL sg x k)) x) (fillL (ones (vr q) (subL sg x k)) y) (fun m => fillL (ones (vr q) (subL sg x k)) (L m)) e w2) : AnsStep w g A n c sg a b L e w2 := by
  subst ep
  subst eq
  obtain ⟨g2, ⟨l1, l2, rfl, P, pn, pc, Q, qn, qc, gl, lb, U⟩ | ⟨hl, u, v, rfl⟩⟩ := h
  · obtain ⟨W, hf⟩ := hw.symm.step s.symm h1 h2 h3 l2 l1
    exact ⟨grown_trans hg g2, .inl ⟨_, _, _, P, pn, pc, Q, qn, qc, gl, lb, rfl, U, W.symm, hf⟩⟩
  · exact ⟨grown_trans hg g2, .inr ⟨fun M hM => hw.symm.long s.symm h1 h2 h3 (fun h => hl ⟨h.2, h.1⟩) M hM.symm, u, v, rfl⟩⟩
theorem Wy.sub {sg a b x y : List Int} {L : Nat → List Int} (hw : Wy sg a b L x y) {k : Nat} (hk : k < y.length) : subI sg y (k : Int) = subL sg y k ∧ 1 ≤ (subL sg y k).length ∧ (subL sg y k).length ≤ 60 := by
  have h1 := hw.symm.okx
  have h2 := (sub_trm hw.symm.tx hk).1.pos
  refine ⟨by unfold subI; rw [if_pos (there_yes h1 (by omega) (by omega)), Int.toNat_natCast], h2, ?_⟩
  have := hw.ly
  unfold subL
  rw [List.length_take, List.length_drop]
  omega

set_option maxHeartbeats 4000000 in
theorem step (g : Nat) (A P Q : Option Addr) (n c pn pc qn qc gl : Nat) (lb : Array Value) (sg a b x y : List Int) (L : Nat → List Int) (w : World) (h : Un w g A n c sg P pn pc x Q qn qc y gl lb L) (hw : Wy sg a b L x y) (hne : x ≠ y) (hn : n ≤ 1048576) :
    Calls Try.prog 98 #[.pointer (some ⟨g, 0, none⟩)] w (AnsStep w g A n c sg a b L) := by
  have HWAY := Lib.hid hw
  have HLX := Lib.hid h.p.1
  have HLY := Lib.hid h.q.1
  have HNE := Lib.hid hne
  have hx60 : pn ≤ 60 := by rw [← h.p.1]; exact hw.lx
  have hy60 : qn ≤ 60 := by rw [← h.q.1]; exact hw.ly
  have c1 := h.c1
  have c2 := h.c2
  have U := h
  clear hw hne h
  go_enter Try.func98, Try.ntmps98
  go_wp2
  go_loopg [2] pn (fun g_ k_ wr => ∃ k d : Nat, k_ = .int .i64 k ∧ k + g_ = pn ∧ k ≤ qn ∧ x.take k = y.take k ∧ wr = w.drewN d)
  case atStart => exact ⟨0, 0, rfl, by omega, Nat.zero_le _, rfl, rfl⟩
  case round =>
    obtain ⟨k, d, rfl, hkg, hky, hpre, hwd⟩ := hrel
    have kx : k < pn := by
      rcases Nat.lt_or_ge k pn with h | h
      · exact h
      · exact absurd (unifMath.differ HWAY.out.tx HWAY.out.symm.tx hpre (by rw [HLX.out]; omega) (by rw [HLY.out]; omega) (.inl (by rw [HLX.out]; omega))) HNE.out
    have ky : k < qn := by
      rcases Nat.lt_or_ge k qn with h | h
      · exact h
      · exact absurd (unifMath.differ HWAY.out.tx HWAY.out.symm.tx hpre (by rw [HLX.out]; omega) (by rw [HLY.out]; omega) (.inr (by rw [HLY.out]; omega))) HNE.out
    have HKG := Lib.hid hkg
    have HPRE := Lib.hid hpre
    have i0 : (0 : Int) ≤ (k : Int) := by omega
    have j1 : (k : Int) < (pn : Int) := by omega
    have j2 : (k : Int) < (qn : Int) := by omega
    have bd : Below w.heap.size w wr := by rw [hwd]; exact ⟨rfl, rfl, rfl, Nat.le_refl _, fun _ _ => rfl⟩
    have HWD := Lib.hid hwd
    have HBD := Lib.hid bd
    have U := U.next bd
    have c1 := U.c1
    have c2 := U.c2
    clear bd hwd hkg hpre
    obtain ⟨b1, o1, p, rfl, hb1, hp, ep⟩ := U.p.spot kx
    obtain ⟨b2, o2, q, rfl, hb2, hq, eq⟩ := U.q.spot ky
    by_cases hpq : p = q
    · subst hpq
      have S1 := Lib.hid (fun d' => (show ∃ k' d : Nat, (.int .i64 ((k : Int) + 1) : Value) = .int .i64 k' ∧ k' + (gk - 1) = pn ∧ k' ≤ qn ∧ x.take k' = y.take k' ∧ wr.drewN d' = w.drewN d from ⟨k + 1, d + d', by simp, by have := HKG.out; omega, ky, pre_step HPRE.out (by rw [HLX.out]; exact kx) (by rw [HLY.out]; exact ky) (by rw [ep.out, eq.out]), by rw [HWD.out, World.drewN_drewN]⟩))
      have hgk := Lib.hid (show gk - 1 < gk by have := HKG.out; omega)
      clear U ep eq
      go_wp2
      go_quiet (fail)
      go_wp2
      go_roundg (gk - 1)
      case measure => exact hgk.out
      case rel => exact S1.out _
    · have HS := Lib.hid (HWAY.out.spot HPRE.out (by rw [HLX.out]; exact kx) (by rw [HLY.out]; exact ky) (by rw [ep.out, eq.out]; exact hpq))
      have HEP := Lib.hid ep.out
      have HEQ := Lib.hid eq.out
      have hpd : (p == q) = false := by simp [hpq]
      have hp24 : -24 ≤ p := HWAY.out.tx.mem (by rw [← HEP.out]; have := HLX.out; simp [List.getD, show k < x.length by omega])
      have hq24 : -24 ≤ q := HWAY.out.symm.tx.mem (by rw [← HEQ.out]; have := HLY.out; simp [List.getD, show k < y.length by omega])
      have HU := Lib.hid U
      have HPQ := Lib.hid hpq
      clear ep eq U hpq
      go_wp2_with fail
      go_quiet (fail)
      have U1 := HU.out.next (unifStep.drew_below wr nq)
      have B1 := next_trans HBD.out (unifStep.drew_below wr nq)
      have p1 : (wr.drewN nq).cell? ⟨b1, o1 + k, none⟩ = some (.int .i64 p) := hp
      have q1 : (wr.drewN nq).cell? ⟨b2, o2 + k, none⟩ = some (.int .i64 q) := hq
      clear HU HBD hp hq c1 c2
      generalize wr.drewN nq = w1 at *
      have HU := Lib.hid U1
      have HBD := Lib.hid B1
      have hp := p1
      have hq := q1
      have c0 := U1.c0
      have c1 := U1.c1
      have c2 := U1.c2
      clear U1 B1 p1 q1
      go_wp2_with fail
      go_quiet (fail)
      have U1 := HU.out.next (unifStep.drew_below w1 nq)
      have B1 := next_trans HBD.out (unifStep.drew_below w1 nq)
      have p1 : (w1.drewN nq).cell? ⟨b1, o1 + k, none⟩ = some (.int .i64 p) := hp
      have q1 : (w1.drewN nq).cell? ⟨b2, o2 + k, none⟩ = some (.int .i64 q) := hq
      clear HU HBD hp hq c1 c2
      generalize w1.drewN nq = w2 at *
      have HU := Lib.hid U1
      have HBD := Lib.hid B1
      have hp := p1
      have hq := q1
      have c0 := U1.c0
      have c1 := U1.c1
      have c2 := U1.c2
      clear U1 B1 p1 q1
      by_cases hlt : q < p
      · have hlt' : decide (q < p) = true := decide_eq_true hlt
        have H3 := Lib.hid (show 0 ≤ p ∨ q < p from .inr (by have := HPQ.out; omega))
        go_wp2_with fail
        go_quiet (fail)
        have U1 := HU.out.next (unifStep.drew_below w2 nq)
        have B1 := next_trans HBD.out (unifStep.drew_below w2 nq)
        have p1 : (w2.drewN nq).cell? ⟨b1, o1 + k, none⟩ = some (.int .i64 p) := hp
        have q1 : (w2.drewN nq).cell? ⟨b2, o2 + k, none⟩ = some (.int .i64 q) := hq
        clear HU HBD hp hq c1 c2
        generalize w2.drewN nq = w3 at *
        have HU := Lib.hid U1
        have HBD := Lib.hid B1
        have hp := p1
        have hq := q1
        have c0 := U1.c0
        have c1 := U1.c1
        have c2 := U1.c2
        clear U1 B1 p1 q1
        by_cases hn0 : 0 ≤ q
        · have hno : ∀ M, ¬ Short sg a b M := fun M hM => HWAY.out.symm.clash HS.out.symm (by rw [HEQ.out]; exact hn0) (by rw [HEP.out]; omega) M hM.symm
          have F := Lib.hid (fun (u : TypeId) (v : Value) => (show AnsStep w g A n c sg a b L (.panicked [{ v := .iface u v, recovered := false }]) w3 from ⟨grown_below HBD.out _, .inr ⟨hno, u, v, rfl⟩⟩))
          clear hno HU HBD
          go_wp2
          exact ⟨rfl, F.out _ _⟩
        · have hn1 : q < 0 := by omega
          obtain ⟨es, e1, e60⟩ := Wy.sub HWAY.out.symm (k := k) (by rw [HLX.out]; exact kx)
          have LS := Lib.hid (implSubAt A (some ⟨b1, o1, none⟩) n c pn pc sg x (k : Int) w3 HU.out.s HU.out.p hn (by omega) (by omega) (by omega) HU.out.kp.1 HU.out.kp.2.1)
          rw [es] at LS
          have HES := Lib.hid e1
          have HE60 := Lib.hid e60
          clear es e1 e60
          go_wp2_with fail
          refine LS.out.mono ?_
          rintro e w4 ⟨D, dn, dc, rfl, od, bb⟩
          have hdn : dn ≤ 60 := by rw [Own.len od]; exact HE60.out
          have hd1 : 1 ≤ dn := by rw [Own.len od]; exact HES.out
          have sd := Own.seg od
          have kd := own_cap od
          have U4 := HU.out.next bb
          have B4 := next_trans HBD.out bb
          have LC := Lib.hid (containsInt D dn dc (subL sg x k) q w4 sd (by omega))
          clear HU HBD LS bb od c0 c1 c2 hp hq
          by_cases hm : q ∈ subL sg x k
          · rw [decide_eq_true hm] at LC
            have hno : ∀ M, ¬ Short sg a b M := fun M hM => HWAY.out.symm.occurs HS.out.symm (by rw [HEQ.out]; exact hn1) (by rw [HEQ.out]; exact hm) M hM.symm
            have F := Lib.hid (fun (u : TypeId) (v : Value) => (show AnsStep w g A n c sg a b L (.panicked [{ v := .iface u v, recovered := false }]) w4 from ⟨grown_below B4 _, .inr ⟨hno, u, v, rfl⟩⟩))
            clear hno U4 B4 sd hm
            go_wp2_with fail
            refine LC.out.mono ?_
            rintro e w5 ⟨rfl, rfl⟩
            go_wp2
            exact ⟨rfl, F.out _ _⟩
          · rw [decide_eq_false hm] at LC
            obtain ⟨v, hv⟩ : ∃ v : Nat, q = -1 - (v : Int) := ⟨(-1 - q).toNat, by omega⟩
            have HVR := Lib.hid (show vr q = v by unfold vr; omega)
            have hv24 : v < 24 := by omega
            have HVI := Lib.hid (show -1 - q = (v : Int) by omega)
            have HM := Lib.hid hm
            have LR := Lib.hid (replace g A _ _ D n c pn pc qn qc dn dc gl lb sg x y (subL sg x k) L v w4 U4 sd kd hd1 hdn hv24 hx60 hy60 (fun z hz => HWAY.out.tx.mem hz) (fun z hz => HWAY.out.symm.tx.mem hz) (fun j _ => HWAY.out.each j) (fun j hj z hz => (HWAY.out.part.sub.trm j hj).mem hz))
            have HB4 := Lib.hid B4
            have w64 : IntKind.i64.wrap (-1 - q) = (v : Int) := by rw [IntKind.wrap_i64]; omega
            clear U4 B4 sd hm hv
            go_wp2_with fail
            refine LC.out.mono ?_
            rintro e w5 ⟨rfl, rfl⟩
            go_wp2_with fail
            first
              | rw [HVI.out]
              | rw [w64]
              | skip
            refine LR.out.mono ?_
            rintro e w6 hrep
            have F := Lib.hid (show AnsStep w g A n c sg a b L e w6 from step_of' HWAY.out HS.out HEP.out HEQ.out hn1 HM.out H3.out (grown_below HB4.out _) (by rw [HVR.out]; exact hrep))
            obtain ⟨-, ⟨-, -, rfl, -⟩ | ⟨-, u, v, rfl⟩⟩ := hrep
            · clear LR LC
              go_wp2
              first
                | exact bodyPost_ret (results_none rfl _ _ _) rfl F.out
                | (go_end0; exact F.out)
            · clear LR LC
              go_wp2
              exact ⟨rfl, F.out⟩

      · have hlt' : decide (q < p) = false := decide_eq_false hlt
        have H3 := Lib.hid (show 0 ≤ q ∨ p < q from .inr (by have := HPQ.out; omega))
        go_wp2_with fail
        go_quiet (fail)
        have U1 := HU.out.next (unifStep.drew_below w2 nq)
        have B1 := next_trans HBD.out (unifStep.drew_below w2 nq)
        have p1 : (w2.drewN nq).cell? ⟨b1, o1 + k, none⟩ = some (.int .i64 p) := hp
        have q1 : (w2.drewN nq).cell? ⟨b2, o2 + k, none⟩ = some (.int .i64 q) := hq
        clear HU HBD hp hq c1 c2
        generalize w2.drewN nq = w3 at *
        have HU := Lib.hid U1
        have HBD := Lib.hid B1
        have hp := p1
        have hq := q1
        have c0 := U1.c0
        have c1 := U1.c1
        have c2 := U1.c2
        clear U1 B1 p1 q1
        by_cases hn0 : 0 ≤ p
        · have hno : ∀ M, ¬ Short sg a b M := fun M hM => HWAY.out.clash HS.out (by rw [HEP.out]; exact hn0) (by rw [HEQ.out]; omega) M hM
          have F := Lib.hid (fun (u : TypeId) (v : Value) => (show AnsStep w g A n c sg a b L (.panicked [{ v := .iface u v, recovered := false }]) w3 from ⟨grown_below HBD.out _, .inr ⟨hno, u, v, rfl⟩⟩))
          clear hno HU HBD
          go_wp2
          exact ⟨rfl, F.out _ _⟩
        · have hn1 : p < 0 := by omega
          obtain ⟨es, e1, e60⟩ := Wy.sub HWAY.out (k := k) (by rw [HLY.out]; exact ky)
          have LS := Lib.hid (implSubAt A (some ⟨b2, o2, none⟩) n c qn qc sg y (k : Int) w3 HU.out.s HU.out.q hn (by omega) (by omega) (by omega) HU.out.kq.1 HU.out.kq.2.1)
          rw [es] at LS
          have HES := Lib.hid e1
          have HE60 := Lib.hid e60
          clear es e1 e60
          go_wp2_with fail
          refine LS.out.mono ?_
          rintro e w4 ⟨D, dn, dc, rfl, od, bb⟩
          have hdn : dn ≤ 60 := by rw [Own.len od]; exact HE60.out
          have hd1 : 1 ≤ dn := by rw [Own.len od]; exact HES.out
          have sd := Own.seg od
          have kd := own_cap od
          have U4 := HU.out.next bb
          have B4 := next_trans HBD.out bb
          have LC := Lib.hid (containsInt D dn dc (subL sg y k) p w4 sd (by omega))
          clear HU HBD LS bb od c0 c1 c2 hp hq
          by_cases hm : p ∈ subL sg y k
          · rw [decide_eq_true hm] at LC
            have hno : ∀ M, ¬ Short sg a b M := fun M hM => HWAY.out.occurs HS.out (by rw [HEP.out]; exact hn1) (by rw [HEP.out]; exact hm) M hM
            have F := Lib.hid (fun (u : TypeId) (v : Value) => (show AnsStep w g A n c sg a b L (.panicked [{ v := .iface u v, recovered := false }]) w4 from ⟨grown_below B4 _, .inr ⟨hno, u, v, rfl⟩⟩))
            clear hno U4 B4 sd hm
            go_wp2_with fail
            refine LC.out.mono ?_
            rintro e w5 ⟨rfl, rfl⟩
            go_wp2
            exact ⟨rfl, F.out _ _⟩
          · rw [decide_eq_false hm] at LC
            obtain ⟨v, hv⟩ : ∃ v : Nat, p = -1 - (v : Int) := ⟨(-1 - p).toNat, by omega⟩
            have HVR := Lib.hid (show vr p = v by unfold vr; omega)
            have hv24 : v < 24 := by omega
            have HVI := Lib.hid (show -1 - p = (v : Int) by omega)
            have HM := Lib.hid hm
            have LR := Lib.hid (replace g A _ _ D n c pn pc qn qc dn dc gl lb sg x y (subL sg y k) L v w4 U4 sd kd hd1 hdn hv24 hx60 hy60 (fun z hz => HWAY.out.tx.mem hz) (fun z hz => HWAY.out.symm.tx.mem hz) (fun j _ => HWAY.out.each j) (fun j hj z hz => (HWAY.out.part.sub.trm j hj).mem hz))
            have HB4 := Lib.hid B4
            have w64 : IntKind.i64.wrap (-1 - p) = (v : Int) := by rw [IntKind.wrap_i64]; omega
            clear U4 B4 sd hm hv
            go_wp2_with fail
            refine LC.out.mono ?_
            rintro e w5 ⟨rfl, rfl⟩
            go_wp2_with fail
            first
              | rw [HVI.out]
              | rw [w64]
              | skip
            refine LR.out.mono ?_
            rintro e w6 hrep
            have F := Lib.hid (show AnsStep w g A n c sg a b L e w6 from step_of HWAY.out HS.out HEP.out HEQ.out hn1 HM.out H3.out (grown_below HB4.out _) (by rw [HVR.out]; exact hrep))
            obtain ⟨-, ⟨-, -, rfl, -⟩ | ⟨-, u, v, rfl⟩⟩ := hrep
            · clear LR LC
              go_wp2
              first
                | exact bodyPost_ret (results_none rfl _ _ _) rfl F.out
                | (go_end0; exact F.out)
            · clear LR LC
              go_wp2
              exact ⟨rfl, F.out⟩

end Go.Proofs.Ytkmhnkljigncmaa.unifStep
end

section
/-
  CONTRACT: impl.unification.run: it ends with equal terms, or panics where no short unifier is there. Conditions: what stands in the unification's block ('Un') is on the way ('Wy'). By an AI agent.
-/
namespace Go.Proofs.Ytkmhnkljigncmaa.unifRun
open Go.RowKit Go.Proofs.Ytkmhnkljigncmaa.base Go.Proofs.Ytkmhnkljigncmaa.ints Go.Proofs.Ytkmhnkljigncmaa.sig Go.Proofs.Ytkmhnkljigncmaa.term Go.Proofs.Ytkmhnkljigncmaa.termOk Go.Proofs.Ytkmhnkljigncmaa.same Go.Proofs.Ytkmhnkljigncmaa.cursor Go.Proofs.Ytkmhnkljigncmaa.marks Go.Proofs.Ytkmhnkljigncmaa.unifMath Go.Proofs.Ytkmhnkljigncmaa.unifDom Go.Proofs.Ytkmhnkljigncmaa.thn Go.Proofs.Ytkmhnkljigncmaa.unifRep Go.Proofs.Ytkmhnkljigncmaa.unifStep
set_option maxRecDepth 100000

/-- what run leaves -/
def AnsRun (w : World) (g : Nat) (A : Option Addr) (n c : Nat) (sg a b : List Int) (e : Ending) (w' : World) : Prop :=
  w.grownBy w' (some g) ∧ ((∃ x L P pn pc Q qn qc gl lb, e = .returned (.tuple #[]) ∧ Un w' g A n c sg P pn pc x Q qn qc x gl lb L ∧ Wy sg a b L x x) ∨ ((∀ M, ¬ Short sg a b M) ∧ ∃ u v, e = .panicked [{ v := .iface u v, recovered := false }]))
/-- the head of the loop -/
def HeadR (w : World) (g : Nat) (A : Option Addr) (n c : Nat) (sg a b : List Int) (f : Nat) (wr : World) : Prop :=
  w.grownBy wr (some g) ∧ ∃ x y L P pn pc Q qn qc gl lb, Un wr g A n c sg P pn pc x Q qn qc y gl lb L ∧ Wy sg a b L x y ∧ free L + 1 ≤ f

set_option maxHeartbeats 2000000 in
theorem run (g : Nat) (A P Q : Option Addr) (n c pn pc qn qc gl : Nat) (lb : Array Value) (sg a b x y : List Int) (L : Nat → List Int) (w : World) (h : Un w g A n c sg P pn pc x Q qn qc y gl lb L) (hw : Wy sg a b L x y) (hn : n ≤ 1048576) :
    Calls Try.prog 60 #[.pointer (some ⟨g, 0, none⟩)] w (AnsRun w g A n c sg a b) := by
  have HH := Lib.hid (show HeadR w g A n c sg a b 25 w from ⟨World.grownBy.refl _ _, x, y, L, P, pn, pc, Q, qn, qc, gl, lb, h, hw, by have := free_le L; omega⟩)
  clear h hw
  go_enter Try.func60, Try.ntmps60
  go_wp2
  go_loopg [] 25 (fun f_ wr => HeadR w g A n c sg a b f_ wr)
  case atStart => exact HH.out
  case round =>
    obtain ⟨hg, x, y, L, P, pn, pc, Q, qn, qc, gl, lb, U, hw, hf⟩ := hrel
    clear HH
    have hx60 : pn ≤ 60 := by rw [← U.p.1]; exact hw.lx
    have hy60 : qn ≤ 60 := by rw [← U.q.1]; exact hw.ly
    have c1 := U.c1
    have c2 := U.c2
    have HG := Lib.hid hg
    have HF := Lib.hid hf
    have HWAY := Lib.hid hw
    have HU := Lib.hid (fun d => U.next (unifStep.drew_below wr d))
    have LS := Lib.hid (fun d => implSame P Q pn qn pc qc x y (wr.drewN d) (HU.out d).p (HU.out d).q (by omega) (by omega))
    clear U hw hg hf
    go_wp2_with fail
    go_region_held3 (fun w' => w'.cell? ⟨g, 1, none⟩ = some (.slice P pn pc) ∧ w'.cell? ⟨g, 2, none⟩ = some (.slice Q qn qc))
      (exact ⟨c1, c2⟩)
      (first
        | (go_at_call 23; refine (LS.out 1).mono ?_; rintro e w3 ⟨rfl, d, rfl⟩))
    have U1 := HU.out (1 + d)
    have G1 := grown_trans HG.out (grown_below (unifStep.drew_below wr (1 + d)) (some g))
    clear HU HG LS c1 c2
    generalize wr.drewN (1 + d) = w1 at *
    by_cases hxy : x = y
    · subst hxy
      rw [decide_eq_true (show x = x from rfl)]
      have F := Lib.hid (show AnsRun w g A n c sg a b (.returned (.tuple #[])) w1 from ⟨G1, .inl ⟨x, L, P, pn, pc, Q, qn, qc, gl, lb, rfl, U1, HWAY.out⟩⟩)
      clear U1 G1 HWAY HF
      go_wp2
      first
        | exact bodyPost_ret (results_none rfl _ _ _) rfl F.out
        | (go_end0; exact F.out)
    · rw [decide_eq_false hxy]
      have LT := Lib.hid (unifStep.step g A P Q n c pn pc qn qc gl lb sg a b x y L w1 U1 HWAY.out hxy hn)
      have HG1 := Lib.hid G1
      clear U1 G1 HWAY hxy
      go_wp2_with fail
      refine LT.out.mono ?_
      rintro e w2 ⟨g2, ⟨x', y', L', P', pn', pc', Q', qn', qc', gl', lb', rfl, U2, W2, hf2⟩ | ⟨hno, u, v, rfl⟩⟩
      · have S := Lib.hid (show HeadR w g A n c sg a b (gk - 1) w2 from ⟨grown_trans HG1.out g2, x', y', L', P', pn', pc', Q', qn', qc', gl', lb', U2, W2, by have := HF.out; omega⟩)
        have M := Lib.hid (show gk - 1 < gk by have := HF.out; omega)
        clear U2 W2 g2 hf2 LT HF
        go_wp2
        go_roundg (gk - 1)
        case measure => exact M.out
        case rel => exact S.out
      · have F := Lib.hid (show AnsRun w g A n c sg a b (.panicked [{ v := .iface u v, recovered := false }]) w2 from ⟨grown_trans HG1.out g2, .inr ⟨hno, u, v, rfl⟩⟩)
        clear g2 hno LT HF
        go_wp2
        exact ⟨rfl, F.out⟩
end Go.Proofs.Ytkmhnkljigncmaa.unifRun
end

section
/-
  PLAIN MATHEMATICS of Composed: what the composition gives ('compL'), whether all of it fits ('compOk'), its plain form. Conditions: none. By an AI agent.
-/
namespace Go.Proofs.Ytkmhnkljigncmaa.compMath
open Go.Proofs.Ytkmhnkljigncmaa.term Go.Proofs.Ytkmhnkljigncmaa.termOk Go.Proofs.Ytkmhnkljigncmaa.termFacts Go.Proofs.Ytkmhnkljigncmaa.segsHelp Go.Proofs.Ytkmhnkljigncmaa.fillMath Go.Proofs.Ytkmhnkljigncmaa.substOk Go.Proofs.Ytkmhnkljigncmaa.gives Go.Proofs.Ytkmhnkljigncmaa.plainMath Go.Proofs.Ytkmhnkljigncmaa.plainOf

/-- what the composition gives for a variable -/
def compL (us ss : List (List Int)) (i : Nat) : List Int := fillL (givesL us) (givesL ss i)
def compOk (us ss : List (List Int)) : Bool := (List.range 24).all fun i => decide ((compL us ss i).length ≤ 60)
/-- what Composed answers -/
def composedB (sg : List Int) (ss us : List (List Int)) : Bool := substOkB sg ss && (substOkB sg us && compOk us ss)
def composedI (sg : List Int) (ss us : List (List Int)) : List (List Int) := if composedB sg ss us = true then plainL (compL us ss) 24 else []

theorem composed_s {sg : List Int} {ss us : List (List Int)} (h : substOkB sg ss = false) : composedB sg ss us = false := by unfold composedB; rw [h, Bool.false_and]
theorem composed_u {sg : List Int} {ss us : List (List Int)} (h : substOkB sg us = false) : composedB sg ss us = false := by unfold composedB; rw [h, Bool.false_and, Bool.and_false]
theorem composed_b {sg : List Int} {ss us : List (List Int)} (h : substOkB sg ss = true) (h' : substOkB sg us = true) : composedB sg ss us = compOk us ss := by unfold composedB; rw [h, h', Bool.true_and, Bool.true_and]
theorem composed_yes {sg : List Int} {ss us : List (List Int)} (h : composedB sg ss us = true) : composedI sg ss us = plainL (compL us ss) 24 := by unfold composedI; rw [if_pos h]
theorem composed_no {sg : List Int} {ss us : List (List Int)} (h : composedB sg ss us = false) : composedI sg ss us = [] := by unfold composedI; rw [if_neg (by rw [h]; simp)]

theorem compOk_iff {us ss : List (List Int)} : compOk us ss = true ↔ ∀ i, i < 24 → (compL us ss i).length ≤ 60 := by
  unfold compOk
  rw [List.all_eq_true]
  exact ⟨fun h i hi => of_decide_eq_true (h i (List.mem_range.2 hi)), fun h i hi => decide_eq_true (h i (List.mem_range.1 hi))⟩
theorem compOk_no {us ss : List (List Int)} {i : Nat} (hi : i < 24) (h : ¬ (compL us ss i).length ≤ 60) : compOk us ss = false := by
  cases e : compOk us ss with
  | false => rfl
  | true => exact absurd (compOk_iff.1 e i hi) h
theorem comp_out {us ss : List (List Int)} {i : Nat} (h : ss.length ≤ i) (h' : us.length ≤ i) : compL us ss i = vt i := by
  unfold compL
  rw [gives_out (by omega)]
  unfold vt
  rw [fill_cons, fill_nil, List.append_nil, rep_var (by omega), show (-1 - (-1 - (i : Int))).toNat = i by omega, gives_out (by omega)]
  rfl
theorem comp_pos (us ss : List (List Int)) (i : Nat) : 1 ≤ (compL us ss i).length := by
  have h1 := fill_ge (gives_pos us) (givesL ss i)
  have h2 := gives_pos ss i
  unfold compL
  omega
theorem comp_len {sg : List Int} {us ss : List (List Int)} (h : substOkB sg ss = true) (h' : substOkB sg us = true) (i : Nat) : (compL us ss i).length ≤ 3600 := by
  have h1 := fill_len (M := 60) (by omega) (gives_len h') (givesL ss i)
  have h2 := gives_len h i
  have h3 : (givesL ss i).length * 60 ≤ 60 * 60 := Nat.mul_le_mul_right _ h2
  unfold compL
  omega

/-- the composition as a list -/
def outL (us ss : List (List Int)) (k : Nat) : List (List Int) := (List.range k).map (compL us ss)
theorem out_len (us ss : List (List Int)) (k : Nat) : (outL us ss k).length = k := by simp [outL]
theorem out_get {us ss : List (List Int)} {k i : Nat} (h : i < k) : (outL us ss k).getD i [] = compL us ss i := by simp [outL, List.getD, h]
theorem out_succ (us ss : List (List Int)) (k : Nat) : outL us ss (k + 1) = outL us ss k ++ [compL us ss k] := by simp [outL, List.range_succ]
theorem out_gives {us ss : List (List Int)} {k i : Nat} (h : i < k) : givesL (outL us ss k) i = compL us ss i := by
  have := comp_pos us ss i
  rw [gives_term (by rw [out_get h]; omega), out_get h]
theorem out_plain {us ss : List (List Int)} {k : Nat} (hk : k ≤ 24) (h : ss.length ≤ k) (h' : us.length ≤ k) : plainL (givesL (outL us ss k)) k = plainL (compL us ss) 24 := by
  rw [plain_24 hk (fun i hi => comp_out (by omega) (by omega))]
  exact plain_ext fun i hi => out_gives hi
theorem out_each {us ss : List (List Int)} {k : Nat} (hk : k ≤ 24) (h : ∀ i, i < k → (compL us ss i).length ≤ 60) : tot (outL us ss k) ≤ 1048576 := by
  have h1 := tot_le (xss := outL us ss k) (M := 60) (fun j => by
    by_cases hj : j < k
    · rw [out_get hj]; exact h j hj
    · rw [show (outL us ss k).getD j [] = [] by simp [List.getD, out_len, hj]]; simp)
  rw [out_len] at h1
  have : k * 60 ≤ 24 * 60 := Nat.mul_le_mul_right _ hk
  omega

/-- one of the lists is too long for a term -/
def anyLong (xss : List (List Int)) : Bool := xss.any fun t => decide (60 < t.length)
theorem anyLong_iff {xss : List (List Int)} : anyLong xss = true ↔ ∃ i, 60 < (xss.getD i []).length := by
  unfold anyLong
  rw [List.any_eq_true]
  refine ⟨fun ⟨t, ht, h⟩ => ?_, fun ⟨i, h⟩ => ?_⟩
  · obtain ⟨i, hi, rfl⟩ := List.getElem_of_mem ht
    exact ⟨i, by simpa [List.getD, hi] using h⟩
  · by_cases hi : i < xss.length
    · refine ⟨xss[i], List.getElem_mem hi, ?_⟩
      simpa [List.getD, hi] using h
    · rw [show xss.getD i [] = [] by simp [List.getD, hi]] at h
      simp at h
theorem anyLong_comp (us ss : List (List Int)) : anyLong (plainL (compL us ss) 24) = !compOk us ss := by
  cases h : compOk us ss with
  | true =>
    cases e : anyLong (plainL (compL us ss) 24) with
    | false => rfl
    | true =>
      obtain ⟨i, hi⟩ := anyLong_iff.1 e
      rw [plain_get] at hi
      by_cases h24 : i < 24
      · rw [rows_get h24] at hi
        have := compOk_iff.1 h i h24
        unfold bare at hi
        split at hi
        · simp at hi
        · omega
      · rw [show (rowsL (compL us ss) 24).getD i [] = [] by simp [List.getD, rows_len, h24]] at hi
        simp at hi
  | false =>
    have hn : ∃ i, i < 24 ∧ ¬ (compL us ss i).length ≤ 60 := by
      refine Classical.byContradiction fun hne => ?_
      have : compOk us ss = true := compOk_iff.2 fun i hi => Classical.byContradiction fun hl => hne ⟨i, hi, hl⟩
      rw [h] at this
      cases this
    obtain ⟨i, hi, hl⟩ := hn
    refine anyLong_iff.2 ⟨i, ?_⟩
    rw [plain_get, rows_get hi]
    unfold bare
    rw [if_neg (fun e => by rw [e] at hl; simp [vt] at hl)]
    omega
theorem composed_tot {sg : List Int} {ss us : List (List Int)} : tot (composedI sg ss us) ≤ 1048576 := by
  cases h : composedB sg ss us with
  | false => rw [composed_no h]; simp [tot, sumL]
  | true =>
    rw [composed_yes h]
    unfold composedB at h
    simp only [Bool.and_eq_true] at h
    have h1 := tot_le (plain_each (L := compL us ss) (m := 24) (comp_len h.1 h.2.1))
    have h2 := plain_len (compL us ss) 24
    have h4 : (plainL (compL us ss) 24).length * 3600 ≤ 24 * 3600 := Nat.mul_le_mul_right _ h2
    omega
end Go.Proofs.Ytkmhnkljigncmaa.compMath
end

section
/-
  WORDS FOR MEMORY: a table of 24 lists that may be read ('TabR'). Conditions: none; plain lemmas. By an AI agent.
-/
namespace Go.Proofs.Ytkmhnkljigncmaa.whole
open Go.RowKit Go.Proofs.Ytkmhnkljigncmaa.base Go.Proofs.Ytkmhnkljigncmaa.segs Go.Proofs.Ytkmhnkljigncmaa.matchMath
set_option maxRecDepth 100000

/-- 24 empty lists -/
def z24 : Array Value := Array.replicate 24 (.slice none 0 0)
theorem z24_size : z24.size = 24 := by simp [z24]

section
variable {w w' : World} {B B' g : Nat} {cs : Array Value} {s : List (List Int)} {t : TypeId}
/-- 24 lists that may be read, all of them below B -/
def TabR (w : World) (B : Nat) (cs : Array Value) (s : List (List Int)) : Prop :=
  cs.size = 24 ∧ s.length = 24 ∧ ∀ j, j < 24 → ∃ A n c, cs[j]? = some (.slice A n c) ∧ Seg w B A n (s.getD j []) ∧ Cap A n c
theorem TabR.new (w : World) (B : Nat) : TabR w B z24 s0 :=
  ⟨z24_size, rfl, fun j hj => ⟨none, 0, 0, by simp [z24, hj], by rw [s0_get]; exact Seg.empty, ⟨Nat.le_refl _, by omega, fun _ => rfl⟩⟩⟩
theorem TabR.keep (h : TabR w B cs s) (hk : ∀ p : Addr, p.block < B → w'.cell? p = w.cell? p) : TabR w' B cs s :=
  ⟨h.1, h.2.1, fun j hj => by obtain ⟨A, n, c, e, hs, hc⟩ := h.2.2 j hj; exact ⟨A, n, c, e, hs.keep hk, hc⟩⟩
theorem TabR.more (h : TabR w B cs s) (hB : B ≤ B') : TabR w B' cs s :=
  ⟨h.1, h.2.1, fun j hj => by obtain ⟨A, n, c, e, hs, hc⟩ := h.2.2 j hj; exact ⟨A, n, c, e, hs.more hB, hc⟩⟩
theorem TabR.below (h : TabR w B cs s) (hb : Below B w w') : TabR w' B cs s := h.keep fun _ hp => hb.cell hp
theorem TabR.put (h : TabR w B cs s) {j : Nat} (hj : j < 24) {A : Option Addr} {n c : Nat} {ys : List Int} (hs : Seg w B A n ys) (hc : Cap A n c) : TabR w B (cs.setIfInBounds j (.slice A n c)) (s.set j ys) := by
  refine ⟨by rw [Array.size_setIfInBounds]; exact h.1, by rw [List.length_set]; exact h.2.1, fun i hi => ?_⟩
  by_cases e : j = i
  · subst e
    exact ⟨A, n, c, by rw [Array.getElem?_setIfInBounds_self_of_lt (by rw [h.1]; exact hj)], by rw [set_get, if_pos ⟨rfl, by rw [h.2.1]; exact hj⟩]; exact hs, hc⟩
  · obtain ⟨A', n', c', e', hs', hc'⟩ := h.2.2 i hi
    exact ⟨A', n', c', by rw [Array.getElem?_setIfInBounds_ne e]; exact e', by rw [set_get, if_neg (fun hh => e hh.1)]; exact hs', hc'⟩
theorem TabR.one (h : TabR w B cs s) : cs.all (·.oneCell') = true := by
  rw [Array.all_eq_true]
  intro i hi
  obtain ⟨A, n, c, e, _⟩ := h.2.2 i (by rw [← h.1]; exact hi)
  rw [Array.getElem?_eq_getElem hi] at e
  injection e with e
  rw [e]; rfl
theorem TabR.segs (h : TabR w B cs s) (hr : Row w g t cs) (hB : B ≤ w.heap.size) : Segs w w.heap.size (some ⟨g, 0, none⟩) 24 s := by
  refine ⟨h.2.1, fun _ => ⟨g, 0, rfl, hr.lt, fun j hj => ?_⟩⟩
  obtain ⟨A, n, c, e, hs, hc⟩ := h.2.2 j hj
  exact ⟨A, n, c, by rw [Nat.zero_add, hr.cell j, e], hs.more hB, hc⟩
theorem TabR.made (w : World) (B : Nat) : TabR w B (madeCells #[.slice none 0 0] 24) s0 :=
  ⟨size_madeCells _ _, rfl, fun j hj => ⟨none, 0, 0, by simp [madeCells, hj, Nat.mod_one], by rw [s0_get]; exact Seg.empty, ⟨Nat.le_refl _, by omega, fun _ => rfl⟩⟩⟩
end
end Go.Proofs.Ytkmhnkljigncmaa.whole
end

section
/-
  CONTRACT: spec.l5Bind: one variable becomes a term in all that a substitution gives. Conditions: the slices read as lists ('Segs', 'Seg'), what the substitution gives is at most 60 numbers long and holds numbers from -24 on. (The region's walk after XCompSpec.) By an AI agent.
-/
namespace Go.Proofs.Ytkmhnkljigncmaa.bind
open Go.RowKit Go.Proofs.Ytkmhnkljigncmaa.base Go.Proofs.Ytkmhnkljigncmaa.ints Go.Proofs.Ytkmhnkljigncmaa.sig Go.Proofs.Ytkmhnkljigncmaa.cursor Go.Proofs.Ytkmhnkljigncmaa.marks Go.Proofs.Ytkmhnkljigncmaa.app Go.Proofs.Ytkmhnkljigncmaa.appAt Go.Proofs.Ytkmhnkljigncmaa.sym Go.Proofs.Ytkmhnkljigncmaa.segs Go.Proofs.Ytkmhnkljigncmaa.segsHelp Go.Proofs.Ytkmhnkljigncmaa.kinds Go.Proofs.Ytkmhnkljigncmaa.termFacts Go.Proofs.Ytkmhnkljigncmaa.fillMath Go.Proofs.Ytkmhnkljigncmaa.substOk Go.Proofs.Ytkmhnkljigncmaa.gives Go.Proofs.Ytkmhnkljigncmaa.shifted Go.Proofs.Ytkmhnkljigncmaa.filled Go.Proofs.Ytkmhnkljigncmaa.plainMath Go.Proofs.Ytkmhnkljigncmaa.plain Go.Proofs.Ytkmhnkljigncmaa.plainOf Go.Proofs.Ytkmhnkljigncmaa.compMath Go.Proofs.Ytkmhnkljigncmaa.matchMath Go.Proofs.Ytkmhnkljigncmaa.unifMath Go.Proofs.Ytkmhnkljigncmaa.whole
set_option maxRecDepth 100000

/-- a table with one list -/
def us1 (i : Nat) (t : List Int) : List (List Int) := s0.set i t
theorem us1_gives {i : Nat} {t : List Int} (hi : i < 24) (ht : 1 ≤ t.length) (k : Nat) : givesL (us1 i t) k = ones i t k := by
  unfold ones
  by_cases e : k = i
  · subst e
    rw [if_pos rfl]
    have : (us1 k t).getD k [] = t := by unfold us1; rw [set_get, if_pos ⟨rfl, by simpa [s0] using hi⟩]
    rw [gives_term (by rw [this]; omega), this]
  · rw [if_neg e]
    refine gives_var ?_
    unfold us1
    rw [set_get, if_neg (fun h => e h.1.symm), s0_get]
    rfl
/-- what l5Bind gives: all of them bound, if none is too long -/
def AnsBind (w : World) (us ss : List (List Int)) (e : Ending) (w' : World) : Prop :=
  Below w.heap.size w w' ∧ ((∃ A c, e = .returned (.tuple #[.agg #[.slice A 24 c], .bool true]) ∧ Owns w' w.heap.size w'.heap.size A 24 c (outL us ss 24) ∧ ∀ i, i < 24 → (compL us ss i).length ≤ 60) ∨
    (e = .returned (.tuple #[.agg #[.slice none 0 0], .bool false]) ∧ ∃ i, i < 24 ∧ 60 < (compL us ss i).length))

/-- the head of the loop: o is the block of the result so far -/
def HeadB (W3 : World) (o : Nat) (us ss : List (List Int)) (i : Value) (wr : World) : Prop :=
  ∃ (k : Nat) (A : Option Addr) (cA : Nat), k ≤ 24 ∧ i = .int .i64 k ∧ (∀ j, j < k → (compL us ss j).length ≤ 60) ∧ Owns wr (o + 1) wr.heap.size A k cA (outL us ss k) ∧ Row wr o 31 #[.slice A k cA] ∧ Below o W3 wr

set_option maxHeartbeats 8000000 in
theorem l5Bind (S X : Option Addr) (m c xn xc i : Nat) (ss : List (List Int)) (t : List Int) (w : World) (h : Segs w w.heap.size S m ss) (h' : Seg w w.heap.size X xn t) (hcap : Cap X xn xc) (ht : tot ss ≤ 1048576) (hi : i < 24) (h1 : 1 ≤ t.length) (h60 : t.length ≤ 60)
    (hg : ∀ k, (givesL ss k).length ≤ 60) (hv : ∀ k x, x ∈ givesL ss k → k < 24 → -24 ≤ x) :
    Calls Try.prog 105 #[.agg #[.slice S m c], .int .i64 (i : Int), .slice X xn xc] w (AnsBind w (us1 i t) ss) := by
  obtain ⟨us, hus⟩ : ∃ us, us1 i t = us := ⟨_, rfl⟩
  have hmk : ∀ W : World, (Instr.makeSlice 29 (.int .i64 24) (.int .i64 24)).run Try.prog W = .ok (.slice (some ⟨W.heap.size, 0, none⟩) 24 24) (W.alloc (.cells (madeCells #[.slice none 0 0] 24) 24)) := fun W => run_make_lists 24 (by omega) W
  obtain ⟨W2, hW2⟩ : ∃ W, W = (((w.alloc (.cells #[.slice S m c] 31)).alloc (.cells #[.slice none 0 0] 31)).alloc (.cells (madeCells #[.slice none 0 0] 24) 24)).alloc (.cells #[.slice (some ⟨w.heap.size + 1 + 1, 0, none⟩) 24 24] 31) := ⟨_, rfl⟩
  have qT : Row W2 (w.heap.size + 1 + 1) 24 (madeCells #[.slice none 0 0] 24) := by
    rw [hW2]
    have := (Row.new ((w.alloc (.cells #[.slice S m c] 31)).alloc (.cells #[.slice none 0 0] 31)) 24 (madeCells #[.slice none 0 0] 24)).alloc (.cells #[.slice (some ⟨w.heap.size + 1 + 1, 0, none⟩) 24 24] 31)
    simpa using this
  obtain ⟨W3, hW3⟩ : ∃ W, W = ((((w.alloc (.cells #[.slice S m c] 31)).alloc (.cells #[.slice none 0 0] 31)).alloc (.cells ((madeCells #[.slice none 0 0] 24).setIfInBounds i (.slice X xn xc)) 24)).alloc (.cells #[.slice (some ⟨w.heap.size + 1 + 1, 0, none⟩) 24 24] 31)).alloc (.cells #[.slice none 0 0] 31) := ⟨_, rfl⟩
  have z3 : W3.heap.size = w.heap.size + 1 + 1 + 1 + 1 + 1 := by rw [hW3]; simp
  have b3 : Below w.heap.size w W3 := by rw [hW3]; exact (((((Below.refl _ _).alloc (Nat.le_refl _) _).alloc (by simp) _).alloc (by simp; omega) _).alloc (by simp; omega) _).alloc (by simp; omega) _
  have p0 : Row W3 w.heap.size 31 #[.slice S m c] := by rw [hW3]; exact ((((Row.new w _ _).alloc _).alloc _).alloc _).alloc _
  have p1 : Row W3 (w.heap.size + 1) 31 #[.slice none 0 0] := by
    rw [hW3]
    have := (((Row.new (w.alloc (.cells #[.slice S m c] 31)) 31 #[.slice none 0 0]).alloc (.cells ((madeCells #[.slice none 0 0] 24).setIfInBounds i (.slice X xn xc)) 24)).alloc (.cells #[.slice (some ⟨w.heap.size + 1 + 1, 0, none⟩) 24 24] 31)).alloc (.cells #[.slice none 0 0] 31)
    simpa using this
  have pT : Row W3 (w.heap.size + 1 + 1) 24 ((madeCells #[.slice none 0 0] 24).setIfInBounds i (.slice X xn xc)) := by
    rw [hW3]
    have := ((Row.new ((w.alloc (.cells #[.slice S m c] 31)).alloc (.cells #[.slice none 0 0] 31)) 24 ((madeCells #[.slice none 0 0] 24).setIfInBounds i (.slice X xn xc))).alloc (.cells #[.slice (some ⟨w.heap.size + 1 + 1, 0, none⟩) 24 24] 31)).alloc (.cells #[.slice none 0 0] 31)
    simpa using this
  have p3 : Row W3 (w.heap.size + 1 + 1 + 1) 31 #[.slice (some ⟨w.heap.size + 1 + 1, 0, none⟩) 24 24] := by
    rw [hW3]
    have := (Row.new (((w.alloc (.cells #[.slice S m c] 31)).alloc (.cells #[.slice none 0 0] 31)).alloc (.cells ((madeCells #[.slice none 0 0] 24).setIfInBounds i (.slice X xn xc)) 24)) 31 #[.slice (some ⟨w.heap.size + 1 + 1, 0, none⟩) 24 24]).alloc (.cells #[.slice none 0 0] 31)
    simpa using this
  have po : Row W3 (w.heap.size + 1 + 1 + 1 + 1) 31 #[.slice none 0 0] := by
    rw [hW3]
    have := Row.new ((((w.alloc (.cells #[.slice S m c] 31)).alloc (.cells #[.slice none 0 0] 31)).alloc (.cells ((madeCells #[.slice none 0 0] 24).setIfInBounds i (.slice X xn xc)) 24)).alloc (.cells #[.slice (some ⟨w.heap.size + 1 + 1, 0, none⟩) 24 24] 31)) 31 #[.slice none 0 0]
    simpa using this
  have tabX : TabR W3 w.heap.size ((madeCells #[.slice none 0 0] 24).setIfInBounds i (.slice X xn xc)) us := by
    rw [← hus]
    exact (TabR.made W3 w.heap.size).put hi (h'.below b3) hcap
  have su : Segs W3 (w.heap.size + 1 + 1 + 1 + 1) (some ⟨w.heap.size + 1 + 1, 0, none⟩) 24 us := by
    refine ⟨tabX.2.1, fun _ => ⟨w.heap.size + 1 + 1, 0, rfl, by omega, fun j hj => ?_⟩⟩
    obtain ⟨A', n', c', e, hs, hc⟩ := tabX.2.2 j hj
    exact ⟨A', n', c', by rw [Nat.zero_add, pT.cell j, e], hs.more (by omega), hc⟩
  have ss3 : Segs W3 (w.heap.size + 1 + 1 + 1 + 1) S m ss := (h.below b3).more (by omega)
  have eg : ∀ k, givesL us k = ones i t k := fun k => by rw [← hus]; exact us1_gives hi h1 k
  have hgu : ∀ k, (givesL us k).length ≤ 60 := fun k => by rw [eg]; unfold ones; split; exact h60; simp [vt]
  have hul : ∀ k, 24 ≤ k → givesL us k = vt k := fun k hk => by rw [eg]; unfold ones; rw [if_neg (by omega)]
  have hut : tot us ≤ 1048576 := by
    have e1 : ∀ j, (us.getD j []).length ≤ 60 := fun j => by
      rw [← hus]
      unfold us1
      rw [set_get]
      split
      · exact h60
      · rw [s0_get]; simp
    have h1 := tot_le e1
    rw [tabX.2.1] at h1
    omega
  have H0 : HeadB W3 (w.heap.size + 1 + 1 + 1 + 1) us ss (.int .i64 0) W3 := ⟨0, none, 0, Nat.zero_le _, rfl, fun j hj => absurd hj (Nat.not_lt_zero _), by simpa [outL] using Owns.nil _ _ _, po, Below.refl _ _⟩
  have HH := Lib.hid H0
  have HW3 := Lib.hid hW3
  have HS := Lib.hid ss3
  have HU := Lib.hid su
  have HP0 := Lib.hid p0
  have HP1 := Lib.hid p1
  have HP3 := Lib.hid p3
  have HB3 := Lib.hid b3
  have HGS := Lib.hid hg
  have HV := Lib.hid hv
  have HGU := Lib.hid hgu
  have HUL := Lib.hid hul
  have HUT := Lib.hid hut
  have HTT := Lib.hid ht
  have HUS := Lib.hid hus
  have i0 : (0 : Int) ≤ (i : Int) := by omega
  have i1 : (i : Int) < 24 := by omega
  have cT : ((((w.alloc (.cells #[.slice S m c] 31)).alloc (.cells #[.slice none 0 0] 31)).alloc (.cells (madeCells #[.slice none 0 0] 24) 24)).alloc (.cells #[.slice (some ⟨w.heap.size + 1 + 1, 0, none⟩) 24 24] 31)).cell? ⟨w.heap.size + 1 + 1, i, none⟩ = some (.slice none 0 0) := by rw [← hW2, qT.cell i]; simp [madeCells, hi, Nat.mod_one]
  have fT : ((((w.alloc (.cells #[.slice S m c] 31)).alloc (.cells #[.slice none 0 0] 31)).alloc (.cells (madeCells #[.slice none 0 0] 24) 24)).alloc (.cells #[.slice (some ⟨w.heap.size + 1 + 1, 0, none⟩) 24 24] 31)).frozen? ⟨w.heap.size + 1 + 1, i, none⟩ = false := by rw [← hW2]; exact qT.free i
  rw [hus]
  clear b3 p0 p1 p3 pT po tabX su ss3 eg hgu hul hut H0 hW2 hW3 hg hv ht hus h h' hcap qT
  go_enter Try.func105, Try.ntmps105
  go_wp2_with fail
  clear hmk
  rw [← HW3.out]
  clear cT fT
  go_loopw [10] (fun i wr => HeadB W3 (w.heap.size + 1 + 1 + 1 + 1) us ss i wr) (fun i _ => 24 - (intOf i).toNat)
  case atStart => exact HH.out
  case round =>
    obtain ⟨k, O, cO, hk, rfl, hlow, ho, ro, hb⟩ := hrel
    clear HH
    have HLOW := Lib.hid hlow
    clear hlow
    have hz := hb.size
    have cOut : wr.cell? ⟨w.heap.size + 1 + 1 + 1 + 1, 0, none⟩ = some (.slice O k cO) := ro.cell 0
    have cS : wr.cell? ⟨w.heap.size, 0, none⟩ = some (.slice S m c) := (hb.cell (p := ⟨w.heap.size, 0, none⟩) (show w.heap.size < w.heap.size + 1 + 1 + 1 + 1 by omega)).trans (HP0.out.cell 0)
    have cT : wr.cell? ⟨w.heap.size + 1 + 1 + 1, 0, none⟩ = some (.slice (some ⟨w.heap.size + 1 + 1, 0, none⟩) 24 24) := (hb.cell (p := ⟨w.heap.size + 1 + 1 + 1, 0, none⟩) (show w.heap.size + 1 + 1 + 1 < w.heap.size + 1 + 1 + 1 + 1 by omega)).trans (HP3.out.cell 0)
    have p1 : Row wr (w.heap.size + 1) 31 #[.slice none 0 0] := (hb.block (w.heap.size + 1) (by omega)).trans HP1.out
    have hbw : Below w.heap.size w wr := HB3.out.trans (hb.mono (by omega))
    by_cases hlt : k < 24
    · have i0 : (0 : Int) ≤ (k : Int) := by omega
      have i1 : (k : Int) < 24 := by omega
      have HA : Hid (∀ z, blk O = some z → w.heap.size + 1 + 1 + 1 + 1 + 1 ≤ z) := Lib.hid (fun z hz => by
        obtain ⟨vs, hown, _⟩ := ho.row
        exact (World.ownsRow.lt hown z (by rw [blk_own]; exact hz)).1)
      have hrl := ro.lt
      have LG := Lib.hid (l2Gives S m c ss k wr.drew (((HS.out.below hb).more (Nat.le_of_lt hrl)).drew) HTT.out (by omega))
      have t2 := (((HU.out.below hb).more (Nat.le_of_lt hrl)).drew)
      have hv := Lib.hid (fun x hx => HV.out k x hx hlt)
      have h60' := Lib.hid (HGS.out k)
      have OS := Lib.hid (out_succ us ss k)
      obtain ⟨z, hzf⟩ : ∃ z, fitsB us (givesL ss k) = z := ⟨_, rfl⟩
      obtain ⟨ys, hys⟩ : ∃ ys, fitL us (givesL ss k) = ys := ⟨_, rfl⟩
      have HZ := Lib.hid hzf
      have HY := Lib.hid hys
      clear hzf hys
      go_wp2_with fail
      refine wp_region_held_drew (S := (fun w' => w'.cell? ⟨w.heap.size, 0, none⟩ = some (.slice S m c) ∧ w'.cell? ⟨w.heap.size + 1 + 1 + 1, 0, none⟩ = some (.slice (some ⟨w.heap.size + 1 + 1, 0, none⟩) 24 24))) (by kernel_rfl) ⟨cS, cT⟩ (fun hHeld => ?_)
      refine wpAnyH_take (i := 0) (v := ?_) rfl (by kernel_rfl) (by kernel_rfl) (by kernel_rfl) (fun _ _ _ h => h) (Or.inl ⟨by rfl, ?_⟩) (by assumption) ?_
      rotate_left 1
      · (intro w0 hSw; (try dsimp only at hSw); go_simp; try with_reducible rfl)
      try simp only [Act.put, List.setIfInBounds_toArray, List.set_cons_zero, List.set_cons_succ, List.getElem_toArray, List.getElem_cons_zero, List.getElem_cons_succ]
      refine wpAnyH_take (i := 1) (v := ?_) rfl (by kernel_rfl) (by kernel_rfl) (by kernel_rfl) (fun _ _ _ h => h) (Or.inl ⟨by rfl, ?_⟩) (by assumption) ?_
      rotate_left 1
      · (intro w0 hSw; (try dsimp only at hSw); go_simp; try with_reducible rfl)
      try simp only [Act.put, List.setIfInBounds_toArray, List.set_cons_zero, List.set_cons_succ, List.getElem_toArray, List.getElem_cons_zero, List.getElem_cons_succ]
      refine wpAnyH_take (i := 2) (v := ?_) rfl (by kernel_rfl) (by kernel_rfl) (by kernel_rfl) (fun _ _ _ h => h) (Or.inl ⟨by rfl, ?_⟩) (by assumption) ?_
      rotate_left 1
      · (intro w0 hSw; (try dsimp only at hSw); go_simp; try with_reducible rfl)
      try simp only [Act.put, List.setIfInBounds_toArray, List.set_cons_zero, List.set_cons_succ, List.getElem_toArray, List.getElem_cons_zero, List.getElem_cons_succ]
      refine wpAnyH_ready (rs := [3]) (by kernel_rfl) (by simp) (AllReadyH.cons rfl (fun K hK => ?_) AllReadyH.nil)
      go_simp
      refine LG.out.mono ?_; rintro e w3 ⟨Z, zn, zc, rfl, oa, b1⟩; have x1 : w3.cell? ⟨w.heap.size, 0, none⟩ = some (.slice S m c) := (b1.cell (p := ⟨w.heap.size, 0, none⟩) (World.block_lt_of_cell? _ _ cS)).trans cS; have x2 : w3.cell? ⟨w.heap.size + 1 + 1 + 1, 0, none⟩ = some (.slice (some ⟨w.heap.size + 1 + 1, 0, none⟩) 24 24) := (b1.cell (p := ⟨w.heap.size + 1 + 1 + 1, 0, none⟩) (World.block_lt_of_cell? _ _ cT)).trans cT; go_wp2_with fail
      refine hK.out _ _ ?_ (fun hHeld => ?_)
      · first | assumption | (dsimp only; assumption) | exact ⟨by assumption, by assumption⟩
      clear hK K
      try simp only [Act.put, List.setIfInBounds_toArray, List.set_cons_zero, List.set_cons_succ, List.getElem_toArray, List.getElem_cons_zero, List.getElem_cons_succ]
      refine wpAnyH_ready (rs := [4]) (by kernel_rfl) (by simp) (AllReadyH.cons rfl (fun K hK => ?_) AllReadyH.nil)
      go_simp
      refine (l2Filled (some ⟨w.heap.size + 1 + 1, 0, none⟩) Z 24 24 zn zc us (givesL ss k) w3 (t2.next b1) (Own.seg oa) HUT.out (by rw [Own.len oa]; exact h60'.out) hv.out HGU.out).mono ?_; rintro e w4 ⟨Y, yn, yc, he, ob, b2⟩; rw [HZ.out] at he; subst he; rw [HY.out] at ob; have x1' : w4.cell? ⟨w.heap.size, 0, none⟩ = some (.slice S m c) := (b2.cell (p := ⟨w.heap.size, 0, none⟩) (World.block_lt_of_cell? _ _ x1)).trans x1; have x2' : w4.cell? ⟨w.heap.size + 1 + 1 + 1, 0, none⟩ = some (.slice (some ⟨w.heap.size + 1 + 1, 0, none⟩) 24 24) := (b2.cell (p := ⟨w.heap.size + 1 + 1 + 1, 0, none⟩) (World.block_lt_of_cell? _ _ x2)).trans x2; go_wp2_with fail
      refine hK.out _ _ ?_ (fun hHeld => ?_)
      · first | assumption | (dsimp only; assumption) | exact ⟨by assumption, by assumption⟩
      clear hK K
      try simp only [Act.put, List.setIfInBounds_toArray, List.set_cons_zero, List.set_cons_succ, List.getElem_toArray, List.getElem_cons_zero, List.getElem_cons_succ]
      refine wpAnyH_take (i := 5) (v := ?_) rfl (by kernel_rfl) (by kernel_rfl) (by kernel_rfl) (fun _ _ _ h => h) (Or.inl ⟨by rfl, ?_⟩) (by assumption) ?_
      rotate_left 1
      · (intro w0 hSw; (try dsimp only at hSw); go_simp; try with_reducible rfl)
      try simp only [Act.put, List.setIfInBounds_toArray, List.set_cons_zero, List.set_cons_succ, List.getElem_toArray, List.getElem_cons_zero, List.getElem_cons_succ]
      refine wpAnyH_take (i := 6) (v := ?_) rfl (by kernel_rfl) (by kernel_rfl) (by kernel_rfl) (fun _ _ _ h => h) (Or.inl ⟨by rfl, ?_⟩) (by assumption) ?_
      rotate_left 1
      · (intro w0 hSw; (try dsimp only at hSw); go_simp; try with_reducible rfl)
      try simp only [Act.put, List.setIfInBounds_toArray, List.set_cons_zero, List.set_cons_succ, List.getElem_toArray, List.getElem_cons_zero, List.getElem_cons_succ]
      refine wpAnyH_take (i := 7) (v := ?_) rfl (by kernel_rfl) (by kernel_rfl) (by kernel_rfl) (fun _ _ _ h => h) (Or.inl ⟨by rfl, ?_⟩) (by assumption) ?_
      rotate_left 1
      · (intro w0 hSw; (try dsimp only at hSw); go_simp; try with_reducible rfl)
      try simp only [Act.put, List.setIfInBounds_toArray, List.set_cons_zero, List.set_cons_succ, List.getElem_toArray, List.getElem_cons_zero, List.getElem_cons_succ]
      refine wpAnyH_take (i := 8) (v := ?_) rfl (by kernel_rfl) (by kernel_rfl) (by kernel_rfl) (fun _ _ _ h => h) (Or.inl ⟨by rfl, ?_⟩) (by assumption) ?_
      rotate_left 1
      · (intro w0 hSw; (try dsimp only at hSw); go_simp; try with_reducible rfl)
      try simp only [Act.put, List.setIfInBounds_toArray, List.set_cons_zero, List.set_cons_succ, List.getElem_toArray, List.getElem_cons_zero, List.getElem_cons_succ]
      refine wpAnyH_take (i := 9) (v := ?_) rfl (by kernel_rfl) (by kernel_rfl) (by kernel_rfl) (fun _ _ _ h => h) (Or.inl ⟨by rfl, ?_⟩) (by assumption) ?_
      rotate_left 1
      · (intro w0 hSw; (try dsimp only at hSw); go_simp; try with_reducible rfl)
      try simp only [Act.put, List.setIfInBounds_toArray, List.set_cons_zero, List.set_cons_succ, List.getElem_toArray, List.getElem_cons_zero, List.getElem_cons_succ]
      refine wpAnyH_done (by kernel_rfl) ?_ _

      have bb : Below wr.heap.size wr w4 := next_trans (drew_below wr) (next_trans b1 b2)
      have ob2 : Inn w4 wr.heap.size w4.heap.size (.slice Y yn yc) ys := Inn.wider (inn_own ob) (show wr.drew.heap.size ≤ w3.heap.size from b1.size) (Nat.le_refl _)
      clear b1 b2 oa ob x1 x2 x1' x2' cS cT t2 LG
      cases z with
      | true =>
        have hfit : ys = compL us ss k := by rw [← HY.out]; unfold fitL; rw [if_pos HZ.out]; rfl
        have hkk : (compL us ss k).length ≤ 60 := by have := HZ.out; unfold fitsB at this; exact of_decide_eq_true this
        have hz4 := bb.size
        have cO4 : w4.cell? ⟨w.heap.size + 1 + 1 + 1 + 1, 0, none⟩ = some (.slice O k cO) := (ro.next bb).cell 0
        have B5 : Below w4.heap.size w4 (w4.alloc (.cells #[.slice Y yn yc] 24)) := (Below.refl _ _).alloc (Nat.le_refl _) _
        have ho5 := (ho.next bb).next B5
        have i5 := Inn.wider (ob2.next B5) (Nat.le_refl _) (show w4.heap.size ≤ (w4.alloc (.cells #[.slice Y yn yc] 24)).heap.size by simp)
        have r5 := (ro.next bb).next B5
        have c5 : (w4.alloc (.cells #[.slice Y yn yc] 24)).cell? ⟨w.heap.size + 1 + 1 + 1 + 1, 0, none⟩ = some (.slice O k cO) := r5.cell 0
        go_wp2_with (at_builtin; go_must (refine appS1 rfl _ _ rfl (w.heap.size + 1 + 1 + 1 + 1 + 1) wr.heap.size O k cO (outL us ss k) rfl ho5 _ 1 (.slice Y yn yc) ys rfl ((Row.new _ _ _).cell 0) i5 (by omega) (by omega) (by simp; omega) ?_; intro A' cA' w6 ho6 hg6 hat6 b6; have q2 := Row.away r5 hg6 (fun e => by have := HA.out _ e; omega); have c6 : w6.cell? ⟨w.heap.size + 1 + 1 + 1 + 1, 0, none⟩ = some (.slice O k cO) := q2.cell 0; have f6 : w6.frozen? ⟨w.heap.size + 1 + 1 + 1 + 1, 0, none⟩ = false := q2.free 0))
        have S1 : HeadB W3 (w.heap.size + 1 + 1 + 1 + 1) us ss (.int .i64 ((k : Int) + 1)) (w6.setCell ⟨w.heap.size + 1 + 1 + 1 + 1, 0, none⟩ (.slice A' (k + 1) cA')) := by
          have hbb : Below (w.heap.size + 1 + 1 + 1 + 1) W3 w6 := (hb.trans ((next_trans bb B5).mono (Nat.le_of_lt hrl))).grown hg6 (by have := B5.size; omega) (fun z hz => by have := HA.out z hz; omega)
          refine ⟨k + 1, A', cA', hlt, by simp, fun j hj => ?_, ?_, ?_, hbb.setCell (p := ⟨w.heap.size + 1 + 1 + 1 + 1, 0, none⟩) (Nat.le_refl _) _⟩
          · by_cases e : j = k
            · rw [e]; exact hkk
            · exact HLOW.out j (by omega)
          · have ho7 : Owns w6 (w.heap.size + 1 + 1 + 1 + 1 + 1) w6.heap.size A' (k + 1) cA' (outL us ss (k + 1)) := by rw [OS.out, ← hfit]; exact ho6
            have := owns_put ho7 q2 (Nat.lt_succ_self _) 0 (.slice A' (k + 1) cA')
            simpa using this
          · have := q2.put 0 (.slice A' (k + 1) cA')
            simpa using this
        have HS1 := Lib.hid S1
        clear S1 ho6 hg6 hat6 b6 ho5 i5 r5 c5 q2 ob2 bb B5 p1 ro hb hbw ho OS cO4 hfit hkk HY HZ
        go_wp2
        go_roundw
        case rel => exact HS1.out
        case measure => simp [intOf]; omega
      | false =>
        have hno : 60 < (compL us ss k).length := by
          have := HZ.out
          unfold fitsB at this
          have h2 := of_decide_eq_false this
          unfold compL
          omega
        have p1b := p1.next bb
        have hb4 := next_trans hbw bb
        have cR : w4.cell? ⟨w.heap.size + 1, 0, none⟩ = some (.slice none 0 0) := p1b.cell 0
        have fR : w4.frozen? ⟨w.heap.size + 1, 0, none⟩ = false := p1b.free 0
        have F1 := Lib.hid (show AnsBind w us ss (.returned (.tuple #[.agg #[.slice none 0 0], .bool false])) w4 from ⟨hb4, .inr ⟨rfl, k, hlt, hno⟩⟩)
        have F2 := Lib.hid (show AnsBind w us ss (.returned (.tuple #[.agg #[.slice none 0 0], .bool false])) (w4.setCell ⟨w.heap.size + 1, 0, none⟩ (.slice none 0 0)) from ⟨hb4.setCell (p := ⟨w.heap.size + 1, 0, none⟩) (by simp) _, .inr ⟨rfl, k, hlt, hno⟩⟩)
        clear bb hb hbw hb4 p1 p1b ro ho ob2 OS cOut hno
        go_wp2
        first
          | exact bodyPost_ret (v := .tuple #[.agg #[.slice none 0 0], .bool false]) (by simp [results, Try.results105, go_sem, cR]) rfl F1.out
          | exact bodyPost_ret (v := .tuple #[.agg #[.slice none 0 0], .bool false]) (by simp [results, Try.results105, go_sem, cR]) rfl F2.out
    · obtain rfl : k = 24 := by omega
      have cR : wr.cell? ⟨w.heap.size + 1, 0, none⟩ = some (.slice none 0 0) := p1.cell 0
      have fR : wr.frozen? ⟨w.heap.size + 1, 0, none⟩ = false := p1.free 0
      have F : AnsBind w us ss (.returned (.tuple #[.agg #[.slice O 24 cO], .bool true])) (wr.setCell ⟨w.heap.size + 1, 0, none⟩ (.slice O 24 cO)) := by
        refine ⟨hbw.setCell (p := ⟨w.heap.size + 1, 0, none⟩) (by simp) _, .inl ⟨O, cO, rfl, ?_, HLOW.out⟩⟩
        exact (owns_put ho p1 (by omega) 0 _).wider (by omega) (by simp)
      have HF := Lib.hid F
      clear F ho ro hb hbw p1
      go_wp2
      exact bodyPost_ret (v := .tuple #[.agg #[.slice O 24 cO], .bool true]) (by simp [results, Try.results105, go_sem, cR]) rfl HF.out
end Go.Proofs.Ytkmhnkljigncmaa.bind
end
