/-
  MERGED: my texts WalkSpecD, WalkX2, KindsT, Und, UndX, WalkImplC, WalkSpecE, one behind the other, as they are. By an AI agent.
-/
import Derived.Test.YtmaamlnooepogaaGreatMFnExactWalkUnder8
import Derived.Deep.RegionHeld3
import Derived.Shelf.Abstract
section
/-
  CONTRACTS: spec.WalkInside. Conditions: the arguments read as data ('Rd'), at most 1048576 numbers; the place is an int64. Written by a program of mine (mkwalkspecd.py). By an AI agent.
-/
namespace Go.Proofs.YtmaamlnooepogaaGreat.walkSpec
open Go.RowKit Go.Proofs.YtmaamlnooepogaaGreat.base Go.Proofs.YtmaamlnooepogaaGreat.ints Go.Proofs.YtmaamlnooepogaaGreat.sig Go.Proofs.YtmaamlnooepogaaGreat.term Go.Proofs.YtmaamlnooepogaaGreat.termOk Go.Proofs.YtmaamlnooepogaaGreat.endAt Go.Proofs.YtmaamlnooepogaaGreat.endOf Go.Proofs.YtmaamlnooepogaaGreat.marks Go.Proofs.YtmaamlnooepogaaGreat.app Go.Proofs.YtmaamlnooepogaaGreat.sym Go.Proofs.YtmaamlnooepogaaGreat.sub Go.Proofs.YtmaamlnooepogaaGreat.segs Go.Proofs.YtmaamlnooepogaaGreat.segsHelp Go.Proofs.YtmaamlnooepogaaGreat.kinds Go.Proofs.YtmaamlnooepogaaGreat.termFacts Go.Proofs.YtmaamlnooepogaaGreat.same Go.Proofs.YtmaamlnooepogaaGreat.shifted Go.Proofs.YtmaamlnooepogaaGreat.shape Go.Proofs.YtmaamlnooepogaaGreat.kindsR Go.Proofs.YtmaamlnooepogaaGreat.kindsW Go.Proofs.YtmaamlnooepogaaGreat.varsOf Go.Proofs.YtmaamlnooepogaaGreat.ruleMath Go.Proofs.YtmaamlnooepogaaGreat.ruleSpec Go.Proofs.YtmaamlnooepogaaGreat.stepMath Go.Proofs.YtmaamlnooepogaaGreat.walkMath Go.Proofs.YtmaamlnooepogaaGreat.stepSpec Go.Proofs.YtmaamlnooepogaaGreat.ownL Go.Proofs.YtmaamlnooepogaaGreat.heldT
set_option maxRecDepth 100000

/-! ### plain facts -/
def fitsAll (sg t : List Int) (k : Wk) (p : Nat) : Bool := decide ((putAt sg t k.1 p).length ≤ 60) && k.2.all fun s => decide ((putAt sg t s.2.2 p).length ≤ 60)
def insideB (sg : List Int) (rs : List Rl) (k : Wk) (t : List Int) (x : Int) : Bool := (rightB sg rs t && walkB sg rs k) && (walkMath.inB x t.length && fitsAll sg t k x.toNat)
def insideW (sg : List Int) (rs : List Rl) (k : Wk) (t : List Int) (x : Int) : Wk := if insideB sg rs k t x = true then (putAt sg t k.1 x.toNat, insS sg t x.toNat k.2) else ([], [])
section
variable {sg : List Int} {rs : List Rl} {k : Wk} {t : List Int} {x : Int}
theorem ins_off (h : insideB sg rs k t x = false) : insideW sg rs k t x = ([], []) ∧ insideB sg rs k t x = false := ⟨by unfold insideW; rw [if_neg (by rw [h]; simp)], h⟩
theorem ins_no1 (h : rightB sg rs t = false) : insideW sg rs k t x = ([], []) ∧ insideB sg rs k t x = false := ins_off (by unfold insideB; rw [h]; rfl)
theorem ins_no2 (h : walkB sg rs k = false) : insideW sg rs k t x = ([], []) ∧ insideB sg rs k t x = false := ins_off (by unfold insideB; rw [h, Bool.and_false]; rfl)
theorem ins_no3 (h : walkMath.inB x t.length = false) : insideW sg rs k t x = ([], []) ∧ insideB sg rs k t x = false := ins_off (by unfold insideB; rw [h]; simp)
theorem ins_no4 {p : Nat} (h : ¬ (putAt sg t k.1 p).length ≤ 60) : insideW sg rs k t (p : Int) = ([], []) ∧ insideB sg rs k t (p : Int) = false := ins_off (by unfold insideB fitsAll; rw [Int.toNat_natCast, decide_eq_false h]; simp)
theorem ins_no5 {p i : Nat} {y : St} (hi : i < k.2.length) (hy : k.2.getD i (0, 0, []) = y) (h : ¬ (putAt sg t y.2.2 p).length ≤ 60) : insideW sg rs k t (p : Int) = ([], []) ∧ insideB sg rs k t (p : Int) = false := ins_off (by
  unfold insideB fitsAll
  rw [Int.toNat_natCast]
  have : (k.2.all fun s => decide ((putAt sg t s.2.2 p).length ≤ 60)) = false := by
    rw [List.all_eq_false]
    refine ⟨y, ?_, by rw [decide_eq_false h]; simp⟩
    rw [← hy]
    simp [List.getD, hi]
  rw [this]; simp)
theorem ins_yes {p : Nat} (h1 : rightB sg rs t = true) (h2 : walkB sg rs k = true) (h3 : p < t.length) (h4 : (putAt sg t k.1 p).length ≤ 60) (h5 : ∀ i, i < k.2.length → (putAt sg t (k.2.getD i (0, 0, [])).2.2 p).length ≤ 60) : insideW sg rs k t (p : Int) = (putAt sg t k.1 p, insS sg t p k.2) ∧ insideB sg rs k t (p : Int) = true := by
  have h : insideB sg rs k t (p : Int) = true := by
    unfold insideB fitsAll walkMath.inB
    rw [h1, h2, Int.toNat_natCast, decide_eq_true h4, decide_eq_true (show 0 ≤ (p : Int) ∧ (p : Int) < t.length by omega)]
    have : (k.2.all fun s => decide ((putAt sg t s.2.2 p).length ≤ 60)) = true := by
      rw [List.all_eq_true]
      intro s hs
      obtain ⟨i, hi, rfl⟩ := List.getElem_of_mem hs
      have := h5 i hi
      have e : k.2.getD i (0, 0, []) = k.2[i] := by simp [List.getD, hi]
      rw [e] at this
      exact decide_eq_true this
    rw [this]; rfl
  exact ⟨by unfold insideW; rw [if_pos h, Int.toNat_natCast], h⟩
end
/-- the places of a walk's steps -/
theorem go_ats {sg : List Int} {rs : List Rl} : ∀ {ss : List St} {t v : List Int}, goOn sg rs t ss = some v → ∀ s ∈ ss, 0 ≤ s.1 ∧ s.1 < 60
  | [], _, _, _, _, hs => by cases hs
  | x :: ss, t, v, h, s, hs => by
    obtain ⟨h1, h2⟩ := go_cons.1 h
    rcases List.mem_cons.1 hs with hs | hs
    · subst hs
      obtain ⟨-, q2, q3, -⟩ := walkMath.there_parts (stepAt_parts h1).1
      have := (term_len q2).2
      exact ⟨q3.1, by omega⟩
    · exact go_ats h2 s hs
theorem walk_at {sg : List Int} {rs : List Rl} {k : Wk} {i : Nat} {y : St} (h : walkB sg rs k = true) (hi : i < k.2.length) (hy : k.2.getD i (0, 0, []) = y) : (0 ≤ y.1 ∧ y.1 < 60) ∧ termOkB sg y.2.2 = true := by
  obtain ⟨-, q2, -, q4⟩ := walk_parts h
  have hm : y ∈ k.2 := by rw [← hy]; simp [List.getD, hi]
  exact ⟨go_ats q4 y hm, (go_ok q2 q4).2 y hm⟩
theorem ins_take {sg C : List Int} {p i : Nat} {L : List St} {xa xr : Int} {ys : List Int} (hi : i < L.length) (hy : L.getD i (0, 0, []) = (xa, xr, ys)) : insS sg C p (L.take i) ++ [((p : Int) + xa, xr, putAt sg C ys p)] = insS sg C p (L.take (i + 1)) := by
  have e := take_step hi hy
  unfold insS
  rw [← e, List.map_append]
  rfl
theorem ins_len {sg C : List Int} {p i : Nat} {L : List St} (h : L.length ≤ 60) : (insS sg C p (L.take i)).length ≤ 60 := by unfold insS; rw [List.length_map, List.length_take]; omega

structure Wi (w : World) (a v f s : Value) (B : Nat) (X O : Option Addr) (xn xc on oc : Nat) (fr : List Int) (L : List St) (wr : World) : Prop where
  r0 : Row wr w.heap.size 29 #[a, v]
  r1 : Row wr (w.heap.size + 1) 32 #[f, s]
  r2 : Row wr (w.heap.size + 1 + 1) 32 #[.slice none 0 0, .slice none 0 0]
  r3 : Row wr B 32 #[.slice X xn xc, .slice O on oc]
  x : Ownd wr (w.heap.size + 1 + 1 + 1) B X xn xc fr
  o : OwnL wr (B + 1) wr.heap.size 86 sStep O on oc L
  b : Below w.heap.size w wr
  z : w.heap.size + 1 + 1 + 1 ≤ B
theorem Wi.next {w wr w' : World} {a v f s : Value} {B : Nat} {X O : Option Addr} {xn xc on oc : Nat} {fr : List Int} {L : List St} (h : Wi w a v f s B X O xn xc on oc fr L wr) (hb : Below wr.heap.size wr w') : Wi w a v f s B X O xn xc on oc fr L w' :=
  ⟨h.r0.next hb, h.r1.next hb, h.r2.next hb, h.r3.next hb, h.x.next hb, (h.o.next hb).wider (Nat.le_refl _) hb.size, next_trans h.b hb, h.z⟩

set_option maxHeartbeats 8000000 in
theorem specWalkInside (a v f s u : Value) (d : Dat sSystem) (k : Dat sWalk) (t : List Int) (p : Int) (w : World) (h : Rd w w.heap.size sSystem [a, v] d) (h1 : Rd w w.heap.size sWalk [f, s] k) (h2 : Rd w w.heap.size sI [u] t) (hz : sz sSystem d ≤ 1048576) (hz1 : sz sWalk k ≤ 1048576) (hz2 : sz sI t ≤ 1048576) (p1 : -9223372036854775808 ≤ p) (p2 : p ≤ 9223372036854775807) :
    Calls Tryz.prog 9 #[.agg #[a, v], .agg #[f, s], u, .int .i64 p] w (AnsWalk w (insideW d.1 d.2 k t p) (insideB d.1 d.2 k t p)) := by
  obtain ⟨F, fn, fc, S, sn, sc, rfl, rfl, hF, hcF, hfn, hsn0, hsn, hcS, hrF, hrS, hzF, hzS⟩ := rd_walk h1 hz1
  obtain ⟨T, m, c, rfl, hT, hcT⟩ := rd_ints.1 h2
  have hm := len_ints hT.1 hz2
  have h0 := h
  obtain ⟨A, n, cs, V, q, cv, rfl, rfl, hs, hc, hcv, hq, hn, hq1, hrs, hsg, hE⟩ := rd_sys h hz
  obtain ⟨W, hW, r0, r1, r2, bel⟩ : ∃ W, W = ((w.alloc (.cells #[.slice A n cs, .slice V q cv] 29)).alloc (.cells #[.slice F fn fc, .slice S sn sc] 32)).alloc (.cells #[.slice none 0 0, .slice none 0 0] 32) ∧ Row W w.heap.size 29 #[.slice A n cs, .slice V q cv] ∧ Row W (w.heap.size + 1) 32 #[.slice F fn fc, .slice S sn sc] ∧ Row W (w.heap.size + 1 + 1) 32 #[.slice none 0 0, .slice none 0 0] ∧ Below w.heap.size w W := by
    refine ⟨_, rfl, ((Row.new w _ _).alloc _).alloc _, ?_, ?_, (((Below.refl _ _).alloc (Nat.le_refl _) _).alloc (by simp) _).alloc (by simp; omega) _⟩
    · have := (Row.new (w.alloc (.cells #[.slice A n cs, .slice V q cv] 29)) 32 #[.slice F fn fc, .slice S sn sc]).alloc (.cells #[.slice none 0 0, .slice none 0 0] 32)
      simpa using this
    · have := Row.new ((w.alloc (.cells #[.slice A n cs, .slice V q cv] 29)).alloc (.cells #[.slice F fn fc, .slice S sn sc] 32)) 32 #[.slice none 0 0, .slice none 0 0]
      simpa using this
  have HW := Lib.hid hW
  have L1 := Lib.hid (l7Right _ _ d T m c t W (h0.next bel) hz (hT.next bel) hm)
  have L2 := Lib.hid (fun (w1 : World) (bb : Below w.heap.size w w1) => specWalkOk _ _ _ _ d k w1 (h0.next bb) (h1.next bb) hz hz1)
  have HST := Lib.hid (show Seg w w.heap.size A n d.1 ∧ Seg w w.heap.size T m t ∧ Seg w w.heap.size F fn k.1 from ⟨hs, hT, hF⟩)
  have HRS := Lib.hid hrS
  have HTL := Lib.hid hT.1
  have HSN := Lib.hid hsn0
  have HZS := Lib.hid hzS
  have HCF := Lib.hid hcF.2.2
  have hcT1 := hcT.1
  have hcT2 := hcT.2.1
  clear hW h h0 h1 h2 hz hz1 hz2 hF hcF hcS hrF hrS hzF hzS hT hcT hs hc hcv hq hrs hsg hE hsn0
  cases okr : rightB d.1 d.2 t with
  | false =>
    have HR := Lib.hid okr
    clear okr
    go_enter Tryz.func9, Tryz.ntmps9
    go_wp2_with fail
    rw [← HW.out]
    refine L1.out.mono ?_
    rintro e w1 ⟨he, bb⟩
    rw [HR.out] at he
    subst he
    replace r2 := r2.next bb
    replace bel := next_trans bel bb
    clear L2
    have y0 : w1.cell? ⟨w.heap.size + 1 + 1, 0, none⟩ = some (.slice none 0 0) := r2.cell 0
    have y1 : w1.cell? ⟨w.heap.size + 1 + 1, 1, none⟩ = some (.slice none 0 0) := r2.cell 1
    have g0 := r2.free 0
    have g1 := r2.free 1
    have ra := r2.put 0 (.slice none 0 0)
    have y2 : (w1.setCell ⟨w.heap.size + 1 + 1, 0, none⟩ (.slice none 0 0)).cell? ⟨w.heap.size + 1 + 1, 1, none⟩ = some (.slice none 0 0) := ra.cell 1
    have g2 := ra.free 1
    have rb := ra.put 1 (.slice none 0 0)
    have u0 : ((w1.setCell ⟨w.heap.size + 1 + 1, 0, none⟩ (.slice none 0 0)).setCell ⟨w.heap.size + 1 + 1, 1, none⟩ (.slice none 0 0)).cell? ⟨w.heap.size + 1 + 1, 0, none⟩ = some (.slice none 0 0) := rb.cell 0
    have u1 : ((w1.setCell ⟨w.heap.size + 1 + 1, 0, none⟩ (.slice none 0 0)).setCell ⟨w.heap.size + 1 + 1, 1, none⟩ (.slice none 0 0)).cell? ⟨w.heap.size + 1 + 1, 1, none⟩ = some (.slice none 0 0) := rb.cell 1
    have FZ : AnsWalk w (insideW d.1 d.2 k t p) (insideB d.1 d.2 k t p) (.returned (.tuple #[.agg #[.slice none 0 0, .slice none 0 0], .bool false])) ((w1.setCell ⟨w.heap.size + 1 + 1, 0, none⟩ (.slice none 0 0)).setCell ⟨w.heap.size + 1 + 1, 1, none⟩ (.slice none 0 0)) := ansWalk_no (ins_no1 HR.out) (((bel).setCell (show w.heap.size ≤ w.heap.size + 1 + 1 by omega) _).setCell (show w.heap.size ≤ w.heap.size + 1 + 1 by omega) _)
    have HFZ := Lib.hid FZ
    clear FZ ra rb bb bel r0 r1 r2
    go_wp2
    exact bodyPost_ret (v := .tuple #[.agg #[.slice none 0 0, .slice none 0 0], .bool false]) (by simp [results, Tryz.results9, go_sem, u0, u1]) rfl HFZ.out
  | true =>
    have HR := Lib.hid okr
    clear okr
    cases okw : walkB d.1 d.2 k with
    | false =>
      have HO := Lib.hid okw
      clear okw
      go_enter Tryz.func9, Tryz.ntmps9
      go_wp2_with fail
      rw [← HW.out]
      refine L1.out.mono ?_
      rintro e w1 ⟨he, bb⟩
      rw [HR.out] at he
      subst he
      replace r0 := r0.next bb
      replace r1 := r1.next bb
      replace r2 := r2.next bb
      replace bel := next_trans bel bb
      have k0 : w1.cell? ⟨w.heap.size, 0, none⟩ = some (.slice A n cs) := r0.cell 0
      have k1 : w1.cell? ⟨w.heap.size, 1, none⟩ = some (.slice V q cv) := r0.cell 1
      have k2 : w1.cell? ⟨w.heap.size + 1, 0, none⟩ = some (.slice F fn fc) := r1.cell 0
      have k3 : w1.cell? ⟨w.heap.size + 1, 1, none⟩ = some (.slice S sn sc) := r1.cell 1
      clear bb L1
      go_wp2_with fail
      refine (L2.out w1 bel).mono ?_
      rintro e w2 ⟨he, bb⟩
      rw [HO.out] at he
      subst he
      replace r2 := r2.next bb
      replace bel := next_trans bel bb
      clear L2 k0 k1 k2 k3
      have y0 : w2.cell? ⟨w.heap.size + 1 + 1, 0, none⟩ = some (.slice none 0 0) := r2.cell 0
      have y1 : w2.cell? ⟨w.heap.size + 1 + 1, 1, none⟩ = some (.slice none 0 0) := r2.cell 1
      have g0 := r2.free 0
      have g1 := r2.free 1
      have ra := r2.put 0 (.slice none 0 0)
      have y2 : (w2.setCell ⟨w.heap.size + 1 + 1, 0, none⟩ (.slice none 0 0)).cell? ⟨w.heap.size + 1 + 1, 1, none⟩ = some (.slice none 0 0) := ra.cell 1
      have g2 := ra.free 1
      have rb := ra.put 1 (.slice none 0 0)
      have u0 : ((w2.setCell ⟨w.heap.size + 1 + 1, 0, none⟩ (.slice none 0 0)).setCell ⟨w.heap.size + 1 + 1, 1, none⟩ (.slice none 0 0)).cell? ⟨w.heap.size + 1 + 1, 0, none⟩ = some (.slice none 0 0) := rb.cell 0
      have u1 : ((w2.setCell ⟨w.heap.size + 1 + 1, 0, none⟩ (.slice none 0 0)).setCell ⟨w.heap.size + 1 + 1, 1, none⟩ (.slice none 0 0)).cell? ⟨w.heap.size + 1 + 1, 1, none⟩ = some (.slice none 0 0) := rb.cell 1
      have FZ : AnsWalk w (insideW d.1 d.2 k t p) (insideB d.1 d.2 k t p) (.returned (.tuple #[.agg #[.slice none 0 0, .slice none 0 0], .bool false])) ((w2.setCell ⟨w.heap.size + 1 + 1, 0, none⟩ (.slice none 0 0)).setCell ⟨w.heap.size + 1 + 1, 1, none⟩ (.slice none 0 0)) := ansWalk_no (ins_no2 HO.out) (((bel).setCell (show w.heap.size ≤ w.heap.size + 1 + 1 by omega) _).setCell (show w.heap.size ≤ w.heap.size + 1 + 1 by omega) _)
      have HFZ := Lib.hid FZ
      clear FZ ra rb bb bel r0 r1 r2
      go_wp2
      exact bodyPost_ret (v := .tuple #[.agg #[.slice none 0 0, .slice none 0 0], .bool false]) (by simp [results, Tryz.results9, go_sem, u0, u1]) rfl HFZ.out
    | true =>
      have HO := Lib.hid okw
      clear okw
      have h60 : sn ≤ 60 := by rw [← HSN.out]; exact (walk_parts HO.out).2.2.1
      have hm60 : m ≤ 60 := by have := (term_len (right_parts HR.out).2).2; have := HTL.out; omega
      cases hx : decide (0 ≤ p ∧ p < (m : Int)) with
      | false =>
        have HX := Lib.hid hx
        clear hx
        go_enter Tryz.func9, Tryz.ntmps9
        go_wp2_with fail
        rw [← HW.out]
        refine L1.out.mono ?_
        rintro e w1 ⟨he, bb⟩
        rw [HR.out] at he
        subst he
        replace r0 := r0.next bb
        replace r1 := r1.next bb
        replace r2 := r2.next bb
        replace bel := next_trans bel bb
        have k0 : w1.cell? ⟨w.heap.size, 0, none⟩ = some (.slice A n cs) := r0.cell 0
        have k1 : w1.cell? ⟨w.heap.size, 1, none⟩ = some (.slice V q cv) := r0.cell 1
        have k2 : w1.cell? ⟨w.heap.size + 1, 0, none⟩ = some (.slice F fn fc) := r1.cell 0
        have k3 : w1.cell? ⟨w.heap.size + 1, 1, none⟩ = some (.slice S sn sc) := r1.cell 1
        clear bb L1
        go_wp2_with fail
        refine (L2.out w1 bel).mono ?_
        rintro e w2 ⟨he, bb⟩
        rw [HO.out] at he
        subst he
        replace r2 := r2.next bb
        replace bel := next_trans bel bb
        clear L2 k0 k1 k2 k3
        go_wp2_with fail
        refine (there T m c p _ _ hm HX.out).mono ?_
        rintro e w3 ⟨rfl, rfl⟩
        have y0 : w2.cell? ⟨w.heap.size + 1 + 1, 0, none⟩ = some (.slice none 0 0) := r2.cell 0
        have y1 : w2.cell? ⟨w.heap.size + 1 + 1, 1, none⟩ = some (.slice none 0 0) := r2.cell 1
        have g0 := r2.free 0
        have g1 := r2.free 1
        have ra := r2.put 0 (.slice none 0 0)
        have y2 : (w2.setCell ⟨w.heap.size + 1 + 1, 0, none⟩ (.slice none 0 0)).cell? ⟨w.heap.size + 1 + 1, 1, none⟩ = some (.slice none 0 0) := ra.cell 1
        have g2 := ra.free 1
        have rb := ra.put 1 (.slice none 0 0)
        have u0 : ((w2.setCell ⟨w.heap.size + 1 + 1, 0, none⟩ (.slice none 0 0)).setCell ⟨w.heap.size + 1 + 1, 1, none⟩ (.slice none 0 0)).cell? ⟨w.heap.size + 1 + 1, 0, none⟩ = some (.slice none 0 0) := rb.cell 0
        have u1 : ((w2.setCell ⟨w.heap.size + 1 + 1, 0, none⟩ (.slice none 0 0)).setCell ⟨w.heap.size + 1 + 1, 1, none⟩ (.slice none 0 0)).cell? ⟨w.heap.size + 1 + 1, 1, none⟩ = some (.slice none 0 0) := rb.cell 1
        have FZ : AnsWalk w (insideW d.1 d.2 k t p) (insideB d.1 d.2 k t p) (.returned (.tuple #[.agg #[.slice none 0 0, .slice none 0 0], .bool false])) ((w2.setCell ⟨w.heap.size + 1 + 1, 0, none⟩ (.slice none 0 0)).setCell ⟨w.heap.size + 1 + 1, 1, none⟩ (.slice none 0 0)) := ansWalk_no (ins_no3 (by unfold walkMath.inB; rw [HTL.out]; exact HX.out)) (((bel).setCell (show w.heap.size ≤ w.heap.size + 1 + 1 by omega) _).setCell (show w.heap.size ≤ w.heap.size + 1 + 1 by omega) _)
        have HFZ := Lib.hid FZ
        clear FZ ra rb bb bel r0 r1 r2
        go_wp2
        exact bodyPost_ret (v := .tuple #[.agg #[.slice none 0 0, .slice none 0 0], .bool false]) (by simp [results, Tryz.results9, go_sem, u0, u1]) rfl HFZ.out
      | true =>
        have HX := Lib.hid hx
        have hx0 := of_decide_eq_true hx
        clear hx
        obtain ⟨p, rfl⟩ := Int.eq_ofNat_of_zero_le hx0.1
        have hpm : p < m := by omega
        have HPT := Lib.hid (show p < t.length by rw [HTL.out]; exact hpm)
        have LPF := Lib.hid (fun (w3 : World) (bb : Below w.heap.size w w3) (U : Option Addr) (un uc : Nat) (y : List Int) (hy : Seg w3 w3.heap.size U un y) (hcu : U = none → uc = 0) (hun : un ≤ 60) => put.l3Put A T U n cs m c un uc d.1 t y p w3 (HST.out.1.next bb) (HST.out.2.1.next bb) hy hcu hn hm hun hcT1 hcT2 (right_parts HR.out).2 HPT.out)
        have hfn60 : fn ≤ 60 := by have := (term_len (walk_parts HO.out).2.1).2; have := HST.out.2.2.1; omega
        clear hx0
        go_enter Tryz.func9, Tryz.ntmps9
        go_wp2_with fail
        rw [← HW.out]
        refine L1.out.mono ?_
        rintro e w1 ⟨he, bb⟩
        rw [HR.out] at he
        subst he
        replace r0 := r0.next bb
        replace r1 := r1.next bb
        replace r2 := r2.next bb
        replace bel := next_trans bel bb
        have k0 : w1.cell? ⟨w.heap.size, 0, none⟩ = some (.slice A n cs) := r0.cell 0
        have k1 : w1.cell? ⟨w.heap.size, 1, none⟩ = some (.slice V q cv) := r0.cell 1
        have k2 : w1.cell? ⟨w.heap.size + 1, 0, none⟩ = some (.slice F fn fc) := r1.cell 0
        have k3 : w1.cell? ⟨w.heap.size + 1, 1, none⟩ = some (.slice S sn sc) := r1.cell 1
        clear bb L1
        go_wp2_with fail
        refine (L2.out w1 bel).mono ?_
        rintro e w2 ⟨he, bb⟩
        rw [HO.out] at he
        subst he
        replace r0 := r0.next bb
        replace r1 := r1.next bb
        replace r2 := r2.next bb
        replace bel := next_trans bel bb
        clear L2 k0 k1 k2 k3 bb
        have k0 : w2.cell? ⟨w.heap.size, 0, none⟩ = some (.slice A n cs) := r0.cell 0
        have k2 : w2.cell? ⟨w.heap.size + 1, 0, none⟩ = some (.slice F fn fc) := r1.cell 0
        go_wp2_with fail
        refine (there T m c (p : Int) _ _ hm HX.out).mono ?_
        rintro e w3 ⟨rfl, rfl⟩
        have LP1 := Lib.hid (LPF.out w2 bel F fn fc k.1 (HST.out.2.2.next bel) HCF.out hfn60)
        go_wp2_with fail
        refine LP1.out.mono ?_
        rintro e w3 ⟨X, xn, xc, rfl, oX, bb⟩
        have zX := bb.size
        have z2w := r2.lt
        replace r0 := r0.next bb
        replace r1 := r1.next bb
        replace r2 := r2.next bb
        replace bel := next_trans bel bb
        clear k0 k2 LP1
        cases hb1 : put.fitB d.1 t k.1 p with
        | false =>
          have HB1 := Lib.hid (show ¬ (putAt d.1 t k.1 p).length ≤ 60 from of_decide_eq_false hb1)
          clear hb1 bb
          have y0 : w3.cell? ⟨w.heap.size + 1 + 1, 0, none⟩ = some (.slice none 0 0) := r2.cell 0
          have y1 : w3.cell? ⟨w.heap.size + 1 + 1, 1, none⟩ = some (.slice none 0 0) := r2.cell 1
          have g0 := r2.free 0
          have g1 := r2.free 1
          have ra := r2.put 0 (.slice none 0 0)
          have y2 : (w3.setCell ⟨w.heap.size + 1 + 1, 0, none⟩ (.slice none 0 0)).cell? ⟨w.heap.size + 1 + 1, 1, none⟩ = some (.slice none 0 0) := ra.cell 1
          have g2 := ra.free 1
          have rb := ra.put 1 (.slice none 0 0)
          have u0 : ((w3.setCell ⟨w.heap.size + 1 + 1, 0, none⟩ (.slice none 0 0)).setCell ⟨w.heap.size + 1 + 1, 1, none⟩ (.slice none 0 0)).cell? ⟨w.heap.size + 1 + 1, 0, none⟩ = some (.slice none 0 0) := rb.cell 0
          have u1 : ((w3.setCell ⟨w.heap.size + 1 + 1, 0, none⟩ (.slice none 0 0)).setCell ⟨w.heap.size + 1 + 1, 1, none⟩ (.slice none 0 0)).cell? ⟨w.heap.size + 1 + 1, 1, none⟩ = some (.slice none 0 0) := rb.cell 1
          have FZ : AnsWalk w (insideW d.1 d.2 k t p) (insideB d.1 d.2 k t p) (.returned (.tuple #[.agg #[.slice none 0 0, .slice none 0 0], .bool false])) ((w3.setCell ⟨w.heap.size + 1 + 1, 0, none⟩ (.slice none 0 0)).setCell ⟨w.heap.size + 1 + 1, 1, none⟩ (.slice none 0 0)) := ansWalk_no (ins_no4 HB1.out) (((bel).setCell (show w.heap.size ≤ w.heap.size + 1 + 1 by omega) _).setCell (show w.heap.size ≤ w.heap.size + 1 + 1 by omega) _)
          have HFZ := Lib.hid FZ
          clear FZ ra rb bel r0 r1 r2 oX LPF
          go_wp2
          exact bodyPost_ret (v := .tuple #[.agg #[.slice none 0 0, .slice none 0 0], .bool false]) (by simp [results, Tryz.results9, go_sem, u0, u1]) rfl HFZ.out
        | true =>
          have HB1 := Lib.hid (show (putAt d.1 t k.1 p).length ≤ 60 from of_decide_eq_true hb1)
          have oX1 : Own w3 w2.heap.size (.slice X xn xc) (putAt d.1 t k.1 p) := by
            have := oX
            unfold put.fitL at this
            rw [if_pos hb1] at this
            exact this
          have b4 : Below w3.heap.size w3 (w3.alloc (.cells #[.slice X xn xc, .slice none 0 0] 32)) := (Below.refl _ _).alloc (Nat.le_refl _) _
          obtain ⟨W4, hW4⟩ : ∃ W4, W4 = w3.alloc (.cells #[.slice X xn xc, .slice none 0 0] 32) := ⟨_, rfl⟩
          have HI0 := Lib.hid (show Wi w (.slice A n cs) (.slice V q cv) (.slice F fn fc) (.slice S sn sc) w3.heap.size X none xn xc 0 0 (putAt d.1 t k.1 p) (insS d.1 t p (k.2.take 0)) W4 from by
            rw [hW4]
            exact ⟨r0.next b4, r1.next b4, r2.next b4, Row.new _ _ _, ((Ownd.of_own oX1).next b4).wider (by omega) (Nat.le_refl _), OwnL.nil _ _ _ _ _, next_trans bel b4, by omega⟩)
          have HW4 := Lib.hid hW4
          clear hb1 bb oX oX1 b4 r0 r1 r2 bel hW4
          go_wp2_with fail
          rw [← HW4.out]
          clear HW4
          generalize w3.heap.size = B at *
          go_loopg [13] sn (fun g i_ wr => ∃ (i on oc : Nat) (O : Option Addr), i_ = .int .i64 i ∧ i + g = sn ∧ (∀ j, j < i → (putAt d.1 t (k.2.getD j (0, 0, [])).2.2 p).length ≤ 60) ∧ Wi w (.slice A n cs) (.slice V q cv) (.slice F fn fc) (.slice S sn sc) B X O xn xc on oc (putAt d.1 t k.1 p) (insS d.1 t p (k.2.take i)) wr)
          case atStart => exact ⟨0, 0, 0, none, rfl, by omega, fun j hj => absurd hj (Nat.not_lt_zero _), HI0.out⟩
          case round =>
            clear HI0
            obtain ⟨i, on, oc, O, rfl, hg, hlow, J⟩ := hrel
            have K0 : wr.cell? ⟨w.heap.size, 0, none⟩ = some (.slice A n cs) := J.r0.cell 0
            have K1 : wr.cell? ⟨w.heap.size + 1, 1, none⟩ = some (.slice S sn sc) := J.r1.cell 1
            have HLOW := Lib.hid hlow
            have HG := Lib.hid hg
            clear hlow hg
            by_cases hi : i < sn
            · obtain ⟨b, off, uu, x, hA, hb, ex, c0, c1, c2, hx2⟩ := rd_step HRS.out J.b HSN.out hi
              subst hA
              obtain ⟨xa, xr, ys⟩ := x
              obtain ⟨U, un, uc, rfl, hU, hcU⟩ := rd_ints.1 hx2
              have hil : i < k.2.length := by rw [HSN.out]; exact hi
              have hwa := walk_at HO.out hil ex.out
              have hun : un ≤ 60 := by have := (term_len hwa.2).2; have := hU.1; omega
              have c0 : wr.cell? ⟨b, off + i * 3, none⟩ = some (.int .i64 xa) := c0
              have c1 : wr.cell? ⟨b, off + i * 3 + 1, none⟩ = some (.int .i64 xr) := c1
              have hxa : 0 ≤ xa ∧ xa < 60 := hwa.1
              have hwr : IntKind.i64.wrap ((p : Int) + xa) = (p : Int) + xa := by rw [IntKind.wrap_i64]; omega
              have zA : w.heap.size < wr.heap.size := J.r0.lt
              have zA1 : w.heap.size + 1 < wr.heap.size := J.r1.lt
              have zB : b < wr.heap.size := by omega
              have zBB : B < wr.heap.size := J.r3.lt
              have HZ := Lib.hid J.z
              have LP := Lib.hid (LPF.out wr.drew J.b.drew U un uc ys (hU.more (Nat.le_of_lt zA)).drew hcU.2.2 hun)
              have i0 : (0 : Int) ≤ (i : Int) := by omega
              have i1 : (i : Int) < (sn : Int) := by omega
              have JJ := Lib.hid J
              have EX := Lib.hid ex.out
              clear hx2 hU hcU hwa J ex
              go_wp2_with fail
              go_region_held3 (fun w' => w'.cell? ⟨w.heap.size, 0, none⟩ = some (.slice A n cs) ∧ w'.cell? ⟨w.heap.size + 1, 1, none⟩ = some (.slice (some ⟨b, off, none⟩) sn sc) ∧ w'.cell? ⟨b, off + i * 3 + 2, none⟩ = some (.slice U un uc))
                (go_keep)
                (first
                  | (go_at_call 46; refine LP.out.mono ?_; rintro e w2 ⟨U2, un2, uc2, rfl, oU, bb⟩; have k0 : w2.cell? ⟨w.heap.size, 0, none⟩ = some (.slice A n cs) := (bb.cell (p := ⟨w.heap.size, 0, none⟩) zA).trans K0; have k1 : w2.cell? ⟨w.heap.size + 1, 1, none⟩ = some (.slice (some ⟨b, off, none⟩) sn sc) := (bb.cell (p := ⟨w.heap.size + 1, 1, none⟩) zA1).trans K1; have k2 : w2.cell? ⟨b, off + i * 3 + 2, none⟩ = some (.slice U un uc) := (bb.cell (p := ⟨b, off + i * 3 + 2, none⟩) zB).trans c2))
              have J2 := JJ.out.next ((drew_below wr).trans bb)
              have zz : wr.heap.size ≤ w2.heap.size := bb.size
              replace c0 : w2.cell? ⟨b, off + i * 3, none⟩ = some (.int .i64 xa) := (bb.cell (p := ⟨b, off + i * 3, none⟩) zB).trans c0
              replace c1 : w2.cell? ⟨b, off + i * 3 + 1, none⟩ = some (.int .i64 xr) := (bb.cell (p := ⟨b, off + i * 3 + 1, none⟩) zB).trans c1
              cases hb2 : put.fitB d.1 t ys p with
              | false =>
                have HB2 := Lib.hid (show ¬ (putAt d.1 t ys p).length ≤ 60 from of_decide_eq_false hb2)
                have j2 := J2.r2
                have jb := J2.b
                clear hb2 bb J2 oU JJ k0 k1 k2 K0 K1 c0 c1 c2 LP
                have y0 : w2.cell? ⟨w.heap.size + 1 + 1, 0, none⟩ = some (.slice none 0 0) := j2.cell 0
                have y1 : w2.cell? ⟨w.heap.size + 1 + 1, 1, none⟩ = some (.slice none 0 0) := j2.cell 1
                have g0 := j2.free 0
                have g1 := j2.free 1
                have ra := j2.put 0 (.slice none 0 0)
                have y2 : (w2.setCell ⟨w.heap.size + 1 + 1, 0, none⟩ (.slice none 0 0)).cell? ⟨w.heap.size + 1 + 1, 1, none⟩ = some (.slice none 0 0) := ra.cell 1
                have g2 := ra.free 1
                have rb := ra.put 1 (.slice none 0 0)
                have u0 : ((w2.setCell ⟨w.heap.size + 1 + 1, 0, none⟩ (.slice none 0 0)).setCell ⟨w.heap.size + 1 + 1, 1, none⟩ (.slice none 0 0)).cell? ⟨w.heap.size + 1 + 1, 0, none⟩ = some (.slice none 0 0) := rb.cell 0
                have u1 : ((w2.setCell ⟨w.heap.size + 1 + 1, 0, none⟩ (.slice none 0 0)).setCell ⟨w.heap.size + 1 + 1, 1, none⟩ (.slice none 0 0)).cell? ⟨w.heap.size + 1 + 1, 1, none⟩ = some (.slice none 0 0) := rb.cell 1
                have FZ : AnsWalk w (insideW d.1 d.2 k t p) (insideB d.1 d.2 k t p) (.returned (.tuple #[.agg #[.slice none 0 0, .slice none 0 0], .bool false])) ((w2.setCell ⟨w.heap.size + 1 + 1, 0, none⟩ (.slice none 0 0)).setCell ⟨w.heap.size + 1 + 1, 1, none⟩ (.slice none 0 0)) := ansWalk_no (ins_no5 hil EX.out HB2.out) (((jb).setCell (show w.heap.size ≤ w.heap.size + 1 + 1 by omega) _).setCell (show w.heap.size ≤ w.heap.size + 1 + 1 by omega) _)
                have HFZ := Lib.hid FZ
                clear FZ ra rb jb j2
                go_wp2
                exact bodyPost_ret (v := .tuple #[.agg #[.slice none 0 0, .slice none 0 0], .bool false]) (by simp [results, Tryz.results9, go_sem, u0, u1]) rfl HFZ.out
              | true =>
                have HB2 := Lib.hid (show (putAt d.1 t ys p).length ≤ 60 from of_decide_eq_true hb2)
                have OU := Lib.hid (show Own w2.drew wr.heap.size (.slice U2 un2 uc2) (putAt d.1 t ys p) by
                  have := oU
                  unfold put.fitL at this
                  rw [if_pos hb2] at this
                  exact Own.drew this)
                have OL := Lib.hid (show OwnL w2.drew (B + 1) wr.heap.size 86 sStep O on oc (insS d.1 t p (k.2.take i)) from (JJ.out.o.next ((drew_below wr).trans bb)).next (drew_below w2))
                have c3 : w2.cell? ⟨B, 1, none⟩ = some (.slice O on oc) := J2.r3.cell 1
                have c4 : w2.cell? ⟨w.heap.size + 1, 1, none⟩ = some (.slice (some ⟨b, off, none⟩) sn sc) := J2.r1.cell 1
                have hon : on ≤ 60 := by rw [← OL.out.1]; exact ins_len (by rw [HSN.out]; exact h60)
                have zB1 : B + 1 ≤ wr.heap.size := zBB
                have b3 : Below w2.drew.heap.size w2.drew (w2.drew.alloc (.cells #[.int .i64 ((p : Int) + xa), .int .i64 xr, .slice U2 un2 uc2] 86)) := (Below.refl _ _).alloc (Nat.le_refl _) _
                have RB := Lib.hid (show Row w2.drew B 32 #[.slice X xn xc, .slice O on oc] from J2.r3)
                have J2H := Lib.hid J2
                have bB : b < B + 1 := by have := HZ.out; omega
                clear hb2 bb J2 oU JJ k0 k1 k2 K0 K1 c2 LP
                go_upto_region 13 with fail
                refine AnyT.start (S := (fun w' => w'.cell? ⟨B, 1, none⟩ = some (.slice O on oc) ∧ w'.cell? ⟨w.heap.size + 1, 1, none⟩ = some (.slice (some ⟨b, off, none⟩) sn sc) ∧ w'.cell? ⟨b, off + i * 3, none⟩ = some (.int .i64 xa) ∧ w'.cell? ⟨b, off + i * 3 + 1, none⟩ = some (.int .i64 xr))) (fun j => j == 21) (by kernel_rfl) ⟨c3, c4, c0, c1⟩ (fun hHeld => ?_)
                refine AnyT.takeA (i := 0) (v := ?_) rfl (by kernel_rfl) (by kernel_rfl) (by kernel_rfl) (fun _ _ _ h => h) (Or.inl ⟨by rfl, ?_⟩) ?_
                rotate_left 1
                · (intro w0 _; go_simp; try with_reducible rfl)
                try simp only [Act.put, List.setIfInBounds_toArray, List.set_cons_zero, List.set_cons_succ, List.getElem_toArray, List.getElem_cons_zero, List.getElem_cons_succ]
                refine AnyT.take (i := 1) (v := ?_) rfl (by kernel_rfl) (by kernel_rfl) (by kernel_rfl) (by kernel_rfl) (fun _ _ _ h => h) (Or.inl ⟨by rfl, ?_⟩) (by assumption) ?_
                rotate_left 1
                · (intro w0 hSw; (try dsimp only at hSw); go_simp; try with_reducible rfl)
                try simp only [Act.put, List.setIfInBounds_toArray, List.set_cons_zero, List.set_cons_succ, List.getElem_toArray, List.getElem_cons_zero, List.getElem_cons_succ]
                refine AnyT.takeA (i := 2) (v := ?_) rfl (by kernel_rfl) (by kernel_rfl) (by kernel_rfl) (fun _ _ _ h => h) (Or.inl ⟨by rfl, ?_⟩) ?_
                rotate_left 1
                · (intro w0 _; go_simp; try with_reducible rfl)
                try simp only [Act.put, List.setIfInBounds_toArray, List.set_cons_zero, List.set_cons_succ, List.getElem_toArray, List.getElem_cons_zero, List.getElem_cons_succ]
                refine AnyT.takeA (i := 3) (v := ?_) rfl (by kernel_rfl) (by kernel_rfl) (by kernel_rfl) (fun _ _ _ h => h) (Or.inl ⟨by rfl, ?_⟩) ?_
                rotate_left 1
                · (intro w0 _; go_simp; try with_reducible rfl)
                try simp only [Act.put, List.setIfInBounds_toArray, List.set_cons_zero, List.set_cons_succ, List.getElem_toArray, List.getElem_cons_zero, List.getElem_cons_succ]
                refine AnyT.take (i := 4) (v := ?_) rfl (by kernel_rfl) (by kernel_rfl) (by kernel_rfl) (by kernel_rfl) (fun _ _ _ h => h) (Or.inl ⟨by rfl, ?_⟩) (by assumption) ?_
                rotate_left 1
                · (intro w0 hSw; (try dsimp only at hSw); go_simp; try with_reducible rfl)
                try simp only [Act.put, List.setIfInBounds_toArray, List.set_cons_zero, List.set_cons_succ, List.getElem_toArray, List.getElem_cons_zero, List.getElem_cons_succ]
                refine AnyT.takeA (i := 5) (v := ?_) rfl (by kernel_rfl) (by kernel_rfl) (by kernel_rfl) (fun _ _ _ h => h) (Or.inl ⟨by rfl, ?_⟩) ?_
                rotate_left 1
                · (intro w0 _; go_simp; try with_reducible rfl)
                try simp only [Act.put, List.setIfInBounds_toArray, List.set_cons_zero, List.set_cons_succ, List.getElem_toArray, List.getElem_cons_zero, List.getElem_cons_succ]
                refine AnyT.takeA (i := 6) (v := ?_) rfl (by kernel_rfl) (by kernel_rfl) (by kernel_rfl) (fun _ _ _ h => h) (Or.inl ⟨by rfl, ?_⟩) ?_
                rotate_left 1
                · (intro w0 _; go_simp; try with_reducible rfl)
                try simp only [Act.put, List.setIfInBounds_toArray, List.set_cons_zero, List.set_cons_succ, List.getElem_toArray, List.getElem_cons_zero, List.getElem_cons_succ]
                refine AnyT.takeA (i := 7) (v := ?_) rfl (by kernel_rfl) (by kernel_rfl) (by kernel_rfl) (fun _ _ _ h => h) (Or.inl ⟨by rfl, ?_⟩) ?_
                rotate_left 1
                · (intro w0 _; go_simp; try with_reducible rfl)
                try simp only [Act.put, List.setIfInBounds_toArray, List.set_cons_zero, List.set_cons_succ, List.getElem_toArray, List.getElem_cons_zero, List.getElem_cons_succ]
                refine AnyT.take (i := 8) (v := ?_) rfl (by kernel_rfl) (by kernel_rfl) (by kernel_rfl) (by kernel_rfl) (fun _ _ _ h => h) (Or.inl ⟨by rfl, ?_⟩) (by assumption) ?_
                rotate_left 1
                · (intro w0 hSw; (try dsimp only at hSw); go_simp; try with_reducible rfl)
                try simp only [Act.put, List.setIfInBounds_toArray, List.set_cons_zero, List.set_cons_succ, List.getElem_toArray, List.getElem_cons_zero, List.getElem_cons_succ]
                refine AnyT.takeA (i := 9) (v := ?_) rfl (by kernel_rfl) (by kernel_rfl) (by kernel_rfl) (fun _ _ _ h => h) (Or.inl ⟨by rfl, ?_⟩) ?_
                rotate_left 1
                · (intro w0 _; go_simp; try with_reducible rfl)
                try simp only [Act.put, List.setIfInBounds_toArray, List.set_cons_zero, List.set_cons_succ, List.getElem_toArray, List.getElem_cons_zero, List.getElem_cons_succ]
                refine AnyT.takeA (i := 10) (v := ?_) rfl (by kernel_rfl) (by kernel_rfl) (by kernel_rfl) (fun _ _ _ h => h) (Or.inl ⟨by rfl, ?_⟩) ?_
                rotate_left 1
                · (intro w0 _; go_simp; try with_reducible rfl)
                try simp only [Act.put, List.setIfInBounds_toArray, List.set_cons_zero, List.set_cons_succ, List.getElem_toArray, List.getElem_cons_zero, List.getElem_cons_succ]
                refine AnyT.take (i := 11) (v := ?_) rfl (by kernel_rfl) (by kernel_rfl) (by kernel_rfl) (by kernel_rfl) (fun _ _ _ h => h) (Or.inl ⟨by rfl, ?_⟩) (by assumption) ?_
                rotate_left 1
                · (intro w0 hSw; (try dsimp only at hSw); go_simp; try with_reducible rfl)
                try simp only [Act.put, List.setIfInBounds_toArray, List.set_cons_zero, List.set_cons_succ, List.getElem_toArray, List.getElem_cons_zero, List.getElem_cons_succ]
                refine AnyT.takeA (i := 12) (v := ?_) rfl (by kernel_rfl) (by kernel_rfl) (by kernel_rfl) (fun _ _ _ h => h) (Or.inl ⟨by rfl, ?_⟩) ?_
                rotate_left 1
                · (intro w0 _; go_simp; try with_reducible rfl)
                try simp only [Act.put, List.setIfInBounds_toArray, List.set_cons_zero, List.set_cons_succ, List.getElem_toArray, List.getElem_cons_zero, List.getElem_cons_succ]
                refine AnyT.takeA (i := 13) (v := ?_) rfl (by kernel_rfl) (by kernel_rfl) (by kernel_rfl) (fun _ _ _ h => h) (Or.inl ⟨by rfl, ?_⟩) ?_
                rotate_left 1
                · (intro w0 _; go_simp; try with_reducible rfl)
                try simp only [Act.put, List.setIfInBounds_toArray, List.set_cons_zero, List.set_cons_succ, List.getElem_toArray, List.getElem_cons_zero, List.getElem_cons_succ]
                refine AnyT.takeA (i := 14) (v := ?_) rfl (by kernel_rfl) (by kernel_rfl) (by kernel_rfl) (fun _ _ _ h => h) (Or.inl ⟨by rfl, ?_⟩) ?_
                rotate_left 1
                · (intro w0 _; go_simp; try with_reducible rfl)
                try simp only [Act.put, List.setIfInBounds_toArray, List.set_cons_zero, List.set_cons_succ, List.getElem_toArray, List.getElem_cons_zero, List.getElem_cons_succ]
                refine AnyT.take (i := 15) (v := ?_) rfl (by kernel_rfl) (by kernel_rfl) (by kernel_rfl) (by kernel_rfl) (fun _ _ _ h => h) (Or.inl ⟨by rfl, ?_⟩) (by assumption) ?_
                rotate_left 1
                · (intro w0 hSw; (try dsimp only at hSw); go_simp; try with_reducible rfl)
                try simp only [Act.put, List.setIfInBounds_toArray, List.set_cons_zero, List.set_cons_succ, List.getElem_toArray, List.getElem_cons_zero, List.getElem_cons_succ]
                refine AnyT.takeA (i := 16) (v := ?_) rfl (by kernel_rfl) (by kernel_rfl) (by kernel_rfl) (fun _ _ _ h => h) (Or.inl ⟨by rfl, ?_⟩) ?_
                rotate_left 1
                · (intro w0 _; go_simp; try with_reducible rfl)
                try simp only [Act.put, List.setIfInBounds_toArray, List.set_cons_zero, List.set_cons_succ, List.getElem_toArray, List.getElem_cons_zero, List.getElem_cons_succ]
                refine AnyT.takeA (i := 17) (v := ?_) rfl (by kernel_rfl) (by kernel_rfl) (by kernel_rfl) (fun _ _ _ h => h) (Or.inl ⟨by rfl, ?_⟩) ?_
                rotate_left 1
                · (intro w0 _; go_simp; try with_reducible rfl)
                try simp only [Act.put, List.setIfInBounds_toArray, List.set_cons_zero, List.set_cons_succ, List.getElem_toArray, List.getElem_cons_zero, List.getElem_cons_succ]
                refine AnyT.call (i := 18) (by kernel_rfl) rfl (fun K hK => ?_)
                try simp only [Act.put, List.setIfInBounds_toArray, List.set_cons_zero, List.set_cons_succ, List.getElem_toArray, List.getElem_cons_zero, List.getElem_cons_succ]
                rw [if_pos (by rfl)]
                go_simp
                refine hK.out _ _ (fun _ _ => ?_) (fun hKeep => ?_)
                · exact ⟨keep_alloc c3, keep_alloc c4, keep_alloc c0, keep_alloc c1⟩
                replace hHeld := hKeep (by first | rfl | trivial) hHeld
                clear hK K hKeep
                try simp only [Act.put, List.setIfInBounds_toArray, List.set_cons_zero, List.set_cons_succ, List.getElem_toArray, List.getElem_cons_zero, List.getElem_cons_succ]
                refine AnyT.call (i := 19) (by kernel_rfl) rfl (fun K hK => ?_)
                try simp only [Act.put, List.setIfInBounds_toArray, List.set_cons_zero, List.set_cons_succ, List.getElem_toArray, List.getElem_cons_zero, List.getElem_cons_succ]
                rw [if_pos (by rfl)]
                have HAPP := Lib.hid (show OwnL (w2.drew.alloc (.cells #[.int .i64 ((p : Int) + xa), .int .i64 xr, .slice U2 un2 uc2] 86)) (B + 1) wr.heap.size 86 sStep O on oc (insS d.1 t p (k.2.take i)) ∧ OwnL (w2.drew.alloc (.cells #[.int .i64 ((p : Int) + xa), .int .i64 xr, .slice U2 un2 uc2] 86)) wr.heap.size (w2.heap.size + 1) 86 sStep (some ⟨w2.heap.size, 0, none⟩) 1 1 [((p : Int) + xa, xr, putAt d.1 t ys p)] from ⟨OL.out.next b3, OwnL.single (e := 86) (s := sStep) (Row.new w2.drew 86 #[.int .i64 ((p : Int) + xa), .int .i64 xr, .slice U2 un2 uc2]) ((owned_step OU.out ((p : Int) + xa) xr).next b3) (Nat.le_refl _) zz⟩)
                refine wp_appL _ _ 30 86 sStep _ _ Tryz.underlying30 info_StepS rfl (by decide) rfl (B + 1) wr.heap.size wr.heap.size (w2.heap.size + 1) O on oc w2.heap.size 1 1 _ _ rfl HAPP.out.1 rfl HAPP.out.2 (Nat.le_refl _) zB1 (by omega) (by omega) (by simp; omega) ?_
                intro A4 oc' w4 oL4 hg4 hat4 b4 hf4
                obtain ⟨O', rfl⟩ := hf4 (.inr (by omega))
                refine hK.out _ _ (fun _ _ => ?_) (fun hKeep => ?_)
                · exact ⟨(b4.cell (p := ⟨B, 1, none⟩) (show B < B + 1 by omega)).trans (keep_alloc c3), (b4.cell (p := ⟨w.heap.size + 1, 1, none⟩) (show w.heap.size + 1 < B + 1 by omega)).trans (keep_alloc c4), (b4.cell (p := ⟨b, off + i * 3, none⟩) (show b < B + 1 by omega)).trans (keep_alloc c0), (b4.cell (p := ⟨b, off + i * 3 + 1, none⟩) (show b < B + 1 by omega)).trans (keep_alloc c1)⟩
                replace hHeld := hKeep (by first | rfl | trivial) hHeld
                clear hK K hKeep
                try simp only [Act.put, List.setIfInBounds_toArray, List.set_cons_zero, List.set_cons_succ, List.getElem_toArray, List.getElem_cons_zero, List.getElem_cons_succ]
                refine AnyT.takeA (i := 20) (v := ?_) rfl (by kernel_rfl) (by kernel_rfl) (by kernel_rfl) (fun _ _ _ h => h) (Or.inl ⟨by rfl, ?_⟩) ?_
                rotate_left 1
                · (intro w0 _; go_simp; try with_reducible rfl)
                try simp only [Act.put, List.setIfInBounds_toArray, List.set_cons_zero, List.set_cons_succ, List.getElem_toArray, List.getElem_cons_zero, List.getElem_cons_succ]
                have rB4 := (RB.out.alloc (.cells #[.int .i64 ((p : Int) + xa), .int .i64 xr, .slice U2 un2 uc2] 86)).below b4 (show B < B + 1 by omega)
                have y1 : w4.cell? ⟨B, 1, none⟩ = some (.slice O on oc) := rB4.cell 1
                have g1 := rB4.free 1
                refine AnyT.call (i := 21) (by kernel_rfl) rfl (fun K hK => ?_)
                try simp only [Act.put, List.setIfInBounds_toArray, List.set_cons_zero, List.set_cons_succ, List.getElem_toArray, List.getElem_cons_zero, List.getElem_cons_succ]
                rw [if_pos (by rfl)]
                go_simp
                refine hK.out _ _ (fun h => by cases h) (fun _ => ?_)
                clear hK K
                try simp only [Act.put, List.setIfInBounds_toArray, List.set_cons_zero, List.set_cons_succ, List.getElem_toArray, List.getElem_cons_zero, List.getElem_cons_succ]
                refine AnyT.done (by kernel_rfl) ?_ _
                have hJ := (J2H.out.next ((drew_below w2).trans b3))
                have F := Lib.hid (show Wi w (.slice A n cs) (.slice V q cv) (.slice F fn fc) (.slice (some ⟨b, off, none⟩) sn sc) B X (some ⟨O', 0, none⟩) xn xc (on + 1) oc' (putAt d.1 t k.1 p) (insS d.1 t p (k.2.take (i + 1))) (w4.setCell ⟨B, 1, none⟩ (.slice (some ⟨O', 0, none⟩) (on + 1) oc')) from by
                  have z := HZ.out
                  have h9 : w2.heap.size + 1 ≤ w4.heap.size := by have := b4.size; simpa using this
                  refine ⟨(hJ.r0.below b4 (by omega)).far (show w.heap.size ≠ B by omega) _, (hJ.r1.below b4 (by omega)).far (show w.heap.size + 1 ≠ B by omega) _, (hJ.r2.below b4 (by omega)).far (show w.heap.size + 1 + 1 ≠ B by omega) _, rB4.put 1 _, ?_, ?_, ?_, z⟩
                  · exact (hJ.x.btw (lo' := B + 1) (hi' := w4.heap.size) (Btw.of_grown hg4 (fun q hq => by have h8 := OL.out.ge q hq; have h7 : q < w2.heap.size := h8.2; omega)) (.inl (by omega))).btw (lo' := B) (hi' := B + 1) ⟨rfl, rfl, rfl, by simp, fun k hk ho => Below.heap_setCell w4 _ _ k (by show k ≠ B; omega)⟩ (.inl (Nat.le_refl _))
                  · rw [← ins_take hil EX.out]
                    have o5 : OwnL (w4.setCell ⟨B, 1, none⟩ (.slice (some ⟨O', 0, none⟩) (on + 1) oc')) (B + 1) w4.heap.size 86 sStep (some ⟨O', 0, none⟩) (on + 1) oc' (insS d.1 t p (k.2.take i) ++ [((p : Int) + xa, xr, putAt d.1 t ys p)]) := oL4.btw (lo' := B) (hi' := B + 1) ⟨rfl, rfl, rfl, by simp, fun k hk ho => Below.heap_setCell w4 _ _ k (by show k ≠ B; omega)⟩ (.inr (Nat.le_refl _))
                    exact o5.wider (Nat.le_refl _) (by simp)
                  · exact (hJ.b.trans (b4.mono (by omega))).setCell (show w.heap.size ≤ B by omega) _)
                have HL2 := Lib.hid (show ∀ j, j < i + 1 → (putAt d.1 t (k.2.getD j (0, 0, [])).2.2 p).length ≤ 60 from fun j hj => by
                  by_cases e : j = i
                  · subst e; rw [EX.out]; exact HB2.out
                  · exact HLOW.out j (by omega))
                clear hJ rB4 oL4 hg4 hat4 b4 hf4 HAPP b3 OL OU RB J2H c0 c1 c3 c4
                go_wp2
                go_roundg (gk - 1)
                case measure => have := HG.out; omega
                case rel => exact ⟨i + 1, on + 1, oc', some ⟨O', 0, none⟩, by simp, by have := HG.out; omega, HL2.out, F.out⟩
            · have e1 : i = sn := by have := HG.out; omega
              subst e1
              have HI := Lib.hid (ins_yes HR.out HO.out HPT.out HB1.out (fun j hj => HLOW.out j (by rw [← HSN.out]; exact hj)))
              have HZ := J.z
              have ow : Owned wr (w.heap.size + 1 + 1 + 1) wr.heap.size sWalk [.slice X xn xc, .slice O on oc] (putAt d.1 t k.1 p, insS d.1 t p k.2) := by
                have o2 := J.o
                rw [List.take_of_length_le (by rw [HSN.out]; exact Nat.le_refl _)] at o2
                exact owned_walk (J.x.wider (Nat.le_refl _) (Nat.le_succ _)) o2 (by omega) J.r3.lt
              have jb := J.b
              have j2 := J.r2
              have K2 : wr.cell? ⟨B, 0, none⟩ = some (.slice X xn xc) := J.r3.cell 0
              have K3 : wr.cell? ⟨B, 1, none⟩ = some (.slice O on oc) := J.r3.cell 1
              clear J K0 HLOW
              have y0 : wr.cell? ⟨w.heap.size + 1 + 1, 0, none⟩ = some (.slice none 0 0) := j2.cell 0
              have y1 : wr.cell? ⟨w.heap.size + 1 + 1, 1, none⟩ = some (.slice none 0 0) := j2.cell 1
              have g0 := j2.free 0
              have g1 := j2.free 1
              have ra := j2.put 0 (.slice X xn xc)
              have y2 : (wr.setCell ⟨w.heap.size + 1 + 1, 0, none⟩ (.slice X xn xc)).cell? ⟨w.heap.size + 1 + 1, 1, none⟩ = some (.slice none 0 0) := ra.cell 1
              have g2 := ra.free 1
              have rb := ra.put 1 (.slice O on oc)
              have u0 : ((wr.setCell ⟨w.heap.size + 1 + 1, 0, none⟩ (.slice X xn xc)).setCell ⟨w.heap.size + 1 + 1, 1, none⟩ (.slice O on oc)).cell? ⟨w.heap.size + 1 + 1, 0, none⟩ = some (.slice X xn xc) := rb.cell 0
              have u1 : ((wr.setCell ⟨w.heap.size + 1 + 1, 0, none⟩ (.slice X xn xc)).setCell ⟨w.heap.size + 1 + 1, 1, none⟩ (.slice O on oc)).cell? ⟨w.heap.size + 1 + 1, 1, none⟩ = some (.slice O on oc) := rb.cell 1
              have FZ : AnsWalk w (insideW d.1 d.2 k t p) (insideB d.1 d.2 k t p) (.returned (.tuple #[.agg #[.slice X xn xc, .slice O on oc], .bool true])) ((wr.setCell ⟨w.heap.size + 1 + 1, 0, none⟩ (.slice X xn xc)).setCell ⟨w.heap.size + 1 + 1, 1, none⟩ (.slice O on oc)) := ⟨_, _, _, _, _, _, by rw [HI.out.2], by rw [HI.out.1]; exact ((ow.put (g := w.heap.size + 1 + 1) (i := 0) (by omega)).put (g := w.heap.size + 1 + 1) (i := 1) (by omega)).wider (by omega) (by simp), (jb.setCell (show w.heap.size ≤ w.heap.size + 1 + 1 by omega) _).setCell (show w.heap.size ≤ w.heap.size + 1 + 1 by omega) _⟩
              have HFZ := Lib.hid FZ
              clear FZ ra rb ow jb j2
              go_wp2
              exact bodyPost_ret (v := .tuple #[.agg #[.slice X xn xc, .slice O on oc], .bool true]) (by simp [results, Tryz.results9, go_sem, u0, u1]) rfl HFZ.out
end Go.Proofs.YtmaamlnooepogaaGreat.walkSpec
end

section
/-
  How many numbers a walk holds that WalkInside answers. Conditions: none. By an AI agent.
-/
namespace Go.Proofs.YtmaamlnooepogaaGreat.walkX
open Go.RowKit Go.Proofs.YtmaamlnooepogaaGreat.base Go.Proofs.YtmaamlnooepogaaGreat.sig Go.Proofs.YtmaamlnooepogaaGreat.term Go.Proofs.YtmaamlnooepogaaGreat.termOk Go.Proofs.YtmaamlnooepogaaGreat.termFacts Go.Proofs.YtmaamlnooepogaaGreat.segs Go.Proofs.YtmaamlnooepogaaGreat.shape Go.Proofs.YtmaamlnooepogaaGreat.kindsR Go.Proofs.YtmaamlnooepogaaGreat.kindsW Go.Proofs.YtmaamlnooepogaaGreat.ruleMath Go.Proofs.YtmaamlnooepogaaGreat.stepMath Go.Proofs.YtmaamlnooepogaaGreat.walkMath Go.Proofs.YtmaamlnooepogaaGreat.walkSpec
theorem steps_sz {L : List St} {C : Nat} (h : ∀ s ∈ L, s.2.2.length ≤ C) : sz sStepS L ≤ L.length * (C + 1) := by
  induction L with
  | nil => exact Nat.zero_le _
  | cons x r ih =>
    have h1 := ih (fun s hs => h s (List.mem_cons_of_mem _ hs))
    have h2 := h x (List.mem_cons_self ..)
    have e : sz sStepS (x :: r) = (r.length + 1) + ((0 + (0 + sz sI x.2.2)) + (r.map (sz sStep)).sum) := rfl
    have e2 : sz sStepS r = r.length + (r.map (sz sStep)).sum := rfl
    rw [e, sz_ints, List.length_cons, Nat.add_mul]
    rw [e2] at h1
    omega
theorem walk_sz {k : Wk} (h1 : k.1.length ≤ 60) (h2 : k.2.length ≤ 60) (h3 : ∀ s ∈ k.2, s.2.2.length ≤ 60) : sz sWalk k ≤ 1048576 := by
  show sz sI k.1 + sz sStepS k.2 ≤ 1048576
  have a := steps_sz h3
  have b : k.2.length * (60 + 1) ≤ 60 * 61 := Nat.mul_le_mul h2 (Nat.le_refl _)
  rw [sz_ints]
  omega
theorem zero_sz : sz sWalk (([], []) : List Int × List St) ≤ 1048576 := walk_sz (k := ([], [])) (by simp) (by simp) (fun s hs => by cases hs)
theorem walkB_sz {sg : List Int} {rs : List Rl} {k : Wk} (h : walkB sg rs k = true) : sz sWalk k ≤ 1048576 := by
  obtain ⟨-, q2, q3, q4⟩ := walk_parts h
  exact walk_sz (term_len q2).2 q3 (fun s hs => (term_len ((go_ok q2 q4).2 s hs)).2)
theorem inside_sz {sg : List Int} {rs : List Rl} {k : Wk} {t : List Int} {x : Int} : sz sWalk (insideW sg rs k t x) ≤ 1048576 := by
  cases h : insideB sg rs k t x with
  | false => rw [(ins_off h).1]; exact zero_sz
  | true =>
    have h0 := h
    unfold insideB fitsAll at h
    simp only [Bool.and_eq_true, decide_eq_true_eq, List.all_eq_true] at h
    obtain ⟨⟨h1, h2⟩, h3, h4, h5⟩ := h
    unfold insideW
    rw [if_pos h0]
    refine walk_sz h4 (by show (insS sg t x.toNat k.2).length ≤ 60; unfold insS; rw [List.length_map]; exact (walk_parts h2).2.2.1) (fun s hs => ?_)
    have hs : s ∈ insS sg t x.toNat k.2 := hs
    unfold insS at hs
    obtain ⟨y, hy, rfl⟩ := List.mem_map.1 hs
    exact h5 y hy
end Go.Proofs.YtmaamlnooepogaaGreat.walkX
end

section
/-
  CONTRACTS of the laws' helpers over shapes: Int64SS:sz,to,eq,mark, Subst:sz,to,eq,mark. Conditions: at most 1048576 numbers. Written by a program of mine (mkkinds.py). By an AI agent.
-/
namespace Go.Proofs.YtmaamlnooepogaaGreat.kindsT
open Go.RowKit Go.Proofs.YtmaamlnooepogaaGreat.base Go.Proofs.YtmaamlnooepogaaGreat.ints Go.Proofs.YtmaamlnooepogaaGreat.sig Go.Proofs.YtmaamlnooepogaaGreat.cursor Go.Proofs.YtmaamlnooepogaaGreat.marks Go.Proofs.YtmaamlnooepogaaGreat.app Go.Proofs.YtmaamlnooepogaaGreat.sym Go.Proofs.YtmaamlnooepogaaGreat.appAt Go.Proofs.YtmaamlnooepogaaGreat.segs Go.Proofs.YtmaamlnooepogaaGreat.segsHelp Go.Proofs.YtmaamlnooepogaaGreat.segsMark Go.Proofs.YtmaamlnooepogaaGreat.kinds Go.Proofs.YtmaamlnooepogaaGreat.shape
set_option maxRecDepth 100000

abbrev sInt64SS : Sh := .row 24 sI
set_option maxHeartbeats 2000000 in
theorem szK_Int64SS (v : Value) (D : List (Dat sI)) (left : Int) (w : World) (h : Rd w w.heap.size sInt64SS [v] D) (h0 : 0 ≤ left) (h1 : left ≤ 1048576) :
    Calls Tryz.prog 69 #[v, .int .i64 left] w (AnsSzK w left (sz sInt64SS D)) := by
  obtain ⟨A, c, rfl, hcap⟩ := h.slice
  obtain ⟨n, hn⟩ : ∃ n, D.length = n := ⟨_, rfl⟩
  rw [hn] at h hcap ⊢
  have hmax : n ≤ 9223372036854775807 := Nat.le_trans hcap.1 hcap.2.1
  have HN := Lib.hid hn
  have H := Lib.hid h
  clear hcap hn h
  by_cases hs : left - n < 0
  · have S : AnsSzK w left (sz sInt64SS D) (.returned (.int .i64 (-1))) w := ⟨by rw [if_pos (by rw [sz_row, HN.out]; omega)], Below.refl _ _⟩
    have HS := Lib.hid S
    clear S
    go_enter Tryz.func69, Tryz.ntmps69
    go_wp2
    go_ret
    exact HS.out
  go_enter Tryz.func69, Tryz.ntmps69
  go_wp2
  go_loopw [1, 5] (fun l i wr => HeadSzK w n sI D left l i wr) (fun _ i _ => n - (intOf i).toNat)
  case atStart => exact headSzK_zero (by omega)
  case round =>
    obtain ⟨k, hk, rfl, rfl, hge, hb⟩ := hrel
    by_cases hlt : k < n
    · obtain ⟨b, off, n2, c2, es, ev, -, -, hbB, hel, hp, hr⟩ := H.out.elem (j := k) (by rw [HN.out]; exact hlt)
      injection ev with e1 e2 e3
      subst e1 e2 e3
      obtain ⟨v0, rfl⟩ := List.length_eq_one_iff.1 hel
      have hpw := hp.keep (w' := wr) (fun p hp => hb.cell (p := p) (by rw [hp]; exact hbB))
      have c0 : wr.cell? ⟨b, off + k, none⟩ = some (v0) := by simpa [nc] using hpw 0 (by simp)
      obtain ⟨t, ht⟩ : ∃ t, sz sI (D.getD k (dft sI)) = t := ⟨_, rfl⟩
      obtain ⟨l, hl⟩ : ∃ l, left - n - szs sI D k = l := ⟨_, rfl⟩
      have hsum := szs_succ (s := sI) (d := D) (k := k) (by rw [HN.out]; exact hlt)
      rw [ht] at hsum
      rw [hl] at hge ⊢
      have hle : l ≤ 1048576 := by omega
      have L := Lib.hid (szK_ints _ (D.getD k (dft sI)) l wr ((hr.below hb).more hb.size) hge hle)
      rw [ht] at L
      have BAD := Lib.hid (fun (q : l - (t : Int) < 0) => headSzK_bad (e := 24) (D := D) (left := left) HN.out hlt hsum (by rw [hl]; exact q))
      have GOOD := Lib.hid (fun (q : ¬ l - (t : Int) < 0) (w1 : World) (hb : Below w.heap.size w w1) => headSzK_step (D := D) (left := left) (l := l) hlt hsum hl q hb)
      have HB := Lib.hid hb
      clear hr hel hp hpw ht hl hsum hb
      go_wp2_with fail
      refine L.out.mono ?_
      rintro e w1 ⟨he, bb⟩
      by_cases q : l - (t : Int) < 0
      · rw [if_pos q] at he
        subst he
        have F : AnsSzK w left (sz sInt64SS D) (.returned (.int .i64 (-1))) w1 := ⟨BAD.out (by omega), next_trans HB.out bb⟩
        have HF := Lib.hid F
        clear F bb L GOOD BAD
        go_wp2
        go_ret
        exact HF.out
      · rw [if_neg q] at he
        subst he
        have F := Lib.hid (GOOD.out (by omega) w1 (next_trans HB.out bb))
        clear bb L GOOD BAD
        go_wp2
        go_roundw
        case rel => exact F.out
        case measure => simp [intOf]; omega
    · have F := Lib.hid (headSzK_end (e := 24) HN.out hlt hk hge hb)
      clear hge hb
      go_wp2
      go_ret
      exact F.out

theorem info_Int64SS : (Tryz.prog.info? 24).map (fun i => (i.zero, i.size, i.bytes)) = some (some (.slice none 0 0), 1, 24) := by kernel_rfl
theorem make_Int64SS (n : Nat) (hn : n ≤ 1048576) (W : World) : (Instr.makeSlice 41 (.int .i64 (n : Int)) (.int .i64 (n : Int))).run Tryz.prog W =
    .ok (.slice (some ⟨W.heap.size, 0, none⟩) n n) (W.alloc (.cells (madeCells #[.slice none 0 0] (n * 1)) 24)) := by
  obtain ⟨i0, hi, hz0, hz1, hz2⟩ := info_parts info_Int64SS
  have hr := run_make (P := Tryz.prog) W 41 24 i0 _ Tryz.underlying41 hi hz0 .i64 .i64 n n (by omega) (by omega) (by rw [hz2]; omega) (by omega)
  simpa [hz1, Value.cells] using hr
set_option maxHeartbeats 2000000 in
theorem toK_Int64SS (v : Value) (D : List (Dat sI)) (w : World) (h : Rd w w.heap.size sInt64SS [v] D) (hz : sz sInt64SS D ≤ 1048576) :
    Calls Tryz.prog 74 #[v] w (Copy1 w sInt64SS D) := by
  obtain ⟨A, c, rfl, hcap⟩ := h.slice
  obtain ⟨n, hn⟩ : ∃ n, D.length = n := ⟨_, rfl⟩
  have hn1 : n ≤ 1048576 := by rw [← hn]; exact sz_len hz
  rw [hn] at h hcap ⊢
  have HN := Lib.hid hn
  have H := Lib.hid h
  have HZ := Lib.hid hz
  clear hcap hn h hz
  have hmk := make_Int64SS n hn1
  have S0 := Lib.hid (headCp_zero (s := sI) (e := 24) (w := w) (n := n) (D := D) (cs := madeCells #[.slice none 0 0] (n * 1)) (size_madeCells _ _))
  go_enter Tryz.func74, Tryz.ntmps74
  go_wp2
  clear hmk
  go_loopw [4] (fun i wr => HeadCp w 24 sI n D i wr) (fun i _ => n - (intOf i).toNat)
  case atStart => first | exact S0.out | (have h9 := S0.out; rw [Nat.mul_one] at h9; exact h9)
  case round =>
    obtain ⟨k, ks, E, G, hk, rfl, hr, hs, hnd, hi, hb⟩ := hrel
    clear S0
    by_cases hlt : k < n
    · have hkD : k < D.length := by rw [HN.out]; exact hlt
      obtain ⟨b, off, n2, c2, es, ev, -, -, hbB, hel, hp, hrd⟩ := H.out.elem hkD
      injection ev with e1 e2 e3
      subst e1 e2 e3
      obtain ⟨v0, rfl⟩ := List.length_eq_one_iff.1 hel
      have hpw := hp.keep (w' := wr) (fun p hp => hb.cell (p := p) (by rw [hp]; exact hbB))
      have c0 : wr.cell? ⟨b, off + k, none⟩ = some (v0) := by simpa [nc] using hpw 0 (by simp)
      have L := Lib.hid (toK_ints _ (D.getD k (dft sI)) wr ((hrd.below hb).more hb.size) (sz_each HZ.out hkD))
      have R := Lib.hid (fun w1 xA0 xn0 xc0 ho bb => headCp_step (w1 := w1) (es := [.slice xA0 xn0 xc0]) hlt hr hs hnd hi hb ho bb)
      have rr := hr
      have hsz : ks.size = n * 1 := hs
      have HS := Lib.hid hsz
      clear hr hs hnd hi hb hrd hel hp hpw hsz
      go_wp2_with fail
      refine L.out.mono ?_
      rintro e w1 ⟨xA0, xn0, xc0, rfl, ho, bb⟩
      have S := Lib.hid (R.out w1 xA0 xn0 xc0 ho bb)
      have rr1 := rr.next bb
      obtain ⟨u0, hu0⟩ : ∃ u, w1.cell? ⟨w.heap.size, k, none⟩ = some u := ⟨_, (rr1.cell _).trans (Array.getElem?_eq_getElem (by rw [HS.out]; omega))⟩
      have hf0 : w1.frozen? ⟨w.heap.size, k, none⟩ = false := rr1.free _
      clear ho bb rr rr1 L R
      go_wp2
      go_roundw
      case rel => first | exact S.out | (have h9 := S.out; rw [show k * nc sI = k from Nat.mul_one k] at h9; exact h9)
      case measure => simp [intOf]; omega
    · have e1 : k = n := by omega
      subst e1
      have F := Lib.hid (headCp_end HN.out hn1 hr hs hnd hi hb)
      clear hr hs hnd hi hb
      go_wp2
      go_ret
      exact F.out

set_option maxHeartbeats 2000000 in
theorem eqK_Int64SS (v u : Value) (D : List (Dat sI)) (w : World) (h : Rd w w.heap.size sInt64SS [v] D) (h' : Rd w w.heap.size sInt64SS [u] D) (hz : sz sInt64SS D ≤ 1048576) :
    Calls Tryz.prog 79 #[v, u] w (Yes w) := by
  obtain ⟨A, c, rfl, hcap⟩ := h.slice
  obtain ⟨A', c', rfl, hcap'⟩ := h'.slice
  obtain ⟨n, hn⟩ : ∃ n, D.length = n := ⟨_, rfl⟩
  have hn1 : n ≤ 1048576 := by rw [← hn]; exact sz_len hz
  rw [hn] at h h' hcap hcap' ⊢
  have HN := Lib.hid hn
  have H := Lib.hid h
  have H' := Lib.hid h'
  have HZ := Lib.hid hz
  clear hcap hcap' hn h h' hz
  go_enter Tryz.func79, Tryz.ntmps79
  go_wp2
  go_loopw [5] (fun i wr => ∃ k : Nat, k ≤ n ∧ i = .int .i64 k ∧ Below w.heap.size w wr) (fun i _ => n - (intOf i).toNat)
  case atStart => exact ⟨0, Nat.zero_le _, rfl, Below.refl _ _⟩
  case round =>
    obtain ⟨k, hk, rfl, hb⟩ := hrel
    by_cases hlt : k < n
    · have hkD : k < D.length := by rw [HN.out]; exact hlt
      obtain ⟨b, off, n2, c2, es, ev, -, -, hbB, hel, hp, hrd⟩ := H.out.elem hkD
      injection ev with e1 e2 e3
      subst e1 e2 e3
      obtain ⟨b', off', n2, c2, es', ev, -, -, hbB', hel', hp', hrd'⟩ := H'.out.elem hkD
      injection ev with e1 e2 e3
      subst e1 e2 e3
      obtain ⟨v0, rfl⟩ := List.length_eq_one_iff.1 hel
      obtain ⟨u0, rfl⟩ := List.length_eq_one_iff.1 hel'
      replace hb := hb.drew
      have hpw := hp.keep (w' := wr.drew) (fun p hp => hb.cell (p := p) (by rw [hp]; exact hbB))
      have hpw' := hp'.keep (w' := wr.drew) (fun p hp => hb.cell (p := p) (by rw [hp]; exact hbB'))
      have c0 : wr.drew.cell? ⟨b, off + k, none⟩ = some (v0) := by simpa [nc] using hpw 0 (by simp)
      have c0' : wr.drew.cell? ⟨b', off' + k, none⟩ = some (u0) := by simpa [nc] using hpw' 0 (by simp)
      have L := Lib.hid (eqK_ints _ _ (D.getD k (dft sI)) wr.drew ((hrd.below hb).more hb.size) ((hrd'.below hb).more hb.size) (sz_each HZ.out hkD))
      have HB := Lib.hid hb
      have hlb : b < wr.drew.heap.size := Nat.lt_of_lt_of_le hbB hb.size
      have hlb' : b' < wr.drew.heap.size := Nat.lt_of_lt_of_le hbB' hb.size
      clear hrd hrd' hel hel' hp hp' hpw hpw' hb
      go_wp2_with fail
      go_region_held3 (fun w' => w'.cell? ⟨b, off + k, none⟩ = some (v0) ∧ w'.cell? ⟨b', off' + k, none⟩ = some (u0))
        (go_keep)
        (first | (go_at_call 75; refine L.out.mono ?_; rintro e w1 ⟨rfl, bb⟩; have m0 := (bb.cell (p := ⟨b, off + k, none⟩) hlb).trans c0; have m1 := (bb.cell (p := ⟨b', off' + k, none⟩) hlb').trans c0'))
      have HB1 := Lib.hid (next_trans HB.out bb)
      clear bb L c0 c0' m0 m1
      go_wp2
      go_roundw
      case rel => exact ⟨k + 1, hlt, by simp, HB1.out⟩
      case measure => simp [intOf]; omega
    · have HB := Lib.hid hb
      clear hb
      go_wp2
      go_ret
      exact ⟨rfl, HB.out⟩

set_option maxHeartbeats 2000000 in
theorem markK_Int64SS (v : Value) (D : List (Dat sI)) (k : Int) (F : List Nat) (w : World) (h : Ow w sInt64SS [v] D F) (hF : F.Nodup) (hz : sz sInt64SS D ≤ 1048576) (hk0 : 0 ≤ k) (hk : k + (cntv sInt64SS D : Int) ≤ 1099511627776) :
    Calls Tryz.prog 84 #[v, .int .i64 k] w (AnsMarkF w sInt64SS [v] D k F) := by
  obtain ⟨A, c, rfl, hcap⟩ := h.rd.slice
  have hn1 := sz_len hz
  obtain ⟨n, hn⟩ : ∃ n, D.length = n := ⟨_, rfl⟩
  rw [hn] at h hcap hn1 ⊢
  have HN := Lib.hid hn
  have HZ := Lib.hid hz
  have S0 := Lib.hid (headMk_zero (k := k) h)
  clear h hcap hn hz
  go_enter Tryz.func84, Tryz.ntmps84
  go_wp2
  go_loopw [1, 5] (fun kk i wr => HeadMk w 24 sI (.slice A n c) D k F kk i wr) (fun _ i _ => n - (intOf i).toNat)
  case atStart => first | exact S0.out | (have h9 := S0.out; rw [Nat.mul_one] at h9; exact h9)
  case round =>
    obtain ⟨j, hj, rfl, rfl, ho, hb⟩ := hrel
    clear S0
    rw [HN.out] at hj
    by_cases hlt : j < n
    · have hjD : j < D.length := by rw [HN.out]; exact hlt
      obtain ⟨g, n2, c2, es, Gj, ev, -, hel, hp, hg, oe, ng, gG, sub, R⟩ := ho.elem' hF (j := j) (by rw [mixed_len]; exact hjD)
      injection ev with e1 e2 e3
      subst e1 e2 e3
      rw [mixed_get hjD] at oe
      obtain ⟨v0, rfl⟩ := List.length_eq_one_iff.1 hel
      have o0 := oe
      have g0 : g ∉ Gj := fun hb => gG (hb)
      have sub0 : ∀ x ∈ Gj, x ∈ Gj := fun x hb => hb
      obtain ⟨z0, hz0⟩ : ∃ z, cntv sI ((D.getD j (dft sI))) = z := ⟨_, rfl⟩
      have hzz : cnt sI (D.getD j (dft sI)) = z0 := by rw [← hz0]; rfl
      have hcn := headMk_cnt (e := 24) hjD
      rw [hzz] at hcn
      obtain ⟨q, hq⟩ : ∃ q, k + (cnts sI D j : Int) = q := ⟨_, rfl⟩
      have q0 : 0 ≤ q := by omega
      have q1 : q + (z0 : Int) ≤ 1099511627776 := by have : (cntv sInt64SS D : Int) = (cntv (.row 24 sI) D : Nat) := rfl; omega
      have Z0 : Hid (sz sI ((D.getD j (dft sI))) ≤ 1048576) := Lib.hid (sz_each HZ.out hjD)
      have HZ0 := Lib.hid hz0
      rw [hq]
      have HEF : Hid (Gj = Gj) := Lib.hid (by rfl)
      have HR := Lib.hid R
      have HB := Lib.hid hb
      have HQ := Lib.hid hq
      have HZZ := Lib.hid hzz
      have SUB := Lib.hid sub
      have on : Only Gj wr wr := Only.refl _ _
      have c0 : wr.cell? ⟨g, j, none⟩ = some (v0) := by simpa [nc] using hp 0 (by simp)
      clear R hb hq hzz hcn ho oe sub hp hel gG hz0 
      go_wp2_with fail
      refine (markK_ints _ _ q Gj _ o0 Z0.out (by omega) (by omega)).mono ?_
      rintro e w1 ⟨he, o0, on0⟩
      rw [HZ0.out] at he
      have hgl : g < wr.heap.size := Nat.lt_of_lt_of_le hg on.size
      replace c0 := (World.cell?_of_block (a := ⟨g, j, none⟩) (on0.block g hgl g0)).trans c0
      replace on := on.trans (on0.wider sub0)
      clear on0 hgl
      obtain ⟨k0, hk0⟩ : ∃ l, q + (z0 : Int) = l := ⟨_, rfl⟩
      rw [hk0] at he
      have l0 : 0 ≤ k0 := by omega
      have u0 : k0  ≤ 1099511627776 := by omega
      subst he
      have HK0 := Lib.hid hk0
      clear hk0
      have S : HeadMk w 24 sI (.slice (some ⟨g, 0, none⟩) n c) D k F (.int .i64 k0) (.int .i64 ((j : Int) + 1)) w1 := by
        have h1 := HR.out w1 (mkc sI q (D.getD j (dft sI))) (by exact o0) on
        have h2 := headMk_step (z := z0) hjD HB.out (on.wider SUB.out) HZZ.out (by rw [HQ.out]) h1
        have h3 : k + (cnts sI D j : Int) + ((z0 : Nat) : Int) = k0 := by have := HQ.out; have := HK0.out; omega
        rw [h3] at h2
        exact h2
      have HS := Lib.hid S
      clear S on o0 c0 
      go_wp2
      go_roundw
      case rel => exact HS.out
      case measure => simp [intOf]; omega
    · have F1 := Lib.hid (headMk_end (by rw [HN.out]; exact hlt) (by rw [HN.out]; exact hj) ho hb)
      clear ho hb
      generalize cnts sI D j = z at *
      go_wp2
      go_ret
      exact F1.out

abbrev sSubst : Sh := sInt64SS
theorem cells_Subst {w : World} {B : Nat} {es : List Value} {d : Dat sSubst} (h : Rd w B sSubst es d) : ∃ (v0 : Value), es = [v0] := by
  obtain ⟨A0, n0, c0, z0, -⟩ := h
  exact ⟨.slice A0 n0 c0, by rw [z0] <;> rfl⟩

set_option maxHeartbeats 2000000 in
theorem szK_Subst (v0 : Value) (d : Dat sSubst) (left : Int) (w : World) (h : Rd w w.heap.size sSubst [v0] d) (h0 : 0 ≤ left) (h1 : left ≤ 1048576) :
    Calls Tryz.prog 21 #[.agg #[v0], .int .i64 left] w (AnsSzK w left (sz sSubst d)) := by
  have g0 := h
  obtain ⟨t0, ht0⟩ : ∃ t, sz sInt64SS d = t := ⟨_, rfl⟩
  have HE : Hid (sz sSubst d = t0) := Lib.hid (by rw [← ht0]; try rfl)
  have HT0 := Lib.hid ht0
  have G0 := Lib.hid g0
  obtain ⟨W, hW⟩ : ∃ W, W = w.alloc (.cells #[v0] 56) := ⟨_, rfl⟩
  have r : Row W w.heap.size 56 #[v0] := by rw [hW]; exact Row.new _ _ _
  have bel : Below w.heap.size w W := by rw [hW]; exact (Below.refl _ _).alloc (Nat.le_refl _) _
  have HW := Lib.hid hW
  clear hW h g0 ht0
  go_enter Tryz.func21, Tryz.ntmps21
  go_wp2_with fail
  rw [← HW.out]
  refine (szK_Int64SS _ _ left W (G0.out.next bel) h0 h1).mono ?_
  rintro e w1 ⟨he, bb⟩
  rw [HT0.out] at he
  replace r := r.next bb
  replace bel := next_trans bel bb
  clear bb
  by_cases q0 : left - (t0 : Int) < 0
  · rw [if_pos q0] at he
    subst he
    have F : AnsSzK w left (sz sSubst d) (.returned (.int .i64 (-1))) w1 := ⟨by rw [HE.out, if_pos (by omega)], bel⟩
    have HF := Lib.hid F
    clear F bel r
    go_wp2
    go_ret
    exact HF.out
  rw [if_neg q0] at he
  obtain ⟨l0, hl0⟩ : ∃ l, left - (t0 : Int) = l := ⟨_, rfl⟩
  rw [hl0] at he
  have a0 : 0 ≤ l0 := by omega
  have b0 : l0 ≤ 1048576 := by omega
  have HL0 := Lib.hid hl0
  clear hl0 q0
  subst he
  have F : AnsSzK w left (sz sSubst d) (.returned (.int .i64 l0)) w1 := ⟨by have := HL0.out; rw [HE.out, if_neg (by omega)]; exact congrArg (fun z => Ending.returned (.int .i64 z)) (by omega), bel⟩
  have HF := Lib.hid F
  clear F bel r
  go_wp2
  go_ret
  exact HF.out

def CopySubst (w : World) (d : Dat sSubst) (e : Ending) (w' : World) : Prop := ∃ A0 n0 c0, e = .returned (.agg #[.slice A0 n0 c0]) ∧ Owned w' w.heap.size w'.heap.size sSubst [.slice A0 n0 c0] d ∧ Below w.heap.size w w'
set_option maxHeartbeats 2000000 in
theorem toK_Subst (v0 : Value) (d : Dat sSubst) (w : World) (h : Rd w w.heap.size sSubst [v0] d) (hz : sz sSubst d ≤ 1048576) :
    Calls Tryz.prog 24 #[.agg #[v0]] w (CopySubst w d) := by
  have g0 := h
  have cp0 := CpS.zero w 56 43 #[v0] #[.slice none 0 0]
  obtain ⟨W, hW⟩ : ∃ W, W = ((w.alloc (.cells #[v0] 56)).alloc (.cells #[.slice none 0 0] 43)).alloc (.cells #[.slice none 0 0] 43) := ⟨_, rfl⟩
  rw [← hW] at cp0
  have HW := Lib.hid hW
  have G0 := Lib.hid g0
  have Z0 : Hid (sz sInt64SS d ≤ 1048576) := Lib.hid (hz)
  clear hW hz h g0
  go_enter Tryz.func24, Tryz.ntmps24
  go_wp2_with fail
  rw [← HW.out]
  refine (toK_Int64SS _ _ _ ((G0.out.below cp0.bel).more cp0.bel.size) Z0.out).mono ?_
  rintro e w1 ⟨x0A0, x0n0, x0c0, rfl, o0, bb⟩
  have zb0 := bb.size
  have zc0 := cp0.size
  replace cp0 := cp0.next bb
  clear bb
  have f0_0 : w1.frozen? ⟨w.heap.size + 1 + 1, 0, none⟩ = false := cp0.cur.free 0
  have k0_0 : w1.cell? ⟨w.heap.size + 1 + 1, 0, none⟩ = some (.slice none 0 0) := cp0.cur.cell 0
  obtain ⟨w2, hw0⟩ : ∃ x, x = (w1.setCell ⟨w.heap.size + 1 + 1, 0, none⟩ (.slice x0A0 x0n0 x0c0)) := ⟨_, rfl⟩
  replace o0 := o0.put (g := w.heap.size + 1 + 1) (i := 0) (u := .slice x0A0 x0n0 x0c0) (by omega)
  rw [← hw0] at o0
  replace cp0 : CpS w 56 43 #[v0] #[.slice none 0 0] #[.slice x0A0 x0n0 x0c0] w2 := by rw [hw0]; exact (CpS.put cp0 0 (.slice x0A0 x0n0 x0c0))
  have zw0 : w2.heap.size = w1.heap.size := by rw [hw0]; simp
  have HW0 := Lib.hid hw0
  clear hw0
  have y0 : w2.cell? ⟨w.heap.size + 1 + 1, 0, none⟩ = some (.slice x0A0 x0n0 x0c0) := cp0.cur.cell 0
  rw [HW0.out] at y0
  have s0 : (w2).cell? ⟨w.heap.size + 1, 0, none⟩ = some (.slice none 0 0) := cp0.res.cell 0
  rw [HW0.out] at s0
  have r0 : (w2).frozen? ⟨w.heap.size + 1, 0, none⟩ = false := cp0.res.free 0
  rw [HW0.out] at r0
  have oo : Owned w2 (w.heap.size + 1 + 1 + 1) w2.heap.size sSubst [.slice x0A0 x0n0 x0c0] d := o0.wider (by omega) (by omega)
  have F : CopySubst w d (.returned (.agg #[.slice x0A0 x0n0 x0c0])) (w2.setCell ⟨w.heap.size + 1, 0, none⟩ (.slice x0A0 x0n0 x0c0)) := ⟨x0A0, x0n0, x0c0, rfl, Owned.wider ((oo.put (g := w.heap.size + 1) (i := 0) (u := .slice x0A0 x0n0 x0c0) (by omega))) (by omega) (by simp), ((CpS.fin cp0 0 (.slice x0A0 x0n0 x0c0))).bel⟩
  have u0 : ((w2.setCell ⟨w.heap.size + 1, 0, none⟩ (.slice x0A0 x0n0 x0c0))).cell? ⟨w.heap.size + 1, 0, none⟩ = some (.slice x0A0 x0n0 x0c0) := (CpS.fin cp0 0 (.slice x0A0 x0n0 x0c0)).res.cell 0
  rw [HW0.out] at u0
  rw [HW0.out] at F
  have HF := Lib.hid F
  clear F oo cp0 o0
  go_wp2
  exact bodyPost_ret (v := .agg #[.slice x0A0 x0n0 x0c0]) (by simp [results, Tryz.results24, go_sem, u0]) rfl HF.out

set_option maxHeartbeats 2000000 in
theorem eqK_Subst (v0 u0 : Value) (d : Dat sSubst) (w : World) (h : Rd w w.heap.size sSubst [v0] d) (h' : Rd w w.heap.size sSubst [u0] d) (hz : sz sSubst d ≤ 1048576) :
    Calls Tryz.prog 27 #[.agg #[v0], .agg #[u0]] w (Yes w) := by
  have g0 := h
  have g0' := h'
  obtain ⟨W, hW⟩ : ∃ W, W = (w.alloc (.cells #[v0] 43)).alloc (.cells #[u0] 43) := ⟨_, rfl⟩
  have ra : Row W w.heap.size 43 #[v0] := by rw [hW]; exact (Row.new w 43 #[v0]).alloc _
  have rb : Row W (w.heap.size + 1) 43 #[u0] := by rw [hW]; have := Row.new (w.alloc (.cells #[v0] 43)) 43 #[u0]; simpa using this
  have bel : Below w.heap.size w W := by rw [hW]; exact ((Below.refl _ _).alloc (Nat.le_refl _) _).alloc (by simp) _
  have HW := Lib.hid hW
  have G0 := Lib.hid g0
  have G0' := Lib.hid g0'
  have Z0 : Hid (sz sInt64SS d ≤ 1048576) := Lib.hid (hz)
  clear hW hz h h' g0 g0'
  go_enter Tryz.func27, Tryz.ntmps27
  go_wp2_with fail
  rw [← HW.out]
  refine (eqK_Int64SS _ _ _ W (G0.out.next bel) (G0'.out.next bel) Z0.out).mono ?_
  rintro e w1 ⟨rfl, bb⟩
  replace ra := ra.next bb
  replace rb := rb.next bb
  replace bel := next_trans bel bb
  clear bb
  have F : Yes w (.returned (.bool true)) w1 := ⟨rfl, bel⟩
  have HF := Lib.hid F
  clear F ra rb bel
  go_wp2
  go_ret
  exact HF.out

set_option maxHeartbeats 2000000 in
theorem markK_Subst (v0 : Value) (d : Dat sSubst) (k : Int) (F : List Nat) (w : World) (h : Ow w sSubst [v0] d F) (hF : F.Nodup) (hz : sz sSubst d ≤ 1048576) (hk0 : 0 ≤ k) (hk : k + (cntv sSubst d : Int) ≤ 1099511627776) :
    Calls Tryz.prog 30 #[.agg #[v0], .int .i64 k] w (AnsMarkF w sSubst [v0] d k F) := by
  have hlt := h.lt
  have o0 := h
  obtain ⟨z0, hz0⟩ : ∃ z, cntv sInt64SS d = z := ⟨_, rfl⟩
  have hc : (cntv sSubst d : Int) = (z0 : Int) := by rw [← hz0]; try rfl
  have Z0 : Hid (sz sInt64SS d ≤ 1048576) := Lib.hid (hz)
  have HZ0 := Lib.hid hz0
  have HC := Lib.hid hc
  rw [hc] at hk
  obtain ⟨W, hW⟩ : ∃ W, W = w.alloc (.cells #[v0] 43) := ⟨_, rfl⟩
  have r : Row W w.heap.size 43 #[v0] := by rw [hW]; exact Row.new _ _ _
  have bel : Below w.heap.size w W := by rw [hW]; exact (Below.refl _ _).alloc (Nat.le_refl _) _
  replace o0 := o0.next bel
  have nb0 : w.heap.size ∉ F := fun hb => by have := hlt _ hb; omega
  have sub0 : ∀ x ∈ F, x ∈ F := fun x hb => hb
  have on : Only F w W := Only.of_below bel
  have HW := Lib.hid hW
  have HEF : Hid (F = F) := Lib.hid (by rfl)
  clear hW h hz hc bel hlt hz0 
  go_enter Tryz.func30, Tryz.ntmps30
  go_wp2_with fail
  rw [← HW.out]
  refine (markK_Int64SS _ _ k F _ o0 hF Z0.out (by omega) (by rw [HZ0.out]; omega)).mono ?_
  rintro e w1 ⟨he, o0, on0⟩
  rw [HZ0.out] at he
  replace r := Row.only r on0 nb0
  replace on := on.trans (on0.wider sub0)
  clear on0
  obtain ⟨k0, hk0⟩ : ∃ l, k + (z0 : Int) = l := ⟨_, rfl⟩
  rw [hk0] at he
  have l0 : 0 ≤ k0 := by omega
  have u0 : k0  ≤ 1099511627776 := by omega
  subst he
  have HK0 := Lib.hid hk0
  clear hk0
  have F1 : AnsMarkF w sSubst [v0] d k F (.returned (.int .i64 k0)) w1 := by
    refine ⟨congrArg (fun z => Ending.returned (.int .i64 z)) ?_, ?_, on⟩
    · rw [HC.out]; have := HK0.out; omega
    · skip
      exact o0
  have HF := Lib.hid F1
  clear F1 on r o0
  go_wp2
  go_ret
  exact HF.out

end Go.Proofs.YtmaamlnooepogaaGreat.kindsT
end

section
/-
  PLAIN MATHEMATICS of a walk under a substitution, and a substitution in memory ('rd_subst'). Conditions: none but those named. By an AI agent.
-/
namespace Go.Proofs.YtmaamlnooepogaaGreat.und
open Go.RowKit Go.Proofs.YtmaamlnooepogaaGreat.base Go.Proofs.YtmaamlnooepogaaGreat.ints Go.Proofs.YtmaamlnooepogaaGreat.sig Go.Proofs.YtmaamlnooepogaaGreat.term Go.Proofs.YtmaamlnooepogaaGreat.termOk Go.Proofs.YtmaamlnooepogaaGreat.termFacts Go.Proofs.YtmaamlnooepogaaGreat.segs Go.Proofs.YtmaamlnooepogaaGreat.segsHelp Go.Proofs.YtmaamlnooepogaaGreat.shape Go.Proofs.YtmaamlnooepogaaGreat.kindsT Go.Proofs.YtmaamlnooepogaaGreat.fillMath Go.Proofs.YtmaamlnooepogaaGreat.gives Go.Proofs.YtmaamlnooepogaaGreat.filled Go.Proofs.YtmaamlnooepogaaGreat.substOk Go.Proofs.YtmaamlnooepogaaGreat.sub Go.Proofs.YtmaamlnooepogaaGreat.putMath Go.Proofs.YtmaamlnooepogaaGreat.ruleMath Go.Proofs.YtmaamlnooepogaaGreat.stepMath Go.Proofs.YtmaamlnooepogaaGreat.walkMath Go.Proofs.YtmaamlnooepogaaGreat.walkSpec

theorem rd_subst {w : World} {B : Nat} {v : Value} {ss : Dat sSubst} (h : Rd w B sSubst [v] ss) (hz : sz sSubst ss ≤ 1048576) : ∃ S m c, v = .slice S m c ∧ Segs w B S m ss ∧ tot ss ≤ 1048576 ∧ m ≤ 1048576 := by
  obtain ⟨A, n, c, e, hcap, hl, hc⟩ := h
  injection e with e
  have ht : tot ss = sz sSubst ss := by
    show ss.length + ((ss.take ss.length).map List.length).sum = ss.length + (ss.map (sz sI)).sum
    rw [List.take_length]
    congr 2
    refine List.map_congr_left fun x _ => ?_
    rw [sz_ints]
  have hl' : List.length ss = n := hl
  refine ⟨A, n, c, e, ⟨hl, fun hn => ?_⟩, by rw [ht]; exact hz, tot_len hl' (by rw [ht]; exact hz)⟩
  obtain ⟨b, off, eA, hb, hj⟩ := hc hn
  refine ⟨b, off, eA, hb, fun j hjn => ?_⟩
  obtain ⟨es, hel, hp, hr⟩ := hj j hjn
  obtain ⟨x, rfl⟩ := List.length_eq_one_iff.1 (show es.length = 1 from hel)
  obtain ⟨A', n', c', rfl, hs, hcp⟩ := rd_ints.1 hr
  have h0 := hp 0 (by simp)
  rw [show j * nc sI = j from Nat.mul_one j] at h0
  exact ⟨A', n', c', h0, hs, hcp⟩

/-! ### where a step is made in the filled walk -/
def mvd (M : Nat → List Int) (s : St) : Int := ((fillL M (s.2.2.take s.1.toNat)).length : Int)
def undL (M : Nat → List Int) (L : List St) : List St := L.map fun s => (mvd M s, s.2.1, fillL M s.2.2)
def nowT (t : List Int) (L : List St) : Nat → List Int
  | 0 => t
  | j + 1 => (L.getD j (0, 0, [])).2.2
theorem put_pre {sg t u : List Int} {a : Nat} (ha : a < t.length) : (putAt sg t u a).take a = t.take a ∧ a ≤ (putAt sg t u a).length := by
  unfold putAt putL
  have h1 : (t.take a).length = a := by rw [List.length_take]; omega
  refine ⟨?_, by simp only [List.length_append]; omega⟩
  rw [List.take_append_of_le_length (by omega), List.take_of_length_le (by omega)]
theorem step_pre {sg : List Int} {x : Rl} {t v : List Int} {a : Nat} (ha : a < t.length) (h : stepO sg x t a = some v) : v.take a = t.take a ∧ a ≤ v.length := by
  unfold stepO at h
  split at h
  · cases h
  · split at h
    · injection h with h
      subst h
      exact put_pre ha
    · cases h
theorem now_pre {sg : List Int} {rs : List Rl} : ∀ {L : List St} {t v : List Int} {i : Nat} {y : St}, goOn sg rs t L = some v → termOkB sg t = true → i < L.length → L.getD i (0, 0, []) = y → (0 ≤ y.1 ∧ y.1 < (nowT t L i).length) ∧ y.2.2.take y.1.toNat = (nowT t L i).take y.1.toNat ∧ y.1.toNat ≤ y.2.2.length ∧ termOkB sg (nowT t L i) = true
  | [], _, _, _, _, _, _, hi, _ => absurd hi (Nat.not_lt_zero _)
  | x :: L, t, v, 0, y, h, ht, _, hy => by
    obtain ⟨h1, _⟩ := go_cons.1 h
    obtain ⟨q1, q2⟩ := stepAt_parts h1
    obtain ⟨-, -, r3, -⟩ := walkMath.there_parts q1
    have hy : x = y := hy
    subst hy
    obtain ⟨e1, e2⟩ := step_pre (show x.1.toNat < t.length by omega) q2
    exact ⟨r3, e1, e2, ht⟩
  | x :: L, t, v, i + 1, y, h, ht, hi, hy => by
    obtain ⟨h1, h2⟩ := go_cons.1 h
    have hx : termOkB sg x.2.2 = true := (go_ok ht h).2 x (List.mem_cons_self ..)
    have hn : nowT t (x :: L) (i + 1) = nowT x.2.2 L i := by cases i <;> rfl
    rw [hn]
    exact now_pre h2 hx (by simpa using hi) hy
theorem und_take {M : Nat → List Int} {i : Nat} {L : List St} {xa xr : Int} {ys : List Int} (hi : i < L.length) (hy : L.getD i (0, 0, []) = (xa, xr, ys)) : undL M (L.take i) ++ [(mvd M (xa, xr, ys), xr, fillL M ys)] = undL M (L.take (i + 1)) := by
  have e := take_step hi hy
  unfold undL
  rw [← e, List.map_append]
  rfl
theorem und_len60 {M : Nat → List Int} {i : Nat} {L : List St} (h : L.length ≤ 60) : (undL M (L.take i)).length ≤ 60 := by unfold undL; rw [List.length_map, List.length_take]; omega
theorem und_eq {sg : List Int} {rs : List Rl} {M : Nat → List Int} : ∀ {L : List St} {t v : List Int}, goOn sg rs t L = some v → termOkB sg t = true → undS M t L = undL M L
  | [], _, _, _, _ => rfl
  | x :: L, t, v, h, ht => by
    obtain ⟨-, e, -, -⟩ := now_pre (i := 0) h ht (by simp) rfl
    have e : x.2.2.take x.1.toNat = t.take x.1.toNat := e
    obtain ⟨h1, h2⟩ := go_cons.1 h
    have hx : termOkB sg x.2.2 = true := (go_ok ht h).2 x (List.mem_cons_self ..)
    show _ :: _ = _ :: _
    have e2 : mvd M x = ((fillL M (t.take x.1.toNat)).length : Int) := by unfold mvd; rw [e]
    rw [und_eq h2 hx, ← e2]
    rfl

/-! ### the answer -/
def undB (sg : List Int) (rs : List Rl) (k : Wk) (ss : List (List Int)) : Bool := (walkB sg rs k && substOkB sg ss) && (fitsB ss k.1 && k.2.all fun s => fitsB ss s.2.2)
def undW (sg : List Int) (rs : List Rl) (k : Wk) (ss : List (List Int)) : Wk := if undB sg rs k ss = true then (fillL (givesL ss) k.1, undL (givesL ss) k.2) else ([], [])
section
variable {sg : List Int} {rs : List Rl} {k : Wk} {ss : List (List Int)}
theorem und_off (h : undB sg rs k ss = false) : undW sg rs k ss = ([], []) ∧ undB sg rs k ss = false := ⟨by unfold undW; rw [if_neg (by rw [h]; simp)], h⟩
theorem und_no1 (h : walkB sg rs k = false) : undW sg rs k ss = ([], []) ∧ undB sg rs k ss = false := und_off (by unfold undB; rw [h]; rfl)
theorem und_no2 (h : substOkB sg ss = false) : undW sg rs k ss = ([], []) ∧ undB sg rs k ss = false := und_off (by unfold undB; rw [h, Bool.and_false]; rfl)
theorem und_no3 (h : fitsB ss k.1 = false) : undW sg rs k ss = ([], []) ∧ undB sg rs k ss = false := und_off (by unfold undB; rw [h]; simp)
theorem und_no4 {i : Nat} {y : St} (hi : i < k.2.length) (hy : k.2.getD i (0, 0, []) = y) (h : fitsB ss y.2.2 = false) : undW sg rs k ss = ([], []) ∧ undB sg rs k ss = false := und_off (by
  unfold undB
  have : (k.2.all fun s => fitsB ss s.2.2) = false := by
    rw [List.all_eq_false]
    refine ⟨y, ?_, by rw [h]; simp⟩
    rw [← hy]
    simp [List.getD, hi]
  rw [this]; simp)
theorem und_yes (h1 : walkB sg rs k = true) (h2 : substOkB sg ss = true) (h3 : fitsB ss k.1 = true) (h4 : ∀ i, i < k.2.length → fitsB ss (k.2.getD i (0, 0, [])).2.2 = true) : undW sg rs k ss = (fillL (givesL ss) k.1, undL (givesL ss) k.2) ∧ undB sg rs k ss = true := by
  have h : undB sg rs k ss = true := by
    unfold undB
    rw [h1, h2, h3]
    have : (k.2.all fun s => fitsB ss s.2.2) = true := by
      rw [List.all_eq_true]
      intro s hs
      obtain ⟨i, hi, rfl⟩ := List.getElem_of_mem hs
      have := h4 i hi
      have e : k.2.getD i (0, 0, []) = k.2[i] := by simp only [List.getD, List.getElem?_eq_getElem hi, Option.getD_some]
      rwa [e] at this
    rw [this]; rfl
  exact ⟨by unfold undW; rw [if_pos h], h⟩
end
end Go.Proofs.YtmaamlnooepogaaGreat.und
end

section
/-
  How many numbers a walk holds that WalkUnder answers. Conditions: none. By an AI agent.
-/
namespace Go.Proofs.YtmaamlnooepogaaGreat.undX
open Go.RowKit Go.Proofs.YtmaamlnooepogaaGreat.base Go.Proofs.YtmaamlnooepogaaGreat.sig Go.Proofs.YtmaamlnooepogaaGreat.term Go.Proofs.YtmaamlnooepogaaGreat.termOk Go.Proofs.YtmaamlnooepogaaGreat.termFacts Go.Proofs.YtmaamlnooepogaaGreat.segs Go.Proofs.YtmaamlnooepogaaGreat.shape Go.Proofs.YtmaamlnooepogaaGreat.kindsR Go.Proofs.YtmaamlnooepogaaGreat.kindsW Go.Proofs.YtmaamlnooepogaaGreat.ruleMath Go.Proofs.YtmaamlnooepogaaGreat.stepMath Go.Proofs.YtmaamlnooepogaaGreat.walkMath Go.Proofs.YtmaamlnooepogaaGreat.walkSpec Go.Proofs.YtmaamlnooepogaaGreat.walkX Go.Proofs.YtmaamlnooepogaaGreat.fillMath Go.Proofs.YtmaamlnooepogaaGreat.gives Go.Proofs.YtmaamlnooepogaaGreat.filled Go.Proofs.YtmaamlnooepogaaGreat.und
theorem fits_len {ss : List (List Int)} {t : List Int} (h : fitsB ss t = true) : (fillL (givesL ss) t).length ≤ 60 := of_decide_eq_true h
theorem und_sz {sg : List Int} {rs : List Rl} {k : Wk} {ss : List (List Int)} : sz sWalk (undW sg rs k ss) ≤ 1048576 := by
  cases h : undB sg rs k ss with
  | false => rw [(und_off h).1]; exact zero_sz
  | true =>
    have h0 := h
    unfold undB at h
    simp only [Bool.and_eq_true, List.all_eq_true] at h
    obtain ⟨⟨h1, h2⟩, h4, h5⟩ := h
    unfold undW
    rw [if_pos h0]
    refine walk_sz (fits_len h4) (by show (undL (givesL ss) k.2).length ≤ 60; unfold undL; rw [List.length_map]; exact (walk_parts h1).2.2.1) (fun s hs => ?_)
    have hs : s ∈ undL (givesL ss) k.2 := hs
    unfold undL at hs
    obtain ⟨y, hy, rfl⟩ := List.mem_map.1 hs
    exact fits_len (h5 y hy)
end Go.Proofs.YtmaamlnooepogaaGreat.undX
end

section
/-
  CONTRACTS: impl's Walk.carried over whatever two functions ('Changes', 'Places'). Conditions: the walk reads as data ('Rd'), at most 60 steps. Written by a program of mine (mkwalkimplc.py). By an AI agent.
-/
namespace Go.Proofs.YtmaamlnooepogaaGreat.walkImpl
open Go.RowKit Go.Proofs.YtmaamlnooepogaaGreat.base Go.Proofs.YtmaamlnooepogaaGreat.ints Go.Proofs.YtmaamlnooepogaaGreat.sig Go.Proofs.YtmaamlnooepogaaGreat.term Go.Proofs.YtmaamlnooepogaaGreat.termOk Go.Proofs.YtmaamlnooepogaaGreat.endAt Go.Proofs.YtmaamlnooepogaaGreat.endOf Go.Proofs.YtmaamlnooepogaaGreat.marks Go.Proofs.YtmaamlnooepogaaGreat.app Go.Proofs.YtmaamlnooepogaaGreat.sym Go.Proofs.YtmaamlnooepogaaGreat.sub Go.Proofs.YtmaamlnooepogaaGreat.segs Go.Proofs.YtmaamlnooepogaaGreat.segsHelp Go.Proofs.YtmaamlnooepogaaGreat.kinds Go.Proofs.YtmaamlnooepogaaGreat.termFacts Go.Proofs.YtmaamlnooepogaaGreat.same Go.Proofs.YtmaamlnooepogaaGreat.shifted Go.Proofs.YtmaamlnooepogaaGreat.shape Go.Proofs.YtmaamlnooepogaaGreat.drawX Go.Proofs.YtmaamlnooepogaaGreat.kindsR Go.Proofs.YtmaamlnooepogaaGreat.kindsW Go.Proofs.YtmaamlnooepogaaGreat.varsOf Go.Proofs.YtmaamlnooepogaaGreat.ruleMath Go.Proofs.YtmaamlnooepogaaGreat.ruleSpec Go.Proofs.YtmaamlnooepogaaGreat.stepMath Go.Proofs.YtmaamlnooepogaaGreat.walkMath Go.Proofs.YtmaamlnooepogaaGreat.stepSpec Go.Proofs.YtmaamlnooepogaaGreat.walkSpec Go.Proofs.YtmaamlnooepogaaGreat.ownL Go.Proofs.YtmaamlnooepogaaGreat.heldT
set_option maxRecDepth 100000

/-! ### the two functions, what comes of them -/
/-- function g with what it has captured changes a term y of kind T to f y, or tells that it can't -/
def Changes (g : Nat) (lb : Array Value) (w : World) (T : List Int → Prop) (f : List Int → List Int) (ok : List Int → Bool) : Prop := ∀ (W : World) (U : Option Addr) (un uc : Nat) (y : List Int), Below w.heap.size w W → Rd W W.heap.size sI [.slice U un uc] y → T y →
  Calls Tryz.prog g (#[.slice U un uc] ++ lb) W (AnsPairO W (if ok y = true then f y else []) (ok y))
/-- function g tells where a step is made -/
def Places (g : Nat) (lb : Array Value) (w : World) (T : St → Prop) (pl : St → Int) : Prop := ∀ (W : World) (xa xr : Int) (U : Option Addr) (un uc : Nat) (ys : List Int), Below w.heap.size w W → Rd W W.heap.size sI [.slice U un uc] ys → T (xa, xr, ys) →
  Calls Tryz.prog g (#[.agg #[.int .i64 xa, .int .i64 xr, .slice U un uc]] ++ lb) W fun e w' => e = .returned (.int .i64 (pl (xa, xr, ys))) ∧ Below W.heap.size W w'
def carB (ok : List Int → Bool) (k : Wk) : Bool := ok k.1 && k.2.all fun s => ok s.2.2
def carS (f : List Int → List Int) (pl : St → Int) (L : List St) : List St := L.map fun s => (pl s, s.2.1, f s.2.2)
def carW (f : List Int → List Int) (ok : List Int → Bool) (pl : St → Int) (k : Wk) : Wk := if carB ok k = true then (f k.1, carS f pl k.2) else ([], [])
section
variable {f : List Int → List Int} {ok : List Int → Bool} {pl : St → Int} {k : Wk}
theorem car_off (h : carB ok k = false) : carW f ok pl k = ([], []) ∧ carB ok k = false := ⟨by unfold carW; rw [if_neg (by rw [h]; simp)], h⟩
theorem car_no1 (h : ok k.1 = false) : carW f ok pl k = ([], []) ∧ carB ok k = false := car_off (by unfold carB; rw [h]; rfl)
theorem car_no2 {i : Nat} {y : St} (hi : i < k.2.length) (hy : k.2.getD i (0, 0, []) = y) (h : ok y.2.2 = false) : carW f ok pl k = ([], []) ∧ carB ok k = false := car_off (by
  unfold carB
  have : (k.2.all fun s => ok s.2.2) = false := by
    rw [List.all_eq_false]
    refine ⟨y, ?_, by rw [h]; simp⟩
    rw [← hy]
    simp [List.getD, hi]
  rw [this, Bool.and_false])
theorem car_yes (h1 : ok k.1 = true) (h2 : ∀ i, i < k.2.length → ok (k.2.getD i (0, 0, [])).2.2 = true) : carW f ok pl k = (f k.1, carS f pl k.2) ∧ carB ok k = true := by
  have h : carB ok k = true := by
    unfold carB
    rw [h1, Bool.true_and, List.all_eq_true]
    intro s hs
    obtain ⟨i, hi, rfl⟩ := List.getElem_of_mem hs
    have := h2 i hi
    have e : k.2.getD i (0, 0, []) = k.2[i] := by simp only [List.getD, List.getElem?_eq_getElem hi, Option.getD_some]
    rwa [e] at this
  exact ⟨by unfold carW; rw [if_pos h], h⟩
theorem car_take {i : Nat} {L : List St} {xa xr : Int} {ys : List Int} (hi : i < L.length) (hy : L.getD i (0, 0, []) = (xa, xr, ys)) : carS f pl (L.take i) ++ [(pl (xa, xr, ys), xr, f ys)] = carS f pl (L.take (i + 1)) := by
  have e := take_step hi hy
  unfold carS
  rw [← e, List.map_append]
  rfl
theorem car_len {i : Nat} {L : List St} (h : L.length ≤ 60) : (carS f pl (L.take i)).length ≤ 60 := by unfold carS; rw [List.length_map, List.length_take]; omega
end
structure Ca (w : World) (a b : Value) (B : Nat) (X O : Option Addr) (xn xc on oc : Nat) (fr : List Int) (L : List St) (wr : World) : Prop where
  r0 : Row wr w.heap.size 32 #[a, b]
  r1 : Row wr (w.heap.size + 1) 32 #[.slice none 0 0, .slice none 0 0]
  r3 : Row wr B 32 #[.slice X xn xc, .slice O on oc]
  x : Ownd wr (w.heap.size + 1 + 1) B X xn xc fr
  o : OwnL wr (B + 1) wr.heap.size 86 sStep O on oc L
  b : Below w.heap.size w wr
  z : w.heap.size + 1 + 1 ≤ B
theorem Ca.next {w wr w' : World} {a b : Value} {B : Nat} {X O : Option Addr} {xn xc on oc : Nat} {fr : List Int} {L : List St} (h : Ca w a b B X O xn xc on oc fr L wr) (hb : Below wr.heap.size wr w') : Ca w a b B X O xn xc on oc fr L w' :=
  ⟨h.r0.next hb, h.r1.next hb, h.r3.next hb, h.x.next hb, (h.o.next hb).wider (Nat.le_refl _) hb.size, next_trans h.b hb, h.z⟩

set_option maxHeartbeats 8000000 in
theorem carried (gC : Nat) (lbC : Array Value) (egC : ∀ args w, (callFunc gC args).run Tryz.prog w = .ok (.enter gC args) w) (gP : Nat) (lbP : Array Value) (egP : ∀ args w, (callFunc gP args).run Tryz.prog w = .ok (.enter gP args) w)
    (T : List Int → Prop) (T2 : St → Prop) (f : List Int → List Int) (ok : List Int → Bool) (pl : St → Int) (a b : Value) (k : Dat sWalk) (w : World) (h : Rd w w.heap.size sWalk [a, b] k) (hz : sz sWalk k ≤ 1048576) (h60 : List.length k.2 ≤ 60)
    (hC : Changes gC lbC w T f ok) (hP : Places gP lbP w T2 pl) (hT : T k.1) (hTs : ok k.1 = true → ∀ i, i < List.length k.2 → T (k.2.getD i (0, 0, [])).2.2 ∧ T2 (k.2.getD i (0, 0, []))) :
    Calls Tryz.prog 43 #[.agg #[a, b], .func (.func gC) #[] lbC, .func (.func gP) #[] lbP] w (AnsWalk w (carW f ok pl k) (carB ok k)) := by
  obtain ⟨F, fn, fc, S, sn, sc, rfl, rfl, hF, hcF, hfn, hsn0, hsn, hcS, hrF, hrS, hzF, hzS⟩ := rd_walk h hz
  obtain ⟨W, hW, r0, r1, bel⟩ : ∃ W, W = (w.alloc (.cells #[.slice F fn fc, .slice S sn sc] 32)).alloc (.cells #[.slice none 0 0, .slice none 0 0] 32) ∧ Row W w.heap.size 32 #[.slice F fn fc, .slice S sn sc] ∧ Row W (w.heap.size + 1) 32 #[.slice none 0 0, .slice none 0 0] ∧ Below w.heap.size w W := by
    refine ⟨_, rfl, (Row.new w _ _).alloc _, ?_, ((Below.refl _ _).alloc (Nat.le_refl _) _).alloc (by simp) _⟩
    have := Row.new (w.alloc (.cells #[.slice F fn fc, .slice S sn sc] 32)) 32 #[.slice none 0 0, .slice none 0 0]
    simpa using this
  have HW := Lib.hid hW
  have LC0 := Lib.hid (hC W F fn fc k.1 bel (hrF.next bel) hT)
  have HC := Lib.hid hC
  have HP := Lib.hid hP
  have HTS0 := Lib.hid hTs
  have HRS := Lib.hid hrS
  have HSN := Lib.hid hsn0
  have h60' : sn ≤ 60 := by rw [← hsn0]; exact h60
  obtain ⟨b0, hb0⟩ : ∃ b0, ok k.1 = b0 := ⟨_, rfl⟩
  have HB0 := Lib.hid hb0
  rw [hb0] at LC0
  clear hW h hz hF hcF hcS hrF hrS hzF hzS hsn0 hC hP hTs hb0
  cases b0 with
  | false =>
    go_enter Tryz.func43, Tryz.ntmps43
    go_wp2_with (go_at_fn gC; rw [← HW.out]; refine LC0.out.mono ?_; rintro e w3 ⟨X, xn, xc, rfl, oX, bb⟩; refine (?_ : Hid _).out)
    have j1 := r1.next bb
    have jb := next_trans bel bb
    refine Lib.hid ?_
    have y0 : w3.cell? ⟨w.heap.size + 1, 0, none⟩ = some (.slice none 0 0) := j1.cell 0
    have y1 : w3.cell? ⟨w.heap.size + 1, 1, none⟩ = some (.slice none 0 0) := j1.cell 1
    have g0 := j1.free 0
    have g1 := j1.free 1
    have ra := j1.put 0 (.slice none 0 0)
    have y2 : (w3.setCell ⟨w.heap.size + 1, 0, none⟩ (.slice none 0 0)).cell? ⟨w.heap.size + 1, 1, none⟩ = some (.slice none 0 0) := ra.cell 1
    have g2 := ra.free 1
    have rb := ra.put 1 (.slice none 0 0)
    have u0 : ((w3.setCell ⟨w.heap.size + 1, 0, none⟩ (.slice none 0 0)).setCell ⟨w.heap.size + 1, 1, none⟩ (.slice none 0 0)).cell? ⟨w.heap.size + 1, 0, none⟩ = some (.slice none 0 0) := rb.cell 0
    have u1 : ((w3.setCell ⟨w.heap.size + 1, 0, none⟩ (.slice none 0 0)).setCell ⟨w.heap.size + 1, 1, none⟩ (.slice none 0 0)).cell? ⟨w.heap.size + 1, 1, none⟩ = some (.slice none 0 0) := rb.cell 1
    have FZ : AnsWalk w (carW f ok pl k) (carB ok k) (.returned (.tuple #[.agg #[.slice none 0 0, .slice none 0 0], .bool false])) ((w3.setCell ⟨w.heap.size + 1, 0, none⟩ (.slice none 0 0)).setCell ⟨w.heap.size + 1, 1, none⟩ (.slice none 0 0)) := ansWalk_no (car_no1 HB0.out) (((jb).setCell (show w.heap.size ≤ w.heap.size + 1 by omega) _).setCell (show w.heap.size ≤ w.heap.size + 1 by omega) _)
    have HFZ := Lib.hid FZ
    clear FZ ra rb bb bel r0 r1 oX j1 jb
    go_wp2
    exact bodyPost_ret (v := .tuple #[.agg #[.slice none 0 0, .slice none 0 0], .bool false]) (by simp [results, Tryz.results43, go_sem, u0, u1]) rfl HFZ.out
  | true =>
    have HTS := Lib.hid (HTS0.out HB0.out)
    clear HTS0
    go_enter Tryz.func43, Tryz.ntmps43
    go_wp2_with (go_at_fn gC; rw [← HW.out]; refine LC0.out.mono ?_; rintro e w3 ⟨X, xn, xc, rfl, oX, bb⟩; refine (?_ : Hid _).out)
    have oX1 : Own w3 W.heap.size (.slice X xn xc) (f k.1) := oX
    have zX := bb.size
    have zW := r1.lt
    replace r0 := r0.next bb
    replace r1 := r1.next bb
    replace bel := next_trans bel bb
    have b4 : Below w3.heap.size w3 (w3.alloc (.cells #[.slice X xn xc, .slice none 0 0] 32)) := (Below.refl _ _).alloc (Nat.le_refl _) _
    obtain ⟨W4, hW4⟩ : ∃ W4, W4 = w3.alloc (.cells #[.slice X xn xc, .slice none 0 0] 32) := ⟨_, rfl⟩
    have HI0 := Lib.hid (show Ca w (.slice F fn fc) (.slice S sn sc) w3.heap.size X none xn xc 0 0 (f k.1) (carS f pl (k.2.take 0)) W4 from by
      rw [hW4]
      exact ⟨r0.next b4, r1.next b4, Row.new _ _ _, ((Ownd.of_own oX1).next b4).wider (by omega) (Nat.le_refl _), OwnL.nil _ _ _ _ _, next_trans bel b4, by omega⟩)
    have KS : (w3.alloc (.cells #[.slice X xn xc, .slice none 0 0] 32)).cell? ⟨w.heap.size, 1, none⟩ = some (.slice S sn sc) := (r0.next b4).cell 1
    have HW4 := Lib.hid hW4
    clear bb oX oX1 b4 r0 r1 bel hW4 LC0 HW
    refine Lib.hid ?_
    go_wp2_with fail
    rw [← HW4.out]
    clear HW4 KS
    generalize w3.heap.size = B at *
    go_loopg [30] sn (fun g i_ wr => ∃ (i on oc : Nat) (O : Option Addr), i_ = .int .i64 i ∧ i + g = sn ∧ (∀ j, j < i → ok (k.2.getD j (0, 0, [])).2.2 = true) ∧ Ca w (.slice F fn fc) (.slice S sn sc) B X O xn xc on oc (f k.1) (carS f pl (k.2.take i)) wr)
    case atStart => exact ⟨0, 0, 0, none, rfl, by omega, fun j hj => absurd hj (Nat.not_lt_zero _), HI0.out⟩
    case round =>
      clear HI0
      obtain ⟨i, on, oc, O, rfl, hg, hlow, J⟩ := hrel
      have HLOW := Lib.hid hlow
      have HG := Lib.hid hg
      clear hlow hg
      by_cases hi : i < sn
      · obtain ⟨b, off, uu, x, hA, hb, ex, c0, c1, c2, hx2⟩ := rd_step HRS.out J.b HSN.out hi
        subst hA
        obtain ⟨xa, xr, ys⟩ := x
        obtain ⟨U, un, uc, rfl, hU, hcU⟩ := rd_ints.1 hx2
        have hil : i < k.2.length := by rw [HSN.out]; exact hi
        have hts := HTS.out i hil
        rw [ex.out] at hts
        have c0 : wr.cell? ⟨b, off + i * 3, none⟩ = some (.int .i64 xa) := c0
        have c1 : wr.cell? ⟨b, off + i * 3 + 1, none⟩ = some (.int .i64 xr) := c1
        obtain ⟨xb, hxb⟩ : ∃ xb, wr.heap.size = xb := ⟨_, rfl⟩
        obtain ⟨w1, hw1⟩ : ∃ w1, w1 = wr.alloc (.cells #[.int .i64 xa, .int .i64 xr, .slice U un uc] 86) := ⟨_, rfl⟩
        have b1 : Below wr.heap.size wr w1 := by rw [hw1]; exact (Below.refl _ _).alloc (Nat.le_refl _) _
        have J1 := J.next b1
        have rX : Row w1 xb 86 #[.int .i64 xa, .int .i64 xr, .slice U un uc] := by rw [hw1, ← hxb]; exact Row.new _ _ _
        have hUr : Rd w1 w1.heap.size sI [.slice U un uc] ys := (rd_ints.2 ⟨U, un, uc, rfl, hU.more J.b.size, hcU⟩ : Rd wr wr.heap.size sI [.slice U un uc] ys).next b1
        have LC1 := Lib.hid (HC.out w1 U un uc ys J1.b hUr hts.1)
        have zw1 : xb < w1.heap.size := rX.lt
        have zBB : B < xb := by rw [← hxb]; exact J.r3.lt
        have HZ := Lib.hid J.z
        have OL0 := Lib.hid (show OwnL w1 (B + 1) xb 86 sStep O on oc (carS f pl (k.2.take i)) from by rw [← hxb]; exact J.o.next b1)
        have i0 : (0 : Int) ≤ (i : Int) := by omega
        have i1 : (i : Int) < (sn : Int) := by omega
        have EX := Lib.hid ex.out
        have HUR := Lib.hid hUr
        have J1H := Lib.hid J1
        have HW1 := Lib.hid hw1
        obtain ⟨bo, hbo⟩ : ∃ bo, ok ys = bo := ⟨_, rfl⟩
        have HBO := Lib.hid hbo
        rw [hbo] at LC1
        clear hx2 hU hcU J J1 ex hw1 b1 hUr hbo
        cases bo with
        | false =>
          go_wp2_with (go_at_fn gC; rw [← HW1.out]; refine LC1.out.mono ?_; rintro e w2 ⟨U2, un2, uc2, rfl, oU, bb⟩; refine (?_ : Hid _).out)
          have J2 := J1H.out.next bb
          have j2 := J2.r1
          have jb := J2.b
          clear bb J2 oU J1H OL0 HUR LC1
          refine Lib.hid ?_
          have y0 : w2.cell? ⟨w.heap.size + 1, 0, none⟩ = some (.slice none 0 0) := j2.cell 0
          have y1 : w2.cell? ⟨w.heap.size + 1, 1, none⟩ = some (.slice none 0 0) := j2.cell 1
          have g0 := j2.free 0
          have g1 := j2.free 1
          have ra := j2.put 0 (.slice none 0 0)
          have y2 : (w2.setCell ⟨w.heap.size + 1, 0, none⟩ (.slice none 0 0)).cell? ⟨w.heap.size + 1, 1, none⟩ = some (.slice none 0 0) := ra.cell 1
          have g2 := ra.free 1
          have rb := ra.put 1 (.slice none 0 0)
          have u0 : ((w2.setCell ⟨w.heap.size + 1, 0, none⟩ (.slice none 0 0)).setCell ⟨w.heap.size + 1, 1, none⟩ (.slice none 0 0)).cell? ⟨w.heap.size + 1, 0, none⟩ = some (.slice none 0 0) := rb.cell 0
          have u1 : ((w2.setCell ⟨w.heap.size + 1, 0, none⟩ (.slice none 0 0)).setCell ⟨w.heap.size + 1, 1, none⟩ (.slice none 0 0)).cell? ⟨w.heap.size + 1, 1, none⟩ = some (.slice none 0 0) := rb.cell 1
          have FZ : AnsWalk w (carW f ok pl k) (carB ok k) (.returned (.tuple #[.agg #[.slice none 0 0, .slice none 0 0], .bool false])) ((w2.setCell ⟨w.heap.size + 1, 0, none⟩ (.slice none 0 0)).setCell ⟨w.heap.size + 1, 1, none⟩ (.slice none 0 0)) := ansWalk_no (car_no2 hil EX.out HBO.out) (((jb).setCell (show w.heap.size ≤ w.heap.size + 1 by omega) _).setCell (show w.heap.size ≤ w.heap.size + 1 by omega) _)
          have HFZ := Lib.hid FZ
          clear FZ ra rb jb j2 c0 c1 c2 rX
          go_wp2
          exact bodyPost_ret (v := .tuple #[.agg #[.slice none 0 0, .slice none 0 0], .bool false]) (by simp [results, Tryz.results43, go_sem, u0, u1]) rfl HFZ.out
        | true =>
          go_wp2_with (go_at_fn gC; rw [← HW1.out]; refine LC1.out.mono ?_; rintro e w2 ⟨U2, un2, uc2, rfl, oU, bb⟩; refine (?_ : Hid _).out)
          have J2 := J1H.out.next bb
          have oU1 : Own w2 w1.heap.size (.slice U2 un2 uc2) (f ys) := oU
          have zw2 := bb.size
          have OU := Lib.hid (show Own w2.drew w1.heap.size (.slice U2 un2 uc2) (f ys) from Own.drew oU1)
          have OL := Lib.hid (show OwnL w2.drew (B + 1) xb 86 sStep O on oc (carS f pl (k.2.take i)) from (OL0.out.next bb).next (drew_below w2))
          have RX := Lib.hid (show Row w2.drew xb 86 #[.int .i64 xa, .int .i64 xr, .slice U un uc] from rX.next (next_trans bb (drew_below w2)))
          have RB := Lib.hid (show Row w2.drew B 32 #[.slice X xn xc, .slice O on oc] from J2.r3)
          have c3 : w2.cell? ⟨B, 1, none⟩ = some (.slice O on oc) := J2.r3.cell 1
          have c0 : w2.cell? ⟨xb, 0, none⟩ = some (.int .i64 xa) := (rX.next bb).cell 0
          have c1 : w2.cell? ⟨xb, 1, none⟩ = some (.int .i64 xr) := (rX.next bb).cell 1
          have c2 : w2.cell? ⟨xb, 2, none⟩ = some (.slice U un uc) := (rX.next bb).cell 2
          have zB : B < w2.drew.heap.size := show B < w2.heap.size by omega
          have zX : xb < w2.drew.heap.size := show xb < w2.heap.size by omega
          have hon : on ≤ 60 := by rw [← OL.out.1]; exact car_len (by rw [HSN.out]; exact h60')
          have zB1 : B + 1 ≤ xb := zBB
          have LPL := Lib.hid (HP.out w2.drew xa xr U un uc ys (next_trans J2.b (drew_below w2)) ((HUR.out.next bb).next (drew_below w2)) hts.2)
          have J2H := Lib.hid J2
          clear bb J2 oU oU1 J1H OL0 HUR LC1 rX
          refine Lib.hid ?_
          go_upto_region 11 with fail
          refine AnyT.start (S := (fun w' => w'.cell? ⟨B, 1, none⟩ = some (.slice O on oc) ∧ w'.cell? ⟨xb, 0, none⟩ = some (.int .i64 xa) ∧ w'.cell? ⟨xb, 1, none⟩ = some (.int .i64 xr) ∧ w'.cell? ⟨xb, 2, none⟩ = some (.slice U un uc))) (fun j => j == 12) (by kernel_rfl) ⟨c3, c0, c1, c2⟩ (fun hHeld => ?_)
          refine AnyT.takeA (i := 0) (v := ?_) rfl (by kernel_rfl) (by kernel_rfl) (by kernel_rfl) (fun _ _ _ h => h) (Or.inl ⟨by rfl, ?_⟩) ?_
          rotate_left 1
          · (intro w0 _; go_simp; try with_reducible rfl)
          try simp only [Act.put, List.setIfInBounds_toArray, List.set_cons_zero, List.set_cons_succ, List.getElem_toArray, List.getElem_cons_zero, List.getElem_cons_succ]
          refine AnyT.take (i := 1) (v := ?_) rfl (by kernel_rfl) (by kernel_rfl) (by kernel_rfl) (by kernel_rfl) (fun _ _ _ h => h) (Or.inl ⟨by rfl, ?_⟩) (by assumption) ?_
          rotate_left 1
          · (intro w0 hSw; (try dsimp only at hSw); go_simp; try with_reducible rfl)
          try simp only [Act.put, List.setIfInBounds_toArray, List.set_cons_zero, List.set_cons_succ, List.getElem_toArray, List.getElem_cons_zero, List.getElem_cons_succ]
          refine AnyT.takeA (i := 2) (v := ?_) rfl (by kernel_rfl) (by kernel_rfl) (by kernel_rfl) (fun _ _ _ h => h) (Or.inl ⟨by rfl, ?_⟩) ?_
          rotate_left 1
          · (intro w0 _; go_simp; try with_reducible rfl)
          try simp only [Act.put, List.setIfInBounds_toArray, List.set_cons_zero, List.set_cons_succ, List.getElem_toArray, List.getElem_cons_zero, List.getElem_cons_succ]
          refine AnyT.take (i := 3) (v := ?_) rfl (by kernel_rfl) (by kernel_rfl) (by kernel_rfl) (by kernel_rfl) (fun _ _ _ h => h) (Or.inl ⟨by rfl, ?_⟩) (by assumption) ?_
          rotate_left 1
          · (intro w0 hSw; (try dsimp only at hSw); go_simp; try with_reducible rfl)
          try simp only [Act.put, List.setIfInBounds_toArray, List.set_cons_zero, List.set_cons_succ, List.getElem_toArray, List.getElem_cons_zero, List.getElem_cons_succ]
          refine AnyT.takeA (i := 5) (v := ?_) rfl (by kernel_rfl) (by kernel_rfl) (by kernel_rfl) (fun _ _ _ h => h) (Or.inl ⟨by rfl, ?_⟩) ?_
          rotate_left 1
          · (intro w0 _; go_simp; try with_reducible rfl)
          try simp only [Act.put, List.setIfInBounds_toArray, List.set_cons_zero, List.set_cons_succ, List.getElem_toArray, List.getElem_cons_zero, List.getElem_cons_succ]
          refine AnyT.take (i := 6) (v := ?_) rfl (by kernel_rfl) (by kernel_rfl) (by kernel_rfl) (by kernel_rfl) (fun _ _ _ h => h) (Or.inl ⟨by rfl, ?_⟩) (by assumption) ?_
          rotate_left 1
          · (intro w0 hSw; (try dsimp only at hSw); go_simp; try with_reducible rfl)
          try simp only [Act.put, List.setIfInBounds_toArray, List.set_cons_zero, List.set_cons_succ, List.getElem_toArray, List.getElem_cons_zero, List.getElem_cons_succ]
          refine AnyT.takeA (i := 7) (v := ?_) rfl (by kernel_rfl) (by kernel_rfl) (by kernel_rfl) (fun _ _ _ h => h) (Or.inl ⟨by rfl, ?_⟩) ?_
          rotate_left 1
          · (intro w0 _; go_simp; try with_reducible rfl)
          try simp only [Act.put, List.setIfInBounds_toArray, List.set_cons_zero, List.set_cons_succ, List.getElem_toArray, List.getElem_cons_zero, List.getElem_cons_succ]
          refine AnyT.call (i := 4) (by kernel_rfl) rfl (fun K hK => ?_)
          try simp only [Act.put, List.setIfInBounds_toArray, List.set_cons_zero, List.set_cons_succ, List.getElem_toArray, List.getElem_cons_zero, List.getElem_cons_succ]
          rw [if_pos (by rfl)]
          go_simp
          (go_at_fn gP; refine LPL.out.mono ?_; rintro e w5 ⟨rfl, bb5⟩; have d3 : w5.cell? ⟨B, 1, none⟩ = some (.slice O on oc) := (bb5.cell (p := ⟨B, 1, none⟩) zB).trans c3; have d0 : w5.cell? ⟨xb, 0, none⟩ = some (.int .i64 xa) := (bb5.cell (p := ⟨xb, 0, none⟩) zX).trans c0; have d1 : w5.cell? ⟨xb, 1, none⟩ = some (.int .i64 xr) := (bb5.cell (p := ⟨xb, 1, none⟩) zX).trans c1; have d2 : w5.cell? ⟨xb, 2, none⟩ = some (.slice U un uc) := (bb5.cell (p := ⟨xb, 2, none⟩) zX).trans c2; have z5 : w2.heap.size ≤ w5.heap.size := bb5.size; go_wp2_with fail)
          refine hK.out _ _ (fun _ _ => ?_) (fun hKeep => ?_)
          · exact ⟨d3, d0, d1, d2⟩
          replace hHeld := hKeep (by first | rfl | trivial) hHeld
          clear hK K hKeep
          try simp only [Act.put, List.setIfInBounds_toArray, List.set_cons_zero, List.set_cons_succ, List.getElem_toArray, List.getElem_cons_zero, List.getElem_cons_succ]
          refine AnyT.takeA (i := 8) (v := ?_) rfl (by kernel_rfl) (by kernel_rfl) (by kernel_rfl) (fun _ _ _ h => h) (Or.inl ⟨by rfl, ?_⟩) ?_
          rotate_left 1
          · (intro w0 _; go_simp; try with_reducible rfl)
          try simp only [Act.put, List.setIfInBounds_toArray, List.set_cons_zero, List.set_cons_succ, List.getElem_toArray, List.getElem_cons_zero, List.getElem_cons_succ]
          refine AnyT.call (i := 9) (by kernel_rfl) rfl (fun K hK => ?_)
          try simp only [Act.put, List.setIfInBounds_toArray, List.set_cons_zero, List.set_cons_succ, List.getElem_toArray, List.getElem_cons_zero, List.getElem_cons_succ]
          rw [if_pos (by rfl)]
          go_simp
          refine hK.out _ _ (fun _ _ => ?_) (fun hKeep => ?_)
          · exact ⟨keep_alloc d3, keep_alloc d0, keep_alloc d1, keep_alloc d2⟩
          replace hHeld := hKeep (by first | rfl | trivial) hHeld
          clear hK K hKeep
          try simp only [Act.put, List.setIfInBounds_toArray, List.set_cons_zero, List.set_cons_succ, List.getElem_toArray, List.getElem_cons_zero, List.getElem_cons_succ]
          refine AnyT.call (i := 10) (by kernel_rfl) rfl (fun K hK => ?_)
          try simp only [Act.put, List.setIfInBounds_toArray, List.set_cons_zero, List.set_cons_succ, List.getElem_toArray, List.getElem_cons_zero, List.getElem_cons_succ]
          rw [if_pos (by rfl)]
          have b3 : Below w5.heap.size w5 (w5.alloc (.cells #[.int .i64 (pl (xa, xr, ys)), .int .i64 xr, .slice U2 un2 uc2] 86)) := (Below.refl _ _).alloc (Nat.le_refl _) _
          have HAPP := Lib.hid (show OwnL (w5.alloc (.cells #[.int .i64 (pl (xa, xr, ys)), .int .i64 xr, .slice U2 un2 uc2] 86)) (B + 1) xb 86 sStep O on oc (carS f pl (k.2.take i)) ∧ OwnL (w5.alloc (.cells #[.int .i64 (pl (xa, xr, ys)), .int .i64 xr, .slice U2 un2 uc2] 86)) xb (w5.heap.size + 1) 86 sStep (some ⟨w5.heap.size, 0, none⟩) 1 1 [(pl (xa, xr, ys), xr, f ys)] from ⟨(OL.out.next bb5).next b3, OwnL.single (e := 86) (s := sStep) (Row.new w5 86 #[.int .i64 (pl (xa, xr, ys)), .int .i64 xr, .slice U2 un2 uc2]) ((((owned_step OU.out (pl (xa, xr, ys)) xr).next bb5).next b3).wider (by omega) (Nat.le_refl _)) (by simpa using z5) (by omega)⟩)
          refine wp_appL _ _ 30 86 sStep _ _ Tryz.underlying30 info_StepS rfl (by decide) rfl (B + 1) xb xb (w5.heap.size + 1) O on oc w5.heap.size 1 1 _ _ rfl HAPP.out.1 rfl HAPP.out.2 (Nat.le_refl _) zB1 (by omega) (by omega) (by simp; omega) ?_
          intro A4 oc' w4 oL4 hg4 hat4 b4 hf4
          obtain ⟨O', rfl⟩ := hf4 (.inr (by omega))
          have rX4 := Row.away ((RX.out.next bb5).next b3) hg4 (fun e => by have h8 := OL.out.2.1 xb e; omega)
          have kx0 : w4.cell? ⟨xb, 0, none⟩ = some (.int .i64 xa) := rX4.cell 0
          have kx1 : w4.cell? ⟨xb, 1, none⟩ = some (.int .i64 xr) := rX4.cell 1
          have kx2 : w4.cell? ⟨xb, 2, none⟩ = some (.slice U un uc) := rX4.cell 2
          refine hK.out _ _ (fun _ _ => ?_) (fun hKeep => ?_)
          · exact ⟨(b4.cell (p := ⟨B, 1, none⟩) (show B < B + 1 by omega)).trans (keep_alloc d3), kx0, kx1, kx2⟩
          replace hHeld := hKeep (by first | rfl | trivial) hHeld
          clear hK K hKeep
          try simp only [Act.put, List.setIfInBounds_toArray, List.set_cons_zero, List.set_cons_succ, List.getElem_toArray, List.getElem_cons_zero, List.getElem_cons_succ]
          refine AnyT.takeA (i := 11) (v := ?_) rfl (by kernel_rfl) (by kernel_rfl) (by kernel_rfl) (fun _ _ _ h => h) (Or.inl ⟨by rfl, ?_⟩) ?_
          rotate_left 1
          · (intro w0 _; go_simp; try with_reducible rfl)
          try simp only [Act.put, List.setIfInBounds_toArray, List.set_cons_zero, List.set_cons_succ, List.getElem_toArray, List.getElem_cons_zero, List.getElem_cons_succ]
          have rB4 := ((RB.out.next bb5).next b3).below b4 (show B < B + 1 by omega)
          have y1 : w4.cell? ⟨B, 1, none⟩ = some (.slice O on oc) := rB4.cell 1
          have g1 := rB4.free 1
          refine AnyT.call (i := 12) (by kernel_rfl) rfl (fun K hK => ?_)
          try simp only [Act.put, List.setIfInBounds_toArray, List.set_cons_zero, List.set_cons_succ, List.getElem_toArray, List.getElem_cons_zero, List.getElem_cons_succ]
          rw [if_pos (by rfl)]
          go_simp
          refine hK.out _ _ (fun h => by cases h) (fun _ => ?_)
          clear hK K
          try simp only [Act.put, List.setIfInBounds_toArray, List.set_cons_zero, List.set_cons_succ, List.getElem_toArray, List.getElem_cons_zero, List.getElem_cons_succ]
          refine AnyT.done (by kernel_rfl) ?_ _
          have hJ := J2H.out.next (next_trans ((drew_below w2).trans bb5) b3)
          have z2 : w2.heap.size ≤ w5.heap.size := z5
          have F := Lib.hid (show Ca w (.slice F fn fc) (.slice (some ⟨b, off, none⟩) sn sc) B X (some ⟨O', 0, none⟩) xn xc (on + 1) oc' (f k.1) (carS f pl (k.2.take (i + 1))) (w4.setCell ⟨B, 1, none⟩ (.slice (some ⟨O', 0, none⟩) (on + 1) oc')) from by
            have z := HZ.out
            have h9 : w5.heap.size + 1 ≤ w4.heap.size := by have := b4.size; simpa using this
            refine ⟨(hJ.r0.below b4 (by omega)).far (show w.heap.size ≠ B by omega) _, (hJ.r1.below b4 (by omega)).far (show w.heap.size + 1 ≠ B by omega) _, rB4.put 1 _, ?_, ?_, ?_, z⟩
            · exact (hJ.x.btw (lo' := B + 1) (hi' := w4.heap.size) (Btw.of_grown hg4 (fun q hq => by have h8 := OL.out.ge q hq; have h7 : q < w2.heap.size := h8.2; omega)) (.inl (by omega))).btw (lo' := B) (hi' := B + 1) ⟨rfl, rfl, rfl, by simp, fun k hk ho => Below.heap_setCell w4 _ _ k (by show k ≠ B; omega)⟩ (.inl (Nat.le_refl _))
            · rw [← car_take hil EX.out]
              have o5 : OwnL (w4.setCell ⟨B, 1, none⟩ (.slice (some ⟨O', 0, none⟩) (on + 1) oc')) (B + 1) w4.heap.size 86 sStep (some ⟨O', 0, none⟩) (on + 1) oc' (carS f pl (k.2.take i) ++ [(pl (xa, xr, ys), xr, f ys)]) := oL4.btw (lo' := B) (hi' := B + 1) ⟨rfl, rfl, rfl, by simp, fun k hk ho => Below.heap_setCell w4 _ _ k (by show k ≠ B; omega)⟩ (.inr (Nat.le_refl _))
              exact o5.wider (Nat.le_refl _) (by simp)
            · exact (hJ.b.trans (b4.mono (by omega))).setCell (show w.heap.size ≤ B by omega) _)
          have HL2 := Lib.hid (show ∀ j, j < i + 1 → ok (k.2.getD j (0, 0, [])).2.2 = true from fun j hj => by
            by_cases e : j = i
            · subst e; rw [EX.out]; exact HBO.out
            · exact HLOW.out j (by omega))
          clear hJ rB4 oL4 hg4 hat4 b4 hf4 HAPP b3 OL OU RB RX J2H c0 c1 c2 c3
          go_wp2
          go_roundg (gk - 1)
          case measure => have := HG.out; omega
          case rel => exact ⟨i + 1, on + 1, oc', some ⟨O', 0, none⟩, by simp, by have := HG.out; omega, HL2.out, F.out⟩
      · have e1 : i = sn := by have := HG.out; omega
        subst e1
        have HI := Lib.hid (car_yes (f := f) (pl := pl) HB0.out (fun j hj => HLOW.out j (by rw [← HSN.out]; exact hj)))
        have HZ := J.z
        have ow : Owned wr (w.heap.size + 1 + 1) wr.heap.size sWalk [.slice X xn xc, .slice O on oc] (f k.1, carS f pl k.2) := by
          have o2 := J.o
          rw [List.take_of_length_le (by rw [HSN.out]; exact Nat.le_refl _)] at o2
          exact owned_walk (J.x.wider (Nat.le_refl _) (Nat.le_succ _)) o2 (by omega) J.r3.lt
        have jb := J.b
        have j1 := J.r1
        have K2 : wr.cell? ⟨B, 0, none⟩ = some (.slice X xn xc) := J.r3.cell 0
        have K3 : wr.cell? ⟨B, 1, none⟩ = some (.slice O on oc) := J.r3.cell 1
        clear J HLOW
        have y0 : wr.cell? ⟨w.heap.size + 1, 0, none⟩ = some (.slice none 0 0) := j1.cell 0
        have y1 : wr.cell? ⟨w.heap.size + 1, 1, none⟩ = some (.slice none 0 0) := j1.cell 1
        have g0 := j1.free 0
        have g1 := j1.free 1
        have ra := j1.put 0 (.slice X xn xc)
        have y2 : (wr.setCell ⟨w.heap.size + 1, 0, none⟩ (.slice X xn xc)).cell? ⟨w.heap.size + 1, 1, none⟩ = some (.slice none 0 0) := ra.cell 1
        have g2 := ra.free 1
        have rb := ra.put 1 (.slice O on oc)
        have u0 : ((wr.setCell ⟨w.heap.size + 1, 0, none⟩ (.slice X xn xc)).setCell ⟨w.heap.size + 1, 1, none⟩ (.slice O on oc)).cell? ⟨w.heap.size + 1, 0, none⟩ = some (.slice X xn xc) := rb.cell 0
        have u1 : ((wr.setCell ⟨w.heap.size + 1, 0, none⟩ (.slice X xn xc)).setCell ⟨w.heap.size + 1, 1, none⟩ (.slice O on oc)).cell? ⟨w.heap.size + 1, 1, none⟩ = some (.slice O on oc) := rb.cell 1
        have FZ : AnsWalk w (carW f ok pl k) (carB ok k) (.returned (.tuple #[.agg #[.slice X xn xc, .slice O on oc], .bool true])) ((wr.setCell ⟨w.heap.size + 1, 0, none⟩ (.slice X xn xc)).setCell ⟨w.heap.size + 1, 1, none⟩ (.slice O on oc)) := ⟨_, _, _, _, _, _, by rw [HI.out.2], by rw [HI.out.1]; exact ((ow.put (g := w.heap.size + 1) (i := 0) (by omega)).put (g := w.heap.size + 1) (i := 1) (by omega)).wider (by omega) (by simp), (jb.setCell (show w.heap.size ≤ w.heap.size + 1 by omega) _).setCell (show w.heap.size ≤ w.heap.size + 1 by omega) _⟩
        have HFZ := Lib.hid FZ
        clear FZ ra rb ow jb j1
        go_wp2
        exact bodyPost_ret (v := .tuple #[.agg #[.slice X xn xc, .slice O on oc], .bool true]) (by simp [results, Tryz.results43, go_sem, u0, u1]) rfl HFZ.out
end Go.Proofs.YtmaamlnooepogaaGreat.walkImpl
end

section
/-
  CONTRACTS: spec.l7Moved. Conditions: the substitution and the term read as lists, at most 1048576 numbers and 60, the variables are at most 24, what they stand for has at most 60 numbers. By an AI agent.
-/
namespace Go.Proofs.YtmaamlnooepogaaGreat.und
open Go.RowKit Go.Proofs.YtmaamlnooepogaaGreat.base Go.Proofs.YtmaamlnooepogaaGreat.ints Go.Proofs.YtmaamlnooepogaaGreat.sig Go.Proofs.YtmaamlnooepogaaGreat.cursor Go.Proofs.YtmaamlnooepogaaGreat.term Go.Proofs.YtmaamlnooepogaaGreat.termOk Go.Proofs.YtmaamlnooepogaaGreat.marks Go.Proofs.YtmaamlnooepogaaGreat.app Go.Proofs.YtmaamlnooepogaaGreat.appAt Go.Proofs.YtmaamlnooepogaaGreat.sym Go.Proofs.YtmaamlnooepogaaGreat.sub Go.Proofs.YtmaamlnooepogaaGreat.segs Go.Proofs.YtmaamlnooepogaaGreat.segsHelp Go.Proofs.YtmaamlnooepogaaGreat.termFacts Go.Proofs.YtmaamlnooepogaaGreat.varsMath Go.Proofs.YtmaamlnooepogaaGreat.varsOf Go.Proofs.YtmaamlnooepogaaGreat.fillMath Go.Proofs.YtmaamlnooepogaaGreat.look Go.Proofs.YtmaamlnooepogaaGreat.shifted Go.Proofs.YtmaamlnooepogaaGreat.substOk Go.Proofs.YtmaamlnooepogaaGreat.gives Go.Proofs.YtmaamlnooepogaaGreat.filled Go.Proofs.YtmaamlnooepogaaGreat.shape Go.Proofs.YtmaamlnooepogaaGreat.termFacts
set_option maxRecDepth 100000

def HeadM (w : World) (S : Option Addr) (m c a : Nat) (ss : List (List Int)) (t : List Int) (p_ i_ : Value) (wr : World) : Prop :=
  ∃ (k pn : Nat), k ≤ a ∧ p_ = .int .i64 (pn : Int) ∧ i_ = .int .i64 (k : Int) ∧ (fillL (givesL ss) (t.take k)).length = pn ∧ Row wr w.heap.size 43 #[.slice S m c] ∧ Below w.heap.size w wr
theorem vars24 {sg t : List Int} (h : termOkB sg t = true) : ∀ x ∈ t, -24 ≤ x := fun x hx => (term_mem h hx).1

set_option maxHeartbeats 4000000 in
theorem l7Moved (S A : Option Addr) (m c mt ct a : Nat) (ss : List (List Int)) (t : List Int) (w : World) (h : Segs w w.heap.size S m ss) (h' : Seg w w.heap.size A mt t) (ht : tot ss ≤ 1048576) (hmt : mt ≤ 60) (ha : a ≤ mt) (hv : ∀ x ∈ t, -24 ≤ x) (hM : ∀ i, (givesL ss i).length ≤ 60) :
    Calls Tryz.prog 62 #[.agg #[.slice S m c], .slice A mt ct, .int .i64 (a : Int)] w fun e w' => e = .returned (.int .i64 ((fillL (givesL ss) (t.take a)).length : Int)) ∧ Below w.heap.size w w' := by
  have HL := Lib.hid h'.1
  have HV := Lib.hid hv
  have HM := Lib.hid hM
  have HT := Lib.hid ht
  have HS0 := Lib.hid (show HeadM w S m c a ss t (.int .i64 0) (.int .i64 0) (w.alloc (.cells #[.slice S m c] 43)) from ⟨0, 0, Nat.zero_le _, rfl, rfl, by simp [fillL], Row.new _ _ _, (Below.refl _ _).alloc (Nat.le_refl _) _⟩)
  clear hv hM ht
  go_enter Tryz.func62, Tryz.ntmps62
  go_wp2_with fail
  go_loopw [7, 8] (fun p_ i_ wr => HeadM w S m c a ss t p_ i_ wr) (fun _ i _ => a - (intOf i).toNat)
  case atStart => exact HS0.out
  case round =>
    obtain ⟨k, pn, hk, rfl, rfl, hp, hr, hb⟩ := hrel
    clear HS0
    have hpn : pn ≤ 245760 := by rw [← hp]; exact fill_bound (fun i => Nat.le_trans (HM.out i) (by omega)) HL.out hmt
    have HP := Lib.hid hp
    clear hp
    by_cases hlt : k < a
    · obtain ⟨b, off, x, rfl, hbb, hx, ex⟩ := h'.spot (k := k) (by omega)
      have hx1 : wr.cell? ⟨b, off + k, none⟩ = some (.int .i64 x) := (hb.cell (p := ⟨b, off + k, none⟩) hbb).trans hx
      have hbr : b < wr.heap.size := Nat.lt_of_lt_of_le hbb hb.size
      have hsz := hr.lt
      have cS : wr.cell? ⟨w.heap.size, 0, none⟩ = some (.slice S m c) := hr.cell 0
      have hkl : k < t.length := by rw [HL.out]; omega
      have hmem : x ∈ t := by
        have := ex.out
        rw [← this]
        simp [List.getD, hkl]
      have hx24 : -24 ≤ x := HV.out x hmem
      have E := Lib.hid (fill_take (L := givesL ss) hkl ex.out)
      have i0 : (0 : Int) ≤ (k : Int) := by omega
      have i1 : (k : Int) < (mt : Int) := by omega
      have i2 : (k : Int) < (a : Int) := by omega
      clear hmem hx ex hkl
      by_cases hpos : 0 ≤ x
      · have d1 : ¬ x < 0 := by omega
        have HS1 := Lib.hid (show HeadM w S m c a ss t (.int .i64 ((pn : Int) + 1)) (.int .i64 ((k : Int) + 1)) wr from ⟨k + 1, pn + 1, hlt, by simp, by simp, by rw [E.out, rep_sym hpos, List.length_append, HP.out]; rfl, hr, hb⟩)
        clear hr hb cS h'
        go_wp2
        go_roundw
        case rel => exact HS1.out
        case measure => simp [intOf]; omega
      · have hneg : x < 0 := by omega
        have R := Lib.hid (rep_var (L := givesL ss) hneg)
        obtain ⟨i, hi⟩ : ∃ i : Nat, (-1 - x).toNat = i := ⟨_, rfl⟩
        rw [hi] at R
        have hix : (i : Int) = -1 - x := by omega
        have LG := Lib.hid (l2Gives S m c ss i wr.drew (((h.below hb).more hb.size).drew) HT.out (by omega))
        rw [hix] at LG
        have hlen : (givesL ss i).length ≤ 60 := HM.out i
        obtain ⟨q, hq⟩ : ∃ q, (givesL ss i).length = q := ⟨_, rfl⟩
        rw [hq] at hlen
        have HQ := Lib.hid hq
        have hw1 : IntKind.i64.wrap (-1 - x) = -1 - x := by rw [IntKind.wrap_i64]; omega
        have hw2 : IntKind.i64.wrap ((pn : Int) + (q : Int)) = (pn : Int) + (q : Int) := by rw [IntKind.wrap_i64]; omega
        have hrd := hr.drew
        have hbd := hb.drew
        clear hix hi hq h h'
        go_wp2_with fail
        go_region_held3 (fun w' => w'.cell? ⟨w.heap.size, 0, none⟩ = some (.slice S m c) ∧ w'.cell? ⟨b, off + k, none⟩ = some (.int .i64 x))
          (go_keep)
          (first
            | (go_at_call 113; refine LG.out.mono ?_; rintro e w1 ⟨D, dn, dc, rfl, od, bb⟩; obtain rfl : dn = q := (by rw [Own.len od]; exact HQ.out); have hr1 := hrd.next bb; have hb1 := next_trans hbd bb; have cS1 : w1.cell? ⟨w.heap.size, 0, none⟩ = some (.slice S m c) := hr1.cell 0; have cX1 : w1.cell? ⟨b, off + k, none⟩ = some (.int .i64 x) := (bb.cell (p := ⟨b, off + k, none⟩) hbr).trans hx1))
        have HS1 := Lib.hid (show HeadM w S m c a ss t (.int .i64 ((pn : Int) + (dn : Int))) (.int .i64 ((k : Int) + 1)) w1 from ⟨k + 1, pn + dn, hlt, by simp, by simp, by rw [E.out, R.out, List.length_append, HP.out, HQ.out], hr1, hb1⟩)
        clear cS1 cX1 hr1 hb1 od bb hrd hbd LG hr hb cS hx1 HM HV
        go_wp2
        go_roundw
        case rel => first | exact HS1.out | (rw [hw2]; exact HS1.out)
        case measure => simp [intOf]; omega
    · have e1 : k = a := by omega
      subst e1
      have F := Lib.hid (show (Ending.returned (.int .i64 (pn : Int)) = .returned (.int .i64 ((fillL (givesL ss) (t.take k)).length : Int))) ∧ Below w.heap.size w wr from ⟨by rw [HP.out], hb⟩)
      clear hr hb h h'
      go_wp2
      go_ret
      exact F.out
end Go.Proofs.YtmaamlnooepogaaGreat.und
end
