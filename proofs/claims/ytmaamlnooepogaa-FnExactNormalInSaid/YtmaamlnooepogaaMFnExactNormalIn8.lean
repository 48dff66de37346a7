/-
  MERGED: my texts WNormalIn, OpenX, one behind the other, as they are. By an AI agent.
-/
import Derived.Test.YtmaamlnooepogaaMFnExactNormalIn7
import Derived.Deep.RegionHeld3
import Derived.ProofKit
import Derived.OpenShut
import Derived.Lib.SmallJoins
import Derived.Deep.Slices
import Derived.Deep.Fields
section
/-
  THE WALK of laws.FnExactNormalIn: it returns true, whatever the arguments, and writes nothing that was there. Conditions: the arguments read as data. Written by a program of mine (gen_x.py). By an AI agent.
-/
namespace Go.Proofs.Ytmaamlnooepogaa.wNormalIn
open Go.RowKit Go.Proofs.Ytmaamlnooepogaa.base Go.Proofs.Ytmaamlnooepogaa.ints Go.Proofs.Ytmaamlnooepogaa.sig Go.Proofs.Ytmaamlnooepogaa.cursor Go.Proofs.Ytmaamlnooepogaa.marks Go.Proofs.Ytmaamlnooepogaa.app Go.Proofs.Ytmaamlnooepogaa.sym Go.Proofs.Ytmaamlnooepogaa.appAt Go.Proofs.Ytmaamlnooepogaa.segs Go.Proofs.Ytmaamlnooepogaa.segsHelp Go.Proofs.Ytmaamlnooepogaa.segsMark Go.Proofs.Ytmaamlnooepogaa.kinds Go.Proofs.Ytmaamlnooepogaa.shape Go.Proofs.Ytmaamlnooepogaa.varsOf Go.Proofs.Ytmaamlnooepogaa.kindsR Go.Proofs.Ytmaamlnooepogaa.ruleMath Go.Proofs.Ytmaamlnooepogaa.ruleSpec Go.Proofs.Ytmaamlnooepogaa.stepMath Go.Proofs.Ytmaamlnooepogaa.walkMath Go.Proofs.Ytmaamlnooepogaa.stepSpec Go.Proofs.Ytmaamlnooepogaa.iter
set_option maxRecDepth 100000

set_option maxHeartbeats 8000000 in
theorem law (v0_0 v0_1 : Value) (d0 : Dat sSystem) (a1 : Option Addr) (n1 c1 : Nat) (d1 : List Int) (w : World) (s0 : Rd w w.heap.size sSystem [v0_0, v0_1] d0) (s1 : Rd w w.heap.size sI [.slice a1 n1 c1] d1) :
    Calls Try.prog 7 #[.agg #[v0_0, v0_1], .slice a1 n1 c1] w (Fine w) := by
  have Hl1 := Lib.hid s1.seg.1
  have cp1 := (by obtain ⟨A, c, ec, hc⟩ := s1.slice; injection ec with e1 e2 e3; subst e1 e2 e3; exact hc : Cap a1 n1 c1)
  have hN1 : n1 ≤ 9223372036854775807 := Nat.le_trans cp1.1 cp1.2.1
  clear cp1
  obtain ⟨W, hW⟩ : ∃ W, W = w.alloc (.cells #[v0_0, v0_1] 45) := ⟨_, rfl⟩
  have rA0 : Row W (w.heap.size) 45 #[v0_0, v0_1] := by rw [hW]; have := Row.new (w) 45 #[v0_0, v0_1]; simpa using this
  have bW : Below w.heap.size w W := by rw [hW]; exact (Below.refl w.heap.size w).alloc (by simp) (.cells #[v0_0, v0_1] 45)
  have zA0 := rA0.lt
  replace s0 := s0.next bW
  replace s1 := s1.next bW
  have HW := Lib.hid hW
  clear hW
  obtain ⟨t0, ht0⟩ : ∃ z, sz sSystem d0 = z := ⟨_, rfl⟩
  have HT0 := Lib.hid ht0
  clear ht0
  obtain ⟨v, hv⟩ : ∃ v, normalB d0.1 d0.2 d1 = v := ⟨_, rfl⟩
  have HV := Lib.hid hv
  clear hv
  have ev : (v != v) = false := by simp
  by_cases h1 : n1 ≤ 1048576
  case neg =>
    go_enter Try.func7, Try.ntmps7
    go_wp2_with fail
    rw [← HW.out]
    go_ret
    exact ⟨rfl, bW⟩
  have hi1 : Hid (sz sI d1 ≤ 1048576) := Lib.hid (by rw [sz_ints, Hl1.out]; exact h1)
  have hn1 := h1
  clear h1
  have h1 := hi1
  clear hi1
  go_enter Try.func7, Try.ntmps7
  go_wp2_with fail
  rw [← HW.out]
  clear HW
  have bel := Below.refl W.heap.size W
  have cA0_0 : W.cell? ⟨w.heap.size, 0, none⟩ = some (v0_0) := (rA0.next bel).cell 0
  have cA0_1 : W.cell? ⟨w.heap.size, 1, none⟩ = some (v0_1) := (rA0.next bel).cell 1
  refine (szK_System _ _ d0 (1048576) _ (s0.next bel) (by omega) (by omega)).mono ?_
  rintro e w1 ⟨he, bb⟩
  rw [HT0.out] at he
  replace bel := next_trans bel bb
  have zw1 := bb.size
  clear bb
  by_cases q0 : t0 ≤ 1048576
  case neg =>
    rw [if_pos (by omega)] at he
    subst he
    have F := Lib.hid (bW.trans (bel.mono bW.size))
    clear bel bW cA0_0 cA0_1
    go_wp2
    go_ret
    exact ⟨rfl, F.out⟩
  rw [if_neg (by omega)] at he
  subst he
  have h0 : Hid (sz sSystem d0 ≤ 1048576) := Lib.hid (by rw [HT0.out]; omega)
  clear cA0_0 cA0_1
  have cA0_0 : w1.cell? ⟨w.heap.size, 0, none⟩ = some (v0_0) := (rA0.next bel).cell 0
  have cA0_1 : w1.cell? ⟨w.heap.size, 1, none⟩ = some (v0_1) := (rA0.next bel).cell 1
  go_wp2_with fail
  refine (toK_System _ _ d0 _ (s0.next bel) h0.out).mono ?_
  rintro e w2 ⟨p0A0, p0n0, p0c0, p0A1, p0n1, p0c1, rfl, op0, bb⟩
  replace bel := next_trans bel bb
  have zw2 := bb.size
  clear bb
  clear cA0_0 cA0_1
  have cA0_0 : w2.cell? ⟨w.heap.size, 0, none⟩ = some (v0_0) := (rA0.next bel).cell 0
  have cA0_1 : w2.cell? ⟨w.heap.size, 1, none⟩ = some (v0_1) := (rA0.next bel).cell 1
  go_wp2_with fail
  refine (toK_ints _ d1 _ (s1.next bel) h1.out).mono ?_
  rintro e w3 ⟨p1A0, p1n0, p1c0, rfl, op1, bb⟩
  replace op0 := op0.next bb
  replace bel := next_trans bel bb
  have zw3 := bb.size
  clear bb
  clear cA0_0 cA0_1
  have cA0_0 : w3.cell? ⟨w.heap.size, 0, none⟩ = some (v0_0) := (rA0.next bel).cell 0
  have cA0_1 : w3.cell? ⟨w.heap.size, 1, none⟩ = some (v0_1) := (rA0.next bel).cell 1
  go_wp2_with fail
  refine (specNormalIn _ _ _ d0 d1 _ op0.rd op1.rd h0.out h1.out).mono ?_
  rintro e w4 ⟨he, bb⟩
  rw [HV.out] at he
  subst he
  replace op0 := op0.next bb
  replace op1 := op1.next bb
  replace bel := next_trans bel bb
  have zw4 := bb.size
  clear bb
  clear op0 op1
  clear cA0_0 cA0_1
  have cA0_0 : w4.cell? ⟨w.heap.size, 0, none⟩ = some (v0_0) := (rA0.next bel).cell 0
  have cA0_1 : w4.cell? ⟨w.heap.size, 1, none⟩ = some (v0_1) := (rA0.next bel).cell 1
  clear cA0_0 cA0_1
  have cA0_0 : w4.cell? ⟨w.heap.size, 0, none⟩ = some (v0_0) := (rA0.next bel).cell 0
  have cA0_1 : w4.cell? ⟨w.heap.size, 1, none⟩ = some (v0_1) := (rA0.next bel).cell 1
  go_wp2_with fail
  refine (toK_System _ _ d0 _ (s0.next bel) h0.out).mono ?_
  rintro e w5 ⟨x0A0, x0n0, x0c0, x0A1, x0n1, x0c1, rfl, ox0, bb⟩
  replace bel := next_trans bel bb
  have zw5 := bb.size
  clear bb
  clear cA0_0 cA0_1
  have cA0_0 : w5.cell? ⟨w.heap.size, 0, none⟩ = some (v0_0) := (rA0.next bel).cell 0
  have cA0_1 : w5.cell? ⟨w.heap.size, 1, none⟩ = some (v0_1) := (rA0.next bel).cell 1
  have dA0_0 : (w5.alloc (.cells #[.slice x0A0 x0n0 x0c0, .slice x0A1 x0n1 x0c1] 29)).cell? ⟨w.heap.size, 0, none⟩ = some (v0_0) := ((rA0.next bel).alloc _).cell 0
  have dA0_1 : (w5.alloc (.cells #[.slice x0A0 x0n0 x0c0, .slice x0A1 x0n1 x0c1] 29)).cell? ⟨w.heap.size, 1, none⟩ = some (v0_1) := ((rA0.next bel).alloc _).cell 1
  go_wp2_with fail
  obtain ⟨w6, hw⟩ : ∃ W, W = w5.alloc (.cells #[.slice x0A0 x0n0 x0c0, .slice x0A1 x0n1 x0c1] 29) := ⟨_, rfl⟩
  rw [← hw]
  have rx0 : Row w6 w5.heap.size 29 #[.slice x0A0 x0n0 x0c0, .slice x0A1 x0n1 x0c1] := by rw [hw]; exact Row.new _ _ _
  have bb : Below w5.heap.size w5 w6 := by rw [hw]; exact (Below.refl _ _).alloc (Nat.le_refl _) _
  have yrx0 : w5.heap.size < w6.heap.size := by rw [hw]; simp
  clear hw
  replace ox0 := ox0.next bb
  replace bel := next_trans bel bb
  have zw6 := bb.size
  clear bb
  clear dA0_0 dA0_1
  clear cA0_0 cA0_1
  have cA0_0 : w6.cell? ⟨w.heap.size, 0, none⟩ = some (v0_0) := (rA0.next bel).cell 0
  have cA0_1 : w6.cell? ⟨w.heap.size, 1, none⟩ = some (v0_1) := (rA0.next bel).cell 1
  have cx0_0 : w6.cell? ⟨w5.heap.size, 0, none⟩ = some (.slice x0A0 x0n0 x0c0) := (rx0).cell 0
  have cx0_1 : w6.cell? ⟨w5.heap.size, 1, none⟩ = some (.slice x0A1 x0n1 x0c1) := (rx0).cell 1
  refine (toK_ints _ d1 _ (s1.next bel) h1.out).mono ?_
  rintro e w7 ⟨x1A0, x1n0, x1c0, rfl, ox1, bb⟩
  replace ox0 := ox0.next bb
  replace rx0 := rx0.next bb
  replace bel := next_trans bel bb
  have zw7 := bb.size
  clear bb
  clear cA0_0 cA0_1 cx0_0 cx0_1
  have cA0_0 : w7.cell? ⟨w.heap.size, 0, none⟩ = some (v0_0) := (rA0.next bel).cell 0
  have cA0_1 : w7.cell? ⟨w.heap.size, 1, none⟩ = some (v0_1) := (rA0.next bel).cell 1
  have cx0_0 : w7.cell? ⟨w5.heap.size, 0, none⟩ = some (.slice x0A0 x0n0 x0c0) := (rx0).cell 0
  have cx0_1 : w7.cell? ⟨w5.heap.size, 1, none⟩ = some (.slice x0A1 x0n1 x0c1) := (rx0).cell 1
  go_wp2_with fail
  refine (implNormalIn _ _ _ d0 d1 _ ox0.rd ox1.rd h0.out h1.out).mono ?_
  rintro e w8 ⟨he, bb⟩
  rw [HV.out] at he
  subst he
  replace ox0 := ox0.next bb
  replace rx0 := rx0.next bb
  replace ox1 := ox1.next bb
  replace bel := next_trans bel bb
  have zw8 := bb.size
  clear bb
  clear cA0_0 cA0_1 cx0_0 cx0_1
  have cA0_0 : w8.cell? ⟨w.heap.size, 0, none⟩ = some (v0_0) := (rA0.next bel).cell 0
  have cA0_1 : w8.cell? ⟨w.heap.size, 1, none⟩ = some (v0_1) := (rA0.next bel).cell 1
  have cx0_0 : w8.cell? ⟨w5.heap.size, 0, none⟩ = some (.slice x0A0 x0n0 x0c0) := (rx0).cell 0
  have cx0_1 : w8.cell? ⟨w5.heap.size, 1, none⟩ = some (.slice x0A1 x0n1 x0c1) := (rx0).cell 1
  go_wp2_with fail
  replace ox0 := ox0.drew
  replace rx0 := rx0.drew
  replace ox1 := ox1.drew
  replace bel := bel.drew
  have zdw8 := (drew_below w8).size
  go_region_held3 (fun w' => w'.cell? ⟨w5.heap.size, 0, none⟩ = some (.slice x0A0 x0n0 x0c0) ∧ w'.cell? ⟨w5.heap.size, 1, none⟩ = some (.slice x0A1 x0n1 x0c1) ∧ w'.cell? ⟨w.heap.size, 0, none⟩ = some (v0_0) ∧ w'.cell? ⟨w.heap.size, 1, none⟩ = some (v0_1))
    (go_keep)
    (first
      | (go_at_call 24; refine (toK_System _ _ d0 _ (s0.next bel) h0.out).mono ?_; rintro e w9 ⟨t0A0, t0n0, t0c0, t0A1, t0n1, t0c1, rfl, ot, bb⟩; replace ox0 := ox0.next bb; replace rx0 := rx0.next bb; replace ox1 := ox1.next bb; replace bel := next_trans bel bb; have k0_0w9 : w9.cell? ⟨w.heap.size, 0, none⟩ = some (v0_0) := (rA0.next bel).cell 0; have k0_1w9 : w9.cell? ⟨w.heap.size, 1, none⟩ = some (v0_1) := (rA0.next bel).cell 1; have l0_0w9 : w9.cell? ⟨w5.heap.size, 0, none⟩ = some (.slice x0A0 x0n0 x0c0) := rx0.cell 0; have l0_1w9 : w9.cell? ⟨w5.heap.size, 1, none⟩ = some (.slice x0A1 x0n1 x0c1) := rx0.cell 1; have zqw9 := bb.size; clear bb)
      | (go_at_call 26; refine (eqK_System _ _ _ _ d0 _ ox0.rd ot.rd h0.out).mono ?_; rintro e w10 ⟨rfl, bb⟩; replace ox0 := ox0.next bb; replace rx0 := rx0.next bb; replace ox1 := ox1.next bb; replace bel := next_trans bel bb; have k0_0w10 : w10.cell? ⟨w.heap.size, 0, none⟩ = some (v0_0) := (rA0.next bel).cell 0; have k0_1w10 : w10.cell? ⟨w.heap.size, 1, none⟩ = some (v0_1) := (rA0.next bel).cell 1; have l0_0w10 : w10.cell? ⟨w5.heap.size, 0, none⟩ = some (.slice x0A0 x0n0 x0c0) := rx0.cell 0; have l0_1w10 : w10.cell? ⟨w5.heap.size, 1, none⟩ = some (.slice x0A1 x0n1 x0c1) := rx0.cell 1; have zqw10 := bb.size; clear bb ot))
  clear k0_0w9 l0_0w9 k0_1w9 l0_1w9 k0_0w10 l0_0w10 k0_1w10 l0_1w10
  clear ox0 rx0
  clear cA0_0 cA0_1 cx0_0 cx0_1
  have cA0_0 : w10.cell? ⟨w.heap.size, 0, none⟩ = some (v0_0) := (rA0.next bel).cell 0
  have cA0_1 : w10.cell? ⟨w.heap.size, 1, none⟩ = some (v0_1) := (rA0.next bel).cell 1
  go_wp2_with fail
  refine (toK_ints _ d1 _ (s1.next bel) h1.out).mono ?_
  rintro e w11 ⟨t1A0, t1n0, t1c0, rfl, ot1, bb⟩
  replace ox1 := ox1.next bb
  replace bel := next_trans bel bb
  have zw11 := bb.size
  clear bb
  clear cA0_0 cA0_1
  have cA0_0 : w11.cell? ⟨w.heap.size, 0, none⟩ = some (v0_0) := (rA0.next bel).cell 0
  have cA0_1 : w11.cell? ⟨w.heap.size, 1, none⟩ = some (v0_1) := (rA0.next bel).cell 1
  go_wp2_with fail
  refine (eqK_ints _ _ d1 _ ox1.rd ot1.rd h1.out).mono ?_
  rintro e w12 ⟨rfl, bb⟩
  replace ox1 := ox1.next bb
  replace ot1 := ot1.next bb
  replace bel := next_trans bel bb
  have zw12 := bb.size
  clear bb
  clear ot1 ox1
  clear cA0_0 cA0_1
  have cA0_0 : w12.cell? ⟨w.heap.size, 0, none⟩ = some (v0_0) := (rA0.next bel).cell 0
  have cA0_1 : w12.cell? ⟨w.heap.size, 1, none⟩ = some (v0_1) := (rA0.next bel).cell 1
  have F := Lib.hid (bW.trans (bel.mono bW.size))
  clear bel bW cA0_0 cA0_1
  go_wp2
  go_ret
  exact ⟨rfl, F.out⟩
end Go.Proofs.Ytmaamlnooepogaa.wNormalIn
end

section
/-
  ARGUMENTS OPENED OVER SHAPES: an argument of a law, as the row's form hands it over, reads as data ('Rd'), its numbers are numbers of 64 bits ('Wf'); whether a type has a shape is reckoned ('fitsB'). Conditions: none; plain lemmas over any program. By an AI agent.
-/
namespace Go.Proofs.Ytmaamlnooepogaa.openX
open Go.ChangeShapes Go.WideShapes Go.ChangeAt Go.RowKit Go.Proofs.Ytmaamlnooepogaa.base Go.Proofs.Ytmaamlnooepogaa.segs Go.Proofs.Ytmaamlnooepogaa.shape

/-- every number is one of 64 bits -/
def Wf : (s : Sh) → Dat s → Prop
  | .num, (x : Int) => -9223372036854775808 ≤ x ∧ x ≤ 9223372036854775807
  | .bit, _ => True
  | .row _ s, (d : List (Dat s)) => ∀ j, j < d.length → Wf s (d.getD j (dft s))
  | .cat a b, d => Wf a d.1 ∧ Wf b d.2
mutual
def fitsB (P : Program) : Nat → Sh → TypeId → Bool
  | 0, _, _ => false
  | n + 1, s, t => match P.underlying t with
    | some (.struct fs) => P.cellsOf t == nc s && fitsL P n fs.toList 0 s
    | some (.int .i64) => match s with | .num => true | _ => false
    | some .bool => match s with | .bit => true | _ => false
    | some (.slice e) => match s with | .row _ s' => P.cellsOf e == nc s' && fitsB P n s' e | _ => false
    | _ => false
def fitsL (P : Program) : Nat → List Field → Nat → Sh → Bool
  | 0, _, _, _ => false
  | _ + 1, [], _, _ => false
  | n + 1, [f], k, s => f.offset == k && (P.cellsOf f.type == nc s && fitsB P n s f.type)
  | n + 1, f :: g :: fs, k, s => match s with | .cat a b => f.offset == k && (P.cellsOf f.type == nc a && (fitsB P n a f.type && fitsL P n (g :: fs) (k + nc a) b)) | _ => false
end

section
variable {H : Type} {enc : TypeId × Value → H} {P : Program} {w : World} {held : Bool}
theorem addr_add {b off i : Nat} : (⟨b, off, none⟩ : Addr).add i = ⟨b, off + i, none⟩ := by unfold Addr.add; split <;> simp_all
theorem rd_trod : ∀ n : Nat, (∀ (s : Sh) (t : TypeId) (fuel : Nat) (cs : List Value) (x : DataW H × List MemPlace), fitsB P n s t = true → DataW.trod enc P w 0 (fun _ => true) held fuel t cs = some x → ∃ d, Rd w w.heap.size s cs d ∧ Wf s d) ∧
    (∀ (fs : List Field) (k : Nat) (s : Sh) (cs : List Value) (m : Nat), fitsL P n fs k s = true → (∀ (i : Nat) (f : Field), fs[i]? = some f → ∃ x, DataW.trod enc P w 0 (fun _ => true) held m f.type ((cs.drop f.offset).take (P.cellsOf f.type)) = some x) →
      ∃ d, Rd w w.heap.size s ((cs.drop k).take (nc s)) d ∧ Wf s d) := by
  intro n
  induction n with
  | zero => exact ⟨fun _ _ _ _ _ h => by simp [fitsB] at h, fun _ _ _ _ _ h => by simp [fitsL] at h⟩
  | succ n ih =>
    refine ⟨fun s t fuel cs x hf h => ?_, fun fs k s cs m hf h => ?_⟩
    · unfold fitsB at hf
      split at hf
      · rename_i fs hu
        simp only [Bool.and_eq_true, beq_iff_eq] at hf
        obtain ⟨xs, n', hfu, hx, hlen, hxl, hg⟩ := DataW.trod_struct hu h
        obtain ⟨d, hr, hw⟩ := ih.2 fs.toList 0 s cs n' hf.2 (fun i f hi => by
          have hi' : fs[i]? = some f := by simpa using hi
          have h1 := hg i f hi'
          have hlt : i < fs.size := (Array.getElem?_eq_some_iff.1 hi').1
          exact ⟨xs[i]'(by omega), by rw [h1]; exact List.getElem?_eq_getElem (by omega)⟩)
        rw [List.drop_zero, List.take_of_length_le (by omega)] at hr
        exact ⟨d, hr, hw⟩
      · rename_i hu
        split at hf
        · obtain ⟨z, e1, _, hw⟩ := DataW.trod_int hu h
          refine ⟨z, e1, ?_⟩
          show -9223372036854775808 ≤ z ∧ z ≤ 9223372036854775807
          simpa [Lit.wf, IntKind.min, IntKind.max, IntKind.signed, IntKind.bits] using hw
        · cases hf
      · rename_i hu
        split at hf
        · obtain ⟨z, e1, _⟩ := DataW.trod_bool hu h
          exact ⟨z, e1, trivial⟩
        · cases hf
      · rename_i e hu
        split at hf
        · rename_i e0 s'
          simp only [Bool.and_eq_true, beq_iff_eq] at hf
          rcases Go.Deep.open_slice hu h with ⟨hcs, _⟩ | ⟨a, len, cap, m, n', D, Pl, hcs, _, hl, hm, hmm, _, hi⟩
          · exact ⟨[], ⟨none, 0, 0, hcs, ⟨by omega, by omega, fun _ => rfl⟩, rfl, fun h => absurd h (by omega)⟩, fun j hj => absurd hj (Nat.not_lt_zero _)⟩
          · have hmc : m = cap := by simpa using hmm
            subst hmc
            have hd : ∀ j, j < len → ∃ (es : List Value) (dj : Dat s'), es.length = nc s' ∧ (∀ i, i < nc s' → w.cell? ((a.add (j * nc s')).add i) = es[i]?) ∧ Rd w w.heap.size s' es dj ∧ Wf s' dj := fun j hj => by
              obtain ⟨cs', hc, ht⟩ := hi j (by omega)
              obtain ⟨dj, hr, hw⟩ := ih.1 s' e n' cs' _ hf.2 ht
              rw [hf.1] at hc
              obtain ⟨_, hcl, hat⟩ := World.cells?_some hc
              exact ⟨cs', dj, hcl, hat, hr, hw⟩
            have hspot : 0 < len → a.spot = none := fun h0 => by
              obtain ⟨es, dj, h1, h2, _⟩ := hd 0 h0
              have hp := nc_pos s'
              have h3 := h2 0 (by omega)
              rw [List.getElem?_eq_getElem (by omega)] at h3
              have := World.cell?_spot h3
              simpa [Addr.add] using this
            obtain ⟨ds, hdl, hds⟩ : ∃ ds : List (Dat s'), ds.length = len ∧ ∀ j, j < len → ∃ es : List Value, es.length = nc s' ∧ (∀ i, i < nc s' → w.cell? ((a.add (j * nc s')).add i) = es[i]?) ∧ Rd w w.heap.size s' es (ds.getD j (dft s')) ∧ Wf s' (ds.getD j (dft s')) := by
              refine ⟨(List.range len).map fun j => if hj : j < len then Classical.choose (Classical.choose_spec (hd j hj)) else dft s', by simp, fun j hj => ?_⟩
              refine ⟨Classical.choose (hd j hj), ?_⟩
              have h1 := Classical.choose_spec (Classical.choose_spec (hd j hj))
              have e1 : ((List.range len).map fun j => if hj : j < len then Classical.choose (Classical.choose_spec (hd j hj)) else dft s').getD j (dft s') = Classical.choose (Classical.choose_spec (hd j hj)) := by simp [List.getD, hj]
              rw [e1]
              exact h1
            refine ⟨ds, ⟨some a, len, m, hcs, ⟨hl, by unfold maxLen at hm; omega, fun e => by cases e⟩, hdl, fun h0 => ?_⟩, fun j hj => by
              obtain ⟨es, _, _, _, hw⟩ := hds j (by rw [← hdl]; exact hj)
              exact hw⟩
            obtain ⟨b, off, spot⟩ := a
            have hs := hspot h0
            simp only at hs
            subst hs
            refine ⟨b, off, rfl, ?_, fun j hj => ?_⟩
            · obtain ⟨es, h1, h2, _⟩ := hds 0 h0
              have hp := nc_pos s'
              have h3 := h2 0 (by omega)
              rw [List.getElem?_eq_getElem (by omega)] at h3
              have h4 := World.block_lt_of_cell? _ _ h3
              simpa [addr_add] using h4
            · obtain ⟨es, h1, h2, h3, _⟩ := hds j hj
              refine ⟨es, h1, fun i hi2 => ?_, h3⟩
              have := h2 i (by omega)
              rw [addr_add, addr_add] at this
              exact this
        · cases hf
      · cases hf
    · match fs, hf, h with
      | [], hf, _ => simp [fitsL] at hf
      | [f], hf, h =>
        unfold fitsL at hf
        simp only [Bool.and_eq_true, beq_iff_eq] at hf
        obtain ⟨h1, h2, h3⟩ := hf
        obtain ⟨x, hx⟩ := h 0 f rfl
        rw [h1, h2] at hx
        exact ih.1 s f.type m _ x h3 hx
      | f :: g :: fs, hf, h =>
        cases s with
        | cat a b =>
          unfold fitsL at hf
          simp only [Bool.and_eq_true, beq_iff_eq] at hf
          obtain ⟨h1, h2, h3, h4⟩ := hf
          obtain ⟨x, hx⟩ := h 0 f rfl
          rw [h1, h2] at hx
          obtain ⟨d1, r1, w1⟩ := ih.1 a f.type m _ x h3 hx
          obtain ⟨d2, r2, w2⟩ := ih.2 (g :: fs) (k + nc a) b cs m h4 (fun i f' hi => h (i + 1) f' hi)
          refine ⟨(d1, d2), ⟨_, _, ?_, r1, r2⟩, w1, w2⟩
          show List.take (nc a + nc b) (List.drop k cs) = _
          rw [List.take_add, List.drop_drop]
        | num => simp [fitsL] at hf
        | bit => simp [fitsL] at hf
        | row e s' => simp [fitsL] at hf
/-- a slice, or a number, as an argument -/
theorem open_val {s : Sh} {t : TypeId} {v : Value} {d : DataW H} {p : List MemPlace} {n : Nat} (hf : fitsB P n s t = true) (h : DataW.Trod enc P w 0 (fun _ => true) held t v d p) : ∃ x, Rd w w.heap.size s v.cells.toList x ∧ Wf s x := by
  obtain ⟨fuel, hfu⟩ := h
  exact (rd_trod n).1 s t fuel _ _ hf hfu
end
end Go.Proofs.Ytmaamlnooepogaa.openX
end
