/-
  MERGED: my texts Iter, RangeGive, RangePre, RangeVal, OvIter, OvTurn, OvsImpl, RangeValX, NormImpl, StepsIter, SeqImpl, PksImpl, PksX, LinWith, FormSpec, FormImpl, WClosedIn, one behind the other, as they are. By an AI agent.
-/
import Derived.Test.YtlmofkeemlfpgaaGreatMFnExactClosedIn12
import Derived.RangeFuncNested
import Derived.RangeFuncBound
import Derived.RangeFuncCalls
import Derived.RangeFuncLeaves
import Derived.Shelf.Abstract
import Derived.Shelf.RegionOpen
import Derived.WalkKit
import Derived.OwnWalkIn
import Derived.TacticsInMore
import Derived.LoopNIn
import Derived.LoopIn
import Derived.Shelf.AbstractIn
import Derived.Deep.RegionHeld3
namespace Go.Proofs.YtlmofkeemlfpgaaGreat
section
namespace iter
open Go.RowKit Go.Shelf base ints sig term termOk endAt endOf marks app sym sub segs segsHelp matchMath matchSpec whole extended termFacts shape kindsR ruleMath ruleSpec stepMath walkMath stepSpec stepImpl
set_option maxRecDepth 100000
attribute [local go_sem] Oper.semAt_some
def rowL (sg : List Int) (rs : List Rl) (t : List Int) (x k : Nat) : List (Nat × Nat) := (List.range k).filterMap fun r => if redB sg (rs.getD r ([], [])) t x = true then some (x, r) else none
def comeL (sg : List Int) (rs : List Rl) (t : List Int) (x : Nat) : List (Nat × Nat) := (List.range x).flatMap fun a => rowL sg rs t a rs.length
def redL (sg : List Int) (rs : List Rl) (t : List Int) : List (Nat × Nat) := comeL sg rs t t.length
section
variable {sg : List Int} {rs : List Rl} {t : List Int}
theorem row_yes {x k : Nat} (h : redB sg (rs.getD k ([], [])) t x = true) : rowL sg rs t x (k + 1) = rowL sg rs t x k ++ [(x, k)] := by unfold rowL; rw [List.range_succ, List.filterMap_append]; simp only [List.filterMap_cons, List.filterMap_nil, h, if_true]
theorem row_no {x k : Nat} (h : redB sg (rs.getD k ([], [])) t x = false) : rowL sg rs t x (k + 1) = rowL sg rs t x k := by unfold rowL; rw [List.range_succ, List.filterMap_append]; simp only [List.filterMap_cons, List.filterMap_nil, h, Bool.false_eq_true, if_false, List.append_nil]
theorem come_succ (x : Nat) : comeL sg rs t (x + 1) = comeL sg rs t x ++ rowL sg rs t x rs.length := by unfold comeL; rw [List.range_succ, List.flatMap_append]; simp
theorem come_pre {x y : Nat} (h : x ≤ y) : comeL sg rs t x <+: comeL sg rs t y := by
 induction y with
 | zero =>
  obtain rfl : x = 0 := by omega
  exact List.prefix_rfl
 | succ y ih =>
  by_cases e : x = y + 1
  ·subst e; exact List.prefix_rfl
  ·exact (ih (by omega)).trans (by rw [come_succ]; exact List.prefix_append _ _)
theorem row_pre {x k q : Nat} (h : k ≤ q) : rowL sg rs t x k <+: rowL sg rs t x q := by
 induction q with
 | zero =>
  obtain rfl : k = 0 := by omega
  exact List.prefix_rfl
 | succ q ih =>
  by_cases e : k = q + 1
  ·subst e; exact List.prefix_rfl
  ·refine (ih (by omega)).trans ?_
   cases hb : redB sg (rs.getD q ([], [])) t x with
   | false => rw [row_no hb]; exact List.prefix_rfl
   | true => rw [row_yes hb]; exact List.prefix_append _ _
theorem part_pre {x k : Nat} (hx : x < t.length) (hk : k ≤ rs.length) : comeL sg rs t x ++ rowL sg rs t x k <+: redL sg rs t := by
 refine List.IsPrefix.trans ?_ (come_pre (show x + 1 ≤ t.length by omega))
 rw [come_succ]
 exact (List.prefix_append_right_inj _).2 (row_pre hk)
end
section
variable {P : Program} {n : Nat} {ops : Array Oper} {rest : List Oper} {o : Oper} {a : Act} {w : World} {Q : Exit → Act → World → Prop}
end
def Kr (n₀ B2 B3 : Nat) (A B : World) : Prop := Below n₀ A B ∧ B.heap[B2]? = A.heap[B2]? ∧ B.heap[B3]? = A.heap[B3]?
theorem Kr.refl (n₀ B2 B3 : Nat) (A : World) : Kr n₀ B2 B3 A A := ⟨Below.refl _ _, rfl, rfl⟩
theorem Kr.trans {n₀ B2 B3 : Nat} {A B C : World} (h : Kr n₀ B2 B3 A B) (k : Kr n₀ B2 B3 B C) : Kr n₀ B2 B3 A C := ⟨h.1.trans k.1, k.2.1.trans h.2.1, k.2.2.trans h.2.2⟩
theorem Kr.of_below {n₀ B2 B3 : Nat} {A B : World} (h : Below A.heap.size A B) (h1 : n₀ ≤ A.heap.size) (h2 : B2 < A.heap.size) (h3 : B3 < A.heap.size) : Kr n₀ B2 B3 A B := ⟨h.mono h1, h.block _ h2, h.block _ h3⟩
theorem Kr.row2 {n₀ B2 B3 : Nat} {A B : World} {t : TypeId} {cs : Array Value} (h : Kr n₀ B2 B3 A B) (r : Row A B2 t cs) : Row B B2 t cs := h.2.1.trans r
theorem Kr.row3 {n₀ B2 B3 : Nat} {A B : World} {t : TypeId} {cs : Array Value} (h : Kr n₀ B2 B3 A B) (r : Row A B3 t cs) : Row B B3 t cs := h.2.2.trans r
end iter
end
section
namespace rangeGive
open Go.RowKit base segs shape
def Kps (n₀ m q : Nat) (A B : World) : Prop := Below n₀ A B ∧ KeepsFrom m A B ∧ ∀ k, m ≤ k → k < q → B.heap[k]? = A.heap[k]?
theorem Kps.trans {n₀ m q : Nat} {A B C : World} (h : Kps n₀ m q A B) (k : Kps n₀ m q B C) : Kps n₀ m q A C := ⟨h.1.trans k.1, h.2.1.trans k.2.1, fun i h1 h2 => (k.2.2 i h1 h2).trans (h.2.2 i h1 h2)⟩
end rangeGive
end
section
namespace iter
open Go.RowKit base rangeGive
end iter
end
section
namespace iter
open Go.RowKit base rangeGive
def SeqVal {α : Type} (n : Nat) (P : Program) (g : Nat) (lb : Array Value) (Val : α → World → Value → Prop) (Kp : World → World → Prop) (xs : List α) (w : World) : Prop :=
 ∀ (l : Nat) (J Jx : List α → World → Prop) (W : World), Below w.heap.size w W → AbidesFrom W.heap.size J → AbidesFrom W.heap.size Jx →
  (∀ pre x W1 v, J pre W1 → Val x W1 v → pre ++ [x] <+: xs → YieldAt Fence.wide (n - 1) P l #[v] W1 fun e W' => (e = .returned (.bool true) ∧ J (pre ++ [x]) W' ∧ Kp W1 W') ∨ (e = .returned (.bool false) ∧ Jx (pre ++ [x]) W')) →
  J [] W → CallsIn Fence.wide n P g (#[.func (.yield l) #[] #[]] ++ lb) W fun e W' => (∃ v, e = .returned v) ∧ ((∃ ys, ys = xs ∧ J ys W') ∨ (∃ pre, (pre ≠ [] ∧ pre <+: xs) ∧ Jx pre W'))
end iter
end
section
open Go.Lib (hid)
namespace iter
open Go.RowKit Go.Shelf base ints sig term termOk endOf marks app sym varsOf segs termFacts shape kindsR drawX ruleMath ruleSpec peakMath trySpec ovImpl ovAt ovsMath
set_option maxRecDepth 100000
theorem Made.lower {w : World} {lo lo' : Nat} {A : Option Addr} {n c : Nat} {v : Value} {sg : List Int} {rs : List Rl} {o a u p : Nat} (h : Made w lo A n c v sg rs o a u p) (hl : lo' ≤ lo) : Made w lo' A n c v sg rs o a u p := ⟨Nat.le_trans hl h.ge, h.ex⟩
def ValO (n₀ : Nat) (A : Option Addr) (n c : Nat) (v : Value) (sg : List Int) (rs : List Rl) (t : Nat × Nat × Nat) (W : World) (x : Value) : Prop := ∃ p, x = .pointer (some ⟨p, 0, none⟩) ∧ Made W n₀ A n c v sg rs t.1 t.2.1 t.2.2 p
set_option maxHeartbeats 4000000 in
theorem overlaps_val (n : Nat) (hn : 1 ≤ n) (B2 B3 n₀ : Nat) (A V : Option Addr) (m0 cs q cv : Nat) (d : Dat sSystem) (wB : Nat → Nat → Bool) (gf : Nat) (lb : Array Value) (w : World) (hn₀ : n₀ ≤ w.heap.size) (r2 : Row w B2 76 #[.slice A m0 cs, .slice V q cv]) (r3 : Row w B3 86 #[.func (.func gf) #[] lb])
  (h : Rd w n₀ sSystem [.slice A m0 cs, .slice V q cv] d) (hz : sz sSystem d ≤ 1048576) (hok : ∀ k, k < d.2.length → ruleOkB d.1 (d.2.getD k ([], [])) = true) (eg : ∀ args w, (callFunc gf args).run Tryz.prog w = .ok (.enter gf args) w)
  (hw : ∀ (W : World) (o u : Nat), Below n₀ w W → Calls Tryz.prog gf (#[.int .i64 (o : Int), .int .i64 (u : Int)] ++ lb) W (AnsB W (wB o u))) :
  SeqVal n Tryz.prog 98 #[.pointer (some ⟨B2, 0, none⟩), .pointer (some ⟨B3, 0, none⟩)] (ValO n₀ A m0 cs (.slice V q cv) d.1 d.2) (Kr n₀ B2 B3) (ovs d.1 d.2 wB) w := fun l J Jx W hW hJ hJx hY h0 => by
 have hWn := hW.mono hn₀
 have hsW : n₀ ≤ W.heap.size := Nat.le_trans hn₀ hW.size
 have LW := hid (fun (w1 : World) (bb : Below n₀ W w1) (o u : Nat) => hw w1 o u (hWn.trans bb))
 replace r2 := r2.next hW
 replace r3 := r3.next hW
 replace h := h.below hWn
 have LO := hid (fun (w1 : World) (bb : Below n₀ W w1) (o a u : Nat) => overlapAt A V m0 cs q cv d (o : Int) (a : Int) (u : Int) w1 ((h.below bb).more (Nat.le_trans hsW bb.size)) hz hok)
 obtain ⟨A1, n1, c1, A2, n2, c2, ea, ev, hA, kA, kV, hlen, hn1, hn2, hr, hsg, hrs⟩ := rd_sys h hz
 injection ea with e1 e2 e3
 subst e1 e2 e3
 injection ev with e1 e2 e3
 subst e1 e2 e3
 have RUL := hid (fun (o : Nat) (ho : o < q) => (show ∃ b off LA ln lc, V = some ⟨b, off, none⟩ ∧ b < n₀ ∧ W.cell? ⟨b, off + o * 2, none⟩ = some (.slice LA ln lc) ∧ (lh d.2 o).length = ln ∧ ln ≤ 1048576 from by
  obtain ⟨b, off, l, r, x, e, hb, hx, cL, cR, rd⟩ := rd_at hr (Below.refl _ _) hlen ho
  obtain ⟨LA, ln, lc, RA, rn, rc, rfl, rfl, sL, kL, -, -, hln, -⟩ := rd_rule rd (by have := hrs o ho; rw [hx.out] at this; exact this)
  exact ⟨b, off, LA, ln, lc, e, hb, cL, by unfold lh; rw [hx.out]; exact sL.1, hln⟩))
 have HQ := hid hlen
 have HJ := hid hJ
 have HR2 := hid r2
 have HR3 := hid r3
 have k21 : W.cell? ⟨B2, 1, none⟩ = some (.slice V q cv) := r2.cell 1
 obtain ⟨met, hmet⟩ : ∃ met : Nat → Nat → Nat → Bool, met = fun (o a u : Nat) => metB d.1 d.2 (o : Int) (a : Int) (u : Int) := ⟨_, rfl⟩
 have HMET := hid (show ∀ o a u, met o a u = metB d.1 d.2 (o : Int) (a : Int) (u : Int) from fun o a u => by rw [hmet])
 obtain ⟨len, hle⟩ : ∃ len : Nat → Nat, len = fun o => (lh d.2 o).length := ⟨_, rfl⟩
 have HLEN := hid (show ∀ o, len o = (lh d.2 o).length from fun o => by rw [hle])
 have eovs : ovs d.1 d.2 wB = allV met wB len q q := by unfold ovs; rw [hmet, hle, hlen]
 rw [eovs] at hY ⊢
 have HY := hid hY
 have i0 : (0 : Int) ≤ (q : Int) := by omega
 clear h hz hok hW hWn hn₀ r2 r3 hr hrs hsg hA kA kV hlen hmet hle eovs hY hw hJ
 refine callsIn_of_wp Tryz.func98 rfl trivial ?_ rfl
 simp only [Tryz.ntmps98, List.size_toArray, List.length_cons, List.length_nil, Nat.reduceAdd, Nat.reduceSub, Array.replicate_succ, Array.replicate_zero, List.push_toArray, List.append_toArray, List.nil_append, List.cons_append]
 gi_wp2
 gi_loopw [12] (fun i wr => ∃ o : Nat, o ≤ q ∧ i = .int .i64 o ∧ J (allV met wB len q o) wr ∧ Kr n₀ B2 B3 W wr) (fun i _ => q - (intOf i).toNat)
 case atStart => exact ⟨0, Nat.zero_le _, rfl, h0, Kr.refl _ _ _ _⟩
 case round =>
  obtain ⟨o, hoq, rfl, hJo, hBo⟩ := hrel
  by_cases hlt : o < q
  ·have K21 : wr.cell? ⟨B2, 1, none⟩ = some (.slice V q cv) := (hBo.row2 HR2.out).cell 1
   obtain ⟨b, off, LA, ln, lc, rfl, hb, cL, eln, hln⟩ := RUL.out o hlt
   have cLo : wr.cell? ⟨b, off + o * 2, none⟩ = some (.slice LA ln lc) := (hBo.1.cell (p := ⟨b, off + o * 2, none⟩) hb).trans cL
   have ELN := hid (show len o = ln by rw [HLEN.out]; exact eln)
   have j0 : (0 : Int) ≤ (o : Int) := by omega
   have j1 : (o : Int) < (q : Int) := by omega
   clear cL eln
   gi_wp2
   gi_loopw [22] (fun i wq => ∃ a : Nat, a ≤ ln ∧ i = .int .i64 a ∧ J (allV met wB len q o ++ colV met wB q o a) wq ∧ Kr n₀ B2 B3 W wq) (fun i _ => ln - (intOf i).toNat)
   case atStart => exact ⟨0, Nat.zero_le _, rfl, by simpa [colV] using hJo, hBo⟩
   case round =>
    obtain ⟨a, haq, rfl, hJa, hBa⟩ := hrel
    by_cases hla : a < ln
    ·have K21 : wr.cell? ⟨B2, 1, none⟩ = some (.slice (some ⟨b, off, none⟩) q cv) := (hBa.row2 HR2.out).cell 1
     have a0 : (0 : Int) ≤ (a : Int) := by omega
     have a1 : (a : Int) < (ln : Int) := by omega
     gi_wp2
     gi_loopw [28] (fun i wq => ∃ u : Nat, u ≤ q ∧ i = .int .i64 u ∧ J (allV met wB len q o ++ (colV met wB q o a ++ rowV met wB o a u)) wq ∧ Kr n₀ B2 B3 W wq) (fun i _ => q - (intOf i).toNat)
     case atStart => exact ⟨0, Nat.zero_le _, rfl, by simpa [rowV] using hJa, hBa⟩
     case round =>
      obtain ⟨u, huq, rfl, hJu, hBu⟩ := hrel
      by_cases hlu : u < q
      ·have K20 : wr.cell? ⟨B2, 0, none⟩ = some (.slice A m0 cs) := (hBu.row2 HR2.out).cell 0
       have K21 : wr.cell? ⟨B2, 1, none⟩ = some (.slice (some ⟨b, off, none⟩) q cv) := (hBu.row2 HR2.out).cell 1
       have K30 : wr.cell? ⟨B3, 0, none⟩ = some (.func (.func gf) #[] lb) := (hBu.row3 HR3.out).cell 0
       have u0 : (0 : Int) ≤ (u : Int) := by omega
       have u1 : (u : Int) < (q : Int) := by omega
       have LW1 := hid (LW.out wr hBu.1 o u)
       obtain ⟨bw, hbw⟩ : ∃ bw, wB o u = bw := ⟨_, rfl⟩
       rw [hbw] at LW1
       have HBW := hid hbw
       have HJU := hid hJu
       have HBU := hid hBu
       clear hJu hBu hbw
       gi_wp2_with (refine ⟨trivial, ?_⟩; gi_at_fn gf; refine (callsIn_wide.2 LW1.out).mono ?_; rintro e w3 ⟨rfl, bb⟩; refine (?_ : Hid _).out)
       have hJ3 := HJ.out _ wr w3 none HJU.out (cursor.grown_below bb none) (fun r e => by cases e)
       have hB3 : Kr n₀ B2 B3 W w3 := HBU.out.trans (Kr.of_below bb (Nat.le_trans hsW HBU.out.1.size) (HBU.out.row2 HR2.out).lt (HBU.out.row3 HR3.out).lt)
       clear bb LW1 K20 K21 K30
       cases bw with
       | false =>
        have F := hid (show J (allV met wB len q o ++ (colV met wB q o a ++ rowV met wB o a (u + 1))) w3 ∧ Kr n₀ B2 B3 W w3 from ⟨by rw [ovsMath.row_no (by rw [HBW.out]; rfl)]; exact hJ3, hB3⟩)
        clear hJ3 hB3
        refine hid ?_
        gi_wp2
        go_roundw
        case rel => exact ⟨u + 1, by omega, by simp, F.out.1, F.out.2⟩
        case measure => simp [intOf]; omega
       | true =>
        have K20 : w3.cell? ⟨B2, 0, none⟩ = some (.slice A m0 cs) := (hB3.row2 HR2.out).cell 0
        have K21 : w3.cell? ⟨B2, 1, none⟩ = some (.slice (some ⟨b, off, none⟩) q cv) := (hB3.row2 HR2.out).cell 1
        have HJ3 := hid hJ3
        have HB3 := hid hB3
        have LOA := LO.out w3 hB3.1 o a u
        clear hJ3 hB3
        obtain ⟨bm, hbm⟩ : ∃ bm, metB d.1 d.2 (o : Int) (a : Int) (u : Int) = bm := ⟨_, rfl⟩
        have HBM := hid hbm
        have hz3 := Nat.le_trans hsW HB3.out.1.size
        cases bm with
        | false =>
         have LO1 := hid (LOA.mono (fun (e : Ending) (w' : World) (hh : AnsOv w3 A m0 cs (.slice (some ⟨b, off, none⟩) q cv) d.1 d.2 (o : Int) (a : Int) (u : Int) e w') => (show e = .returned (.tuple #[.pointer none, .bool false]) ∧ Below w3.heap.size w3 w' from by
          rcases hh.2 with ⟨_, e⟩ | ⟨e, _⟩
          ·exact ⟨e, hh.1⟩
          ·rw [hbm] at e; cases e)))
         clear LOA hbm
         refine hid ?_
         gi_wp2_with (refine ⟨trivial, ?_⟩; gi_at_call 99; refine (callsIn_wide.2 LO1.out).mono ?_; rintro e w4 ⟨rfl, b4⟩; refine (?_ : Hid _).out)
         have hJ4 := HJ.out _ w3 w4 none HJ3.out (cursor.grown_below b4 none) (fun r e => by cases e)
         have hB4 : Kr n₀ B2 B3 W w4 := HB3.out.trans (Kr.of_below b4 hz3 (HB3.out.row2 HR2.out).lt (HB3.out.row3 HR3.out).lt)
         clear b4 LO1 K20 K21
         have F := hid (show J (allV met wB len q o ++ (colV met wB q o a ++ rowV met wB o a (u + 1))) w4 ∧ Kr n₀ B2 B3 W w4 from ⟨by rw [ovsMath.row_no (by rw [HBW.out, HMET.out, HBM.out]; rfl)]; exact hJ4, hB4⟩)
         clear hJ4 hB4
         refine hid ?_
         gi_wp2
         refine ⟨fun _ h => (by cases h), ?_⟩
         gi_wp2
         go_roundw
         case rel => exact ⟨u + 1, by omega, by simp, F.out.1, F.out.2⟩
         case measure => simp [intOf]; omega
        | true =>
         have LO1 := hid (LOA.mono (fun (e : Ending) (w' : World) (hh : AnsOv w3 A m0 cs (.slice (some ⟨b, off, none⟩) q cv) d.1 d.2 (o : Int) (a : Int) (u : Int) e w') => (show ∃ p, e = .returned (.tuple #[.pointer (some ⟨p, 0, none⟩), .bool true]) ∧ Below w3.heap.size w3 w' ∧ Made w' w3.heap.size A m0 cs (.slice (some ⟨b, off, none⟩) q cv) d.1 d.2 o a u p from by
          rcases hh.2 with ⟨e, _⟩ | ⟨_, p, e, hM⟩
          ·rw [hbm] at e; cases e
          ·exact ⟨p, e, hh.1, hM⟩)))
         clear LOA hbm
         refine hid ?_
         gi_wp2_with (refine ⟨trivial, ?_⟩; gi_at_call 99; refine (callsIn_wide.2 LO1.out).mono ?_; rintro e w4 ⟨p, rfl, b4, hM⟩; refine (?_ : Hid _).out)
         have hJ4 := HJ.out _ w3 w4 none HJ3.out (cursor.grown_below b4 none) (fun r e => by cases e)
         have hB4 : Kr n₀ B2 B3 W w4 := HB3.out.trans (Kr.of_below b4 hz3 (HB3.out.row2 HR2.out).lt (HB3.out.row3 HR3.out).lt)
         clear b4 LO1 K20 K21
         have hyes := ovsMath.row_yes (met := met) (wB := wB) (o := o) (a := a) (u := u) HBW.out (by rw [HMET.out]; exact HBM.out)
         have hfull : allV met wB len q o ++ (colV met wB q o a ++ rowV met wB o a (u + 1)) <+: allV met wB len q q := ovsMath.part_pre hlt (by rw [ELN.out]; exact hla) (by omega)
         rw [hyes, ← List.append_assoc, ← List.append_assoc] at hfull
         have hJ5 := hJ4
         rw [← List.append_assoc] at hJ5
         obtain ⟨fn, tmps, assign, body, hy, hR⟩ := HY.out _ (o, a, u) w4 _ hJ5 ⟨p, rfl, Made.lower hM hz3⟩ hfull
         have HYES := hid hyes
         have HF := hid hfull
         clear hJ4 hJ5 hyes hfull hM
         refine hid ?_
         gi_wp2
         refine hR.mono ?_
         rintro e W3 (⟨rfl, hJ4, hk4⟩ | ⟨rfl, hJx4⟩)
         ·have F := hid (show J (allV met wB len q o ++ (colV met wB q o a ++ rowV met wB o a (u + 1))) W3 ∧ Kr n₀ B2 B3 W W3 from ⟨by rw [HYES.out, ← List.append_assoc, ← List.append_assoc]; exact hJ4, hB4.trans hk4⟩)
          clear hJ4 hk4 hB4
          gi_wp2
          go_roundw
          case rel => exact ⟨u + 1, by omega, by simp, F.out.1, F.out.2⟩
          case measure => simp [intOf]; omega
         ·gi_wp2
          refine bodyPost_ret (results_none rfl _ _ _) rfl ?_
          exact ⟨⟨_, rfl⟩, .inr ⟨_, ⟨by simp, HF.out⟩, hJx4⟩⟩
      ·obtain rfl : u = q := by omega
       gi_wp2
       go_roundw
       case rel => exact ⟨a + 1, by omega, by simp, by rw [col_succ]; exact hJu, hBu⟩
       case measure => simp [intOf]; omega
    ·obtain rfl : a = ln := by omega
     gi_wp2
     go_roundw
     case rel => exact ⟨o + 1, by omega, by simp, by rw [all_succ, ELN.out]; exact hJa, hBa⟩
     case measure => simp [intOf]; omega
  ·obtain rfl : o = q := by omega
   gi_wp2
   go_end0
   exact ⟨⟨_, rfl⟩, .inl ⟨_, rfl, hJo⟩⟩
end iter
end
section
namespace iter
open Go.RowKit Go.Shelf base ints sig term marks app appAt segs shape ruleMath drawX bnd ovImpl ovAt
set_option maxRecDepth 100000
theorem cell_turn {w : World} {L b i : Nat} {o o' : Obj} {v : Value} (hl : w.heap[L]? = some o) (hc : o.isCells = false) (h : w.cell? ⟨b, i, none⟩ = some v) : (w.putObj L o').cell? ⟨b, i, none⟩ = some v := by
 by_cases e : b = L
 ·subst e
  exfalso
  unfold World.cell? at h
  simp only [hl] at h
  cases o <;> simp_all [Obj.isCells]
 ·unfold World.cell? at h ⊢
  simp only [World.putObj_heap_other e]
  exact h
theorem row_loop {w : World} {L k : Nat} {o o' : Obj} {t : TypeId} {cs : Array Value} (hl : w.heap[L]? = some o) (hc : o.isCells = false) (h : Row w k t cs) : Row (w.putObj L o') k t cs := by
 by_cases e : k = L
 ·subst e
  exfalso
  unfold Row at h
  rw [hl] at h
  injection h with h
  rw [h] at hc
  cases hc
 ·exact (World.putObj_heap_other e).trans h
theorem rdq_turn {w : World} {Q : Nat → Prop} {A : Option Addr} {n c : Nat} {u : List Int} {L : Nat} {o o' : Obj} (hl : w.heap[L]? = some o) (hc : o.isCells = false) (h : RdQ w Q sI [.slice A n c] u) : RdQ (w.putObj L o') Q sI [.slice A n c] u := by
 obtain ⟨h1, h2, h3⟩ := rdq_nums h
 refine rdq_seg h1 h2 fun hn => ?_
 obtain ⟨b, off, e, hq, hcell⟩ := h3 hn
 exact ⟨b, off, e, hq, fun j hj => cell_turn hl hc (hcell j hj)⟩
theorem ov_turn {w : World} {Q : Nat → Prop} {p lb : Nat} {A : Option Addr} {n c : Nat} {v : Value} {o a u : Int} {X : Option Addr} {xn xc lc : Nat} {sg nums : List Int} {lk : List Nat} {L : Nat} {ob ob' : Obj} (hl : w.heap[L]? = some ob) (hc : ob.isCells = false) (h : Ov w Q p lb A n c v o a u X xn xc lc sg nums lk) : Ov (w.putObj L ob') Q p lb A n c v o a u X xn xc lc sg nums lk := by
 obtain ⟨cur, h1, h2, h3⟩ := h.lk
 exact ⟨row_loop hl hc h.row, rdq_turn hl hc h.sg, rdq_turn hl hc h.nm, ⟨cur, row_loop hl hc h1, h2, h3⟩, h.ne, fun b hb => ⟨(h.q b hb).1, (h.q b hb).2.1, by rw [World.putObj_size]; exact (h.q b hb).2.2⟩⟩
theorem made_turn {w : World} {lo : Nat} {A : Option Addr} {n c : Nat} {v : Value} {sg : List Int} {rs : List Rl} {o a u p : Nat} {L : Nat} {ob ob' : Obj} (hl : w.heap[L]? = some ob) (hc : ob.isCells = false) (h : Made w lo A n c v sg rs o a u p) : Made (w.putObj L ob') lo A n c v sg rs o a u p := by
 obtain ⟨lb, xc, lc, X, N, lk, rt, rk, D, h1, h2⟩ := h.ex
 exact ⟨h.ge, lb, xc, lc, X, N, lk, rt, rk, D, ov_turn hl hc h1, h2⟩
end iter
end
section
namespace iter
open Go.RowKit Go.Shelf base ints sig term termOk endOf marks app sym varsOf segs termFacts shape kindsR drawX ruleMath ruleSpec ruleImpl peakMath trySpec overSpec ovImpl ovAt ovsMath rangeGive
set_option maxRecDepth 100000
attribute [local go_sem] Oper.semAt_some
theorem overlapsFn (a v : Value) (f : Value) (w : World) (hf : ∃ g lb, f = .func (.func g) #[] lb) : Calls Tryz.prog 70 #[.agg #[a, v], f] w fun e w' => e = .returned (.func (.func 98) #[] #[.pointer (some ⟨w.heap.size, 0, none⟩), .pointer (some ⟨w.heap.size + 1, 0, none⟩)]) ∧ w' = (w.alloc (.cells #[a, v] 76)).alloc (.cells #[f] 86) := by
 obtain ⟨g, lb, rfl⟩ := hf
 have hmf : ∀ (fn : Fn) (first cap : Array Value) (w : World), (Instr.makeFunc fn first cap).run Tryz.prog w = .ok (.func fn first cap) w := fun _ _ _ _ => rfl
 go_enter Tryz.func70, Tryz.ntmps70
 go_wp2
 go_ret
 exact ⟨rfl, rfl⟩
theorem row_turn9 {w w' : World} {row : Option Nat} {k : Nat} {t : TypeId} {cs : Array Value} (h : Row w k t cs) (hg : w.grownBy w' row) (hr : ∀ r, row = some r → ∃ o : Obj, w.heap[r]? = some o ∧ o.isCells = false) : Row w' k t cs := by
 refine (hg.block k h.lt fun e => ?_).trans h
 obtain ⟨o, h1, h2⟩ := hr k e.symm
 unfold Row at h
 rw [h] at h1
 injection h1 with h1
 rw [← h1] at h2
 cases h2
theorem box3v (w : World) (t t' t'' : TypeId) (cs cs' cs'' : Array Value) : ∃ W, W = ((w.alloc (.cells cs t)).alloc (.cells cs' t')).alloc (.cells cs'' t'') ∧ Row W w.heap.size t cs ∧ Row W (w.heap.size + 1) t' cs' ∧ Row W (w.heap.size + 1 + 1) t'' cs'' ∧ Below w.heap.size w W := by
 refine ⟨_, rfl, ((Row.new w _ _).alloc _).alloc _, ?_, ?_, (((Below.refl _ _).alloc (Nat.le_refl _) _).alloc (by simp) _).alloc (by simp; omega) _⟩
 ·have := (Row.new (w.alloc (.cells cs t)) t' cs').alloc (.cells cs'' t''); simpa using this
 ·have := Row.new ((w.alloc (.cells cs t)).alloc (.cells cs' t')) t'' cs''; simpa using this
theorem box4v (w : World) (t t' t'' t3 : TypeId) (cs cs' cs'' c3 : Array Value) : ∃ W, W = (((w.alloc (.cells cs t)).alloc (.cells cs' t')).alloc (.cells cs'' t'')).alloc (.cells c3 t3) ∧ Row W w.heap.size t cs ∧ Row W (w.heap.size + 1) t' cs' ∧ Row W (w.heap.size + 1 + 1) t'' cs'' ∧ Row W (w.heap.size + 1 + 1 + 1) t3 c3 ∧ Below w.heap.size w W := by
 obtain ⟨V, hV, r1, r2, r3, b⟩ := box3v w t t' t'' cs cs' cs''
 have z : V.heap.size = w.heap.size + 1 + 1 + 1 := by rw [hV]; simp
 refine ⟨V.alloc (.cells c3 t3), by rw [hV], r1.alloc _, r2.alloc _, r3.alloc _, ?_, b.alloc b.size _⟩
 have := Row.new V t3 c3
 rw [z] at this
 exact this
end iter
end
section
namespace iter
open Go.RowKit base rangeGive
def valPost {α : Type} (b : Nat) (Kp : World → World → Prop) (I Ix : List α → World → Prop) (xs : List α) (W : World) : Exit → Act → World → Prop
 | .normal, _, W' => KeepsFrom b W W' ∧ Kp W W' ∧ I xs W'
 | .ret, _, W' => KeepsFrom b W W' ∧ Ix xs W'
 | _, _, _ => False
theorem rangeValX {α : Type} {n : Nat} {P : Program} {g : Operand} {p : Tmp} {assign body : Code} {Q : Exit → Act → World → Prop} {a : Act} {w w0 : World} {gf : Nat} {lb : Array Value} (hg : a.eval g = .func (.func gf) #[] lb)
  (eg : ∀ args w, (callFunc gf args).run P w = .ok (.enter gf args) w) {Val : α → World → Value → Prop} {Kp : World → World → Prop} {xs : List α} (hseq : SeqVal (n - 1) P gf lb Val Kp xs w0) (hb0 : Below w0.heap.size w0 w)
  (hKt : ∀ {A B C : World}, Kp A B → Kp B C → Kp A C) (hKb : ∀ (W : World) (o o' : Obj), W.heap[w.heap.size + 1]? = some o → Kp W (W.putObj (w.heap.size + 1) o'))
  (hVb : ∀ (x : α) (W : World) (v : Value) (o : Loop) (o' : Obj), W.heap[w.heap.size + 1]? = some (.loop o) → Val x W v → Val x (W.putObj (w.heap.size + 1) o') v)
  (I Ix : List α → World → Prop) (hI : OwnFrom w.heap.size I) (hIx : OwnFrom w.heap.size Ix) (h0 : I [] w) (a₁ : Value → Act)
  (hassign : ∀ (l : Nat) (x : α) (v : Value) (W : World) (K : Act → World → Prop), Val x W v → K (a₁ v) W → assign.wpIn (Fence.wide.inRound l) (n - 1 - 1) P (Exit.then K (fun _ _ _ => False)) { tmps := a.tmps.setIfInBounds p v, defers := [] } W)
  (hbody : ∀ (l : Nat) (pre : List α) (x : α) (v : Value) (W : World), I pre W → w.heap.size + 2 ≤ W.heap.size → Val x W v → pre ++ [x] <+: xs → body.wpIn (Fence.wide.inRound l) (n - 1 - 1) P (valPost w.heap.size Kp I Ix (pre ++ [x]) W) (a₁ v) W)
  (hdone : ∀ (D : Nat) (W : World), w.heap.size ≤ D → I xs W → W.heap[D]? = some (.deferred (some [])) → Q .normal { a with defers := { target := .collected D, args := #[] } :: a.defers } W)
  (hstop : ∀ (D : Nat) (pre : List α) (W : World), w.heap.size ≤ D → pre ≠ [] → pre <+: xs → Ix pre W → W.heap[D]? = some (.deferred (some [])) → Code.ret.wpIn Fence.wide n P Q { a with defers := { target := .collected D, args := #[] } :: a.defers } W) :
  (Code.rangeFunc g #[p] assign body).wpIn Fence.wide n P Q a w := by
 refine wpIn_rangeFunc ?_
 intro fn hfn
 obtain ⟨rec, hrec⟩ : ∃ rec : LoopState → Option Code → Loop, rec = fun st pe => { state := st, pending := pe, fn, tmps := a.tmps, params := #[p], assign, body, defers := w.heap.size } := ⟨_, rfl⟩
 obtain ⟨W1, hW1⟩ : ∃ W1, (w.alloc (.deferred (some []))).alloc (.loop (rec .ready none)) = W1 := ⟨_, rfl⟩
 have hsz : W1.heap.size = w.heap.size + 2 := by rw [← hW1]; simp
 have rl : W1.heap[w.heap.size + 1]? = some (.loop (rec .ready none)) := by
  rw [← hW1]
  have := heap_alloc_new (w.alloc (.deferred (some []))) (.loop (rec .ready none))
  rwa [World.size_alloc] at this
 have rd : W1.heap[w.heap.size]? = some (.deferred (some [])) := by
  rw [← hW1]
  exact (Below.heap_alloc _ _ _ (by simp)).trans (heap_alloc_new w _)
 refine ⟨w.heap.size + 1, [{ target := .collected w.heap.size, args := #[] }], W1, { target := .fn (.func gf) lb, args := #[.func (.yield (w.heap.size + 1)) #[] #[]] }, W1, gf, #[.func (.yield (w.heap.size + 1)) #[] #[]] ++ lb, W1, ?_, ?_, fun _ _ => trivial, ?_, (fun h => by cases h), ?_⟩
 ·rw [← hW1, hrec]; exact run_enterLoop_outer _ _ _ _ _
 ·simp only [resolve, hg]
  simp [go_sem]
 ·simp [invoke, go_sem, eg]
 have key := hseq (w.heap.size + 1) (fun pre W => (I pre W ∧ W.heap[w.heap.size + 1]? = some (.loop (rec .ready none))) ∧ W.heap[w.heap.size]? = some (.deferred (some []))) (fun pre W => (Ix pre W ∧ W.heap[w.heap.size + 1]? = some (.loop (rec .done (some .ret)))) ∧ W.heap[w.heap.size]? = some (.deferred (some []))) W1
  (hb0.trans ((by rw [← hW1]; exact (((Below.refl _ w).alloc (Nat.le_refl _) _).alloc (by simp) _ : Below w.heap.size w _) : Below w.heap.size w W1).mono hb0.size))
  (fun s A B row hs hg' hr => ⟨⟨hI s A B row hs.1.1 hg' (fun r e => by obtain ⟨h1, o, ho, hw⟩ := hr r e; exact ⟨by omega, o, ho, Obj.not_cells_of_walk hw⟩), (hg'.block _ (Array.getElem?_eq_some_iff.1 hs.1.2).1 (fun e => by have := (hr _ e.symm).1; omega)).trans hs.1.2⟩, (hg'.block _ (Array.getElem?_eq_some_iff.1 hs.2).1 (fun e => by have := (hr _ e.symm).1; omega)).trans hs.2⟩)
  (fun s A B row hs hg' hr => ⟨⟨hIx s A B row hs.1.1 hg' (fun r e => by obtain ⟨h1, o, ho, hw⟩ := hr r e; exact ⟨by omega, o, ho, Obj.not_cells_of_walk hw⟩), (hg'.block _ (Array.getElem?_eq_some_iff.1 hs.1.2).1 (fun e => by have := (hr _ e.symm).1; omega)).trans hs.1.2⟩, (hg'.block _ (Array.getElem?_eq_some_iff.1 hs.2).1 (fun e => by have := (hr _ e.symm).1; omega)).trans hs.2⟩)
  ?_ ⟨⟨by rw [← hW1]; exact hI.alloc _ (hI.alloc _ h0), rl⟩, rd⟩
 ·refine key.mono ?_
  rintro e W2 ⟨⟨v, rfl⟩, (⟨ys, rfl, ⟨hi, hl⟩, hd⟩ | ⟨pre, ⟨hne, hpre⟩, ⟨hi, hl⟩, hd⟩)⟩
  ·refine ⟨none, _, by have := run_endLoop (P := P) hl (by rw [hrec]; simp); rw [hrec] at this; exact this, hdone _ _ (Nat.le_refl _) (hI.putObj _ hi (by omega) hl rfl) ((World.putObj_heap_other (by omega)).trans hd)⟩
  ·refine ⟨some .ret, _, by have := run_endLoop (P := P) hl (by rw [hrec]; simp); rw [hrec] at this; exact this, hstop _ _ _ (Nat.le_refl _) hne hpre (hIx.putObj _ hi (by omega) hl rfl) ((World.putObj_heap_other (by omega)).trans hd)⟩
 ·rintro pre x W v ⟨⟨hi, hl⟩, hd⟩ hv hpre
  have hy : (Instr.yield (w.heap.size + 1) #[v]).run P W = .ok (.round (w.heap.size + 1) fn (a.tmps.setIfInBounds p v) assign body) W := by
   have := run_yield (P := P) (args := #[v]) hl (by rw [hrec]; rfl)
   rw [hrec] at this
   rw [this]
   simp
  refine ⟨fn, _, assign, body, hy, roundIn_of_wpIn hfn (hassign _ x v W _ hv ?_)⟩
  have hlt := (Array.getElem?_eq_some_iff.1 hl).1
  refine ⟨_, run_beginRound hl (by rw [hrec]), ?_⟩
  obtain ⟨o2, ho2⟩ : ∃ o2, o2 = Obj.loop { rec .ready none with state := .busy } := ⟨_, rfl⟩
  rw [← ho2]
  have hl2 : (W.putObj (w.heap.size + 1) o2).heap[w.heap.size + 1]? = some o2 := World.putObj_heap_same hlt
  have hd2 : (W.putObj (w.heap.size + 1) o2).heap[w.heap.size]? = some (.deferred (some [])) := (World.putObj_heap_other (by omega)).trans hd
  refine wpIn_mono (hbody _ pre x v _ (hI.putObj _ hi (by omega) hl rfl) (by rw [World.putObj_size]; omega) (hVb x W v _ o2 hl hv) hpre) ?_
  intro e a3 W3 hp3
  cases e with
  | normal =>
   obtain ⟨hk3, hkp3, hi3⟩ := hp3
   have hl3 := hk3.same _ _ (by omega) hl2 (by rw [ho2]; rfl)
   have hd3 := hk3.same _ _ (Nat.le_refl _) hd2 rfl
   rw [ho2] at hl3
   have hr := run_endRound (P := P) none hl3
   refine ⟨_, _, hr, .inl ⟨rfl, ⟨⟨hI.putObj _ hi3 (by omega) hl3 rfl, ?_⟩, (World.putObj_heap_other (by omega)).trans hd3⟩, hKt (hKt (hKb _ _ _ hl) hkp3) (hKb _ _ _ hl3)⟩⟩
   rw [World.putObj_heap_same (Array.getElem?_eq_some_iff.1 hl3).1, hrec]
   rfl
  | ret =>
   obtain ⟨hk3, hi3⟩ := hp3
   have hl3 := hk3.same _ _ (by omega) hl2 (by rw [ho2]; rfl)
   have hd3 := hk3.same _ _ (Nat.le_refl _) hd2 rfl
   rw [ho2] at hl3
   have hr := run_endRound (P := P) (some .ret) hl3
   refine ⟨_, _, hr, .inr ⟨rfl, ⟨hIx.putObj _ hi3 (by omega) hl3 rfl, ?_⟩, (World.putObj_heap_other (by omega)).trans hd3⟩⟩
   rw [World.putObj_heap_same (Array.getElem?_eq_some_iff.1 hl3).1, hrec]
   rfl
  | exit _ => exact hp3.elim
  | goto _ => exact hp3.elim
  | panic _ => exact hp3.elim
  | outgrown => exact hp3.elim
end iter
end
section
namespace iter
open Go.RowKit base ints sig term termOk endAt inside marks app sym sub segs segsHelp kinds termFacts matchMath whole takeMath take extended varsOf shape kindsR ruleMath ruleSpec ruleImpl stepMath walkMath stepSpec Go.Shelf stepImpl
set_option maxRecDepth 100000
attribute [local go_sem] Oper.semAt_some
end iter
end
section
namespace iter
open Go.RowKit Go.Shelf base ints sig term termOk endAt endOf marks app sym sub segs segsHelp shifted termFacts shape kindsR kindsW ruleMath ruleSpec stepMath walkMath stepSpec stepImpl rangeGive
set_option maxRecDepth 100000
attribute [local go_sem] Oper.semAt_some
section
variable {sg : List Int} {rs : List Rl} {t : List Int}
end
end iter
end
section
namespace iter
open Go.RowKit Go.Shelf base ints sig term termOk endAt endOf marks app sym sub segs segsHelp shifted termFacts shape kindsR kindsW ruleMath ruleSpec ruleImpl stepMath walkMath stepSpec stepImpl rangeGive ownL
set_option maxRecDepth 100000
attribute [local go_sem] Oper.semAt_some
theorem appLmIn {l k : Nat} {w : World} {ops : Array Oper} {rest : List Oper} {o : Oper} {a : Act} {Q : Exit → Act → World → Prop} (hgd : o.guard = none) (sx x : Operand) (T e : TypeId) (s : Sh) (z : Value) (bytes : Nat) (hT : Tryz.prog.underlying T = some (.slice e))
  (hI : (Tryz.prog.info? e).map (fun i => (i.zero, i.size, i.bytes)) = some (some z, nc s, bytes)) (hzc : z.cells.size = nc s) (hby : bytes ≤ 4096)
  (ho : o.op = .call { callee := .builtin .append, args := #[sx, x], argTypes := #[T, T] })
  (lo hi mid hi2 : Nat) (A : Option Addr) (n c g m c2 : Nat) (D E : List (Dat s)) (hs : a.eval sx = .slice A n c) (hown : OwnL w lo hi e s A n c D) (hxv : a.eval x = .slice (some ⟨g, 0, none⟩) m c2) (hx : OwnL w mid hi2 e s (some ⟨g, 0, none⟩) m c2 E) (hmid : hi ≤ mid) (hlm : lo ≤ mid) (hn : n ≤ 1048576) (hm : m ≤ 1048576) (hlo : lo ≤ w.heap.size) (hpos : 0 < m)
  (h : ∀ g' c' w', OwnL w' lo w'.heap.size e s (some ⟨g', 0, none⟩) (n + m) c' (D ++ E) → w.grownBy w' (blk A) → Below lo w w' → wpListIn (Fence.wide.inRound l) k Tryz.prog ops Q rest (a.put o.dst (.slice (some ⟨g', 0, none⟩) (n + m) c')) w') : wpListIn (Fence.wide.inRound l) k Tryz.prog ops Q (o :: rest) a w :=
 wpListIn_plain hgd fun _ hK => by
  refine ⟨fun _ _ => trivial, ?_⟩
  obtain ⟨A', c', w', hr, h2, h3, h4, h5, h6⟩ := run_appL o.type T e s z bytes hT hI hzc hby lo hi mid hi2 A n c g m c2 D E hown hx hmid hlm hn hm hlo
  obtain ⟨g', rfl⟩ := h6 (.inr hpos)
  rw [Oper.semAt_eq _ _ _ (by simp [ho])]
  unfold execOp
  simp only [ho, resolve, invoke, builtin, Sem.run_bind, Sem.run_pure, Result.andThen_ok, List.map_toArray, List.map_cons, List.map_nil, hs, hxv, hr]
  exact hK _ _ (h g' c' w' h2 h3 h5)
theorem Ow.cells {w : World} : ∀ {s : Sh} {cs : List Value} {d : Dat s} {F : List Nat}, Ow w s cs d F → ∀ k ∈ F, ∃ t c, Row w k t c
 | .num, _, _, _, h, k, hk => by obtain ⟨_, e⟩ := h; rw [e] at hk; cases hk
 | .bit, _, _, _, h, k, hk => by obtain ⟨_, e⟩ := h; rw [e] at hk; cases hk
 | .row e s, _, _, F, h, k, hk => by
  obtain ⟨A, n, c, e1, hl, h1⟩ := h
  rcases h1 with ⟨_, _, _, h1⟩ | ⟨g, cur, E, G, e2, hr, h2, h3, h4, h5, h6⟩
  ·rw [h1] at hk; cases hk
  ·rw [h5] at hk
   rcases List.mem_cons.1 hk with hk | hk
   ·rw [hk]; exact ⟨_, _, hr⟩
   ·obtain ⟨j, hj, hk⟩ := List.mem_flatMap.1 hk
    exact Ow.cells (h6 j (List.mem_range.1 hj)).2.2 k hk
 | .cat a b, _, _, _, h, k, hk => by
  obtain ⟨ca, cb, Fa, Fb, e, e2, h1, h2⟩ := h
  rw [e2] at hk
  rcases List.mem_append.1 hk with hk | hk
  ·exact Ow.cells h1 k hk
  ·exact Ow.cells h2 k hk
theorem row_turn {w w' : World} {row : Option Nat} (hg : w.grownBy w' row) (hr : ∀ r, row = some r → ∃ o : Obj, w.heap[r]? = some o ∧ o.isCells = false) {k : Nat} {t : TypeId} {cs : Array Value} (hrow : Row w k t cs) : w'.heap[k]? = w.heap[k]? :=
 hg.block k hrow.lt (fun e => by
  obtain ⟨o, ho, hc⟩ := hr k e.symm
  unfold Row at hrow
  rw [hrow] at ho
  injection ho with ho
  rw [← ho] at hc
  cases hc)
theorem ownL_turn {w w' : World} {lo hi n c : Nat} {e : TypeId} {s : Sh} {A : Option Addr} {D : List (Dat s)} {row : Option Nat} (h : OwnL w lo hi e s A n c D) (hg : w.grownBy w' row) (hr : ∀ r, row = some r → ∃ o : Obj, w.heap[r]? = some o ∧ o.isCells = false) : OwnL w' lo hi e s A n c D := by
 obtain ⟨q1, q2, vs, G, q3, q4, q5, q6⟩ := h
 refine ⟨q1, q2, vs, G, ⟨q3.1, ?_⟩, q4, q5, fun j hj => ⟨(q6 j hj).1.keep fun k hkG => by obtain ⟨t, cs, hrow⟩ := Ow.cells (q6 j hj).1 k hkG; exact row_turn hg hr hrow, (q6 j hj).2⟩⟩
 rcases q3.2 with q | ⟨g, cap, cur, e1, hg1, hrow, rest⟩
 ·exact .inl q
 ·exact .inr ⟨g, cap, cur, e1, hg1, (row_turn hg hr hrow).trans hrow, rest⟩
theorem ownL_cells {w : World} {lo hi n c k : Nat} {e : TypeId} {s : Sh} {A : Option Addr} {D : List (Dat s)} (h : OwnL w lo hi e s A n c D) (hk : blk A = some k) : ∃ cs, Row w k e cs := by
 obtain ⟨q1, q2, vs, G, q3, q4, q5, q6⟩ := h
 rcases q3.2 with ⟨e1, _⟩ | ⟨g, cap, cur, e1, hg1, hrow, rest⟩
 ·injection e1 with e1
  subst e1
  cases hk
 ·injection e1 with e1
  subst e1
  injection hk with hk
  have hk : g = k := hk
  subst hk
  exact ⟨_, hrow⟩
end iter
end
section
open Go.Lib (hid)
namespace iter
open Go.RowKit Go.Shelf base ints sig term termOk endOf marks app sym varsOf segs termFacts shape kindsR kindsP drawX ruleMath ruleSpec ruleImpl peakMath trySpec overSpec ovImpl ovAt ovsMath rangeGive ownL pkMath pkMgu pkAns pkAll pksMath pksAns
set_option maxRecDepth 100000
attribute [local go_sem] Oper.semAt_some
theorem isAny (o u : Nat) (w : World) : Calls Tryz.prog 69 (#[.int .i64 (o : Int), .int .i64 (u : Int)] ++ #[]) w (AnsB w (anyW o u)) := by
 go_enter Tryz.func69, Tryz.ntmps69
 go_wp2
 go_ret
 exact ⟨rfl, Below.refl _ _⟩
theorem made_any {w : World} {A V : Option Addr} {n c q cv : Nat} {d : Dat sSystem} {t : Tr} {lo p : Nat} (hs : sysOkB d.1 d.2 = true) (ht : t ∈ ovs d.1 d.2 anyW) (h : Rd w w.heap.size sSystem [.slice A n c, .slice V q cv] d) (hz : sz sSystem d ≤ 1048576) (hM : Made w lo A n c (.slice V q cv) d.1 d.2 t.1 t.2.1 t.2.2 p) :
  Calls Tryz.prog 71 #[.pointer (some ⟨p, 0, none⟩)] w (AnsPk w (pkT d.1 d.2 t) (okT d.1 d.2 t)) := by
 obtain ⟨o, a, u⟩ := t
 obtain ⟨⟨ho, ha, hu⟩, -, hm⟩ := mem_all ht
 have hm : metB d.1 d.2 (o : Int) (a : Int) (u : Int) = true := hm
 have := peakAtImpl.peakMade A V n c q cv d o a u lo p w h hz hs ho hu ha hm hM
 obtain ⟨e1, e2⟩ := pa_yes (o := (o : Int)) (x := (a : Int)) (u := (u : Int)) hs hm
 rw [e1, e2] at this
 exact this
set_option maxHeartbeats 4000000 in
theorem implPeaksOf (a v : Value) (d : Dat sSystem) (w : World) (h : Rd w w.heap.size sSystem [a, v] d) (hz : sz sSystem d ≤ 1048576) :
  Calls Tryz.prog 42 #[.agg #[a, v]] w (AnsPks w (psA d.1 d.2) (psB d.1 d.2)) := by
 refine (callsIn_wide (n := 5)).1 ?_
 have h0 := h
 obtain ⟨A, n, cs, V, q, cv, rfl, rfl, -, -, -, -, -, -, -, -, -⟩ := rd_sys h hz
 obtain ⟨W, hW, rA, rO, rU, bel⟩ := box3v w 33 49 4 #[.slice A n cs, .slice V q cv] #[.slice none 0 0] #[.bool false]
 have zW : W.heap.size = w.heap.size + 1 + 1 + 1 := by rw [hW]; simp
 have HW := hid hW
 have LS := systemOf _ _ d W (h0.next bel) hz
 obtain ⟨A', n', cs', V', q', cv', d', bo, hS, hD, hz', hok, hpk, hbad, hfin⟩ : ∃ (A' : Option Addr) (n' cs' : Nat) (V' : Option Addr) (q' cv' : Nat) (d' : Dat sSystem) (bo : Bool), Calls Tryz.prog 62 #[.agg #[.slice A n cs, .slice V q cv]] W (fun e w' => e = .returned (.tuple #[.agg #[.slice A' n' cs', .slice V' q' cv'], .bool bo]) ∧ Below W.heap.size W w') ∧
   (∀ w1, Below w.heap.size w w1 → Rd w1 w.heap.size sSystem [.slice A' n' cs', .slice V' q' cv'] d') ∧ sz sSystem d' ≤ 1048576 ∧ (∀ k, k < d'.2.length → ruleOkB d'.1 (d'.2.getD k ([], [])) = true) ∧
   (∀ (t : Tr) (w1 : World) (lo p : Nat), t ∈ ovs d'.1 d'.2 anyW → Below w.heap.size w w1 → Made w1 lo A' n' cs' (.slice V' q' cv') d'.1 d'.2 t.1 t.2.1 t.2.2 p → Calls Tryz.prog 71 #[.pointer (some ⟨p, 0, none⟩)] w1 (AnsPk w1 (pkT d.1 d.2 t) (okT d.1 d.2 t))) ∧
   (∀ L : List Tr, L <+: ovs d'.1 d'.2 anyW → goodL d.1 d.2 L = false → psA d.1 d.2 = [] ∧ psB d.1 d.2 = false) ∧ (goodL d.1 d.2 (ovs d'.1 d'.2 anyW) = true → psA d.1 d.2 = (ovs d'.1 d'.2 anyW).map (pkT d.1 d.2) ∧ psB d.1 d.2 = bo) := by
  cases ok : sysOkB d.1 d.2 with
  | true =>
   rw [ok] at LS
   exact ⟨A, n, cs, V, q, cv, d, true, LS, fun w1 b1 => h0.below b1, hz, fun k hk => trySpec.sys_rule ok hk, fun t w1 lo p ht b1 hM => made_any ok ht (h0.next b1) hz hM, fun L hL hg => ps_bad hL hg, fun hg => ps_good ok hg⟩
  | false =>
   rw [ok] at LS
   refine ⟨none, 0, 0, none, 0, 0, ([], []), false, LS, fun w1 _ => peakImpl.rd_zero w1 _, by decide, fun k hk => absurd hk (Nat.not_lt_zero _), fun t _ _ _ ht => ?_, fun L hL hg => ps_sys ok, fun hg => ?_⟩
   ·unfold ovs at ht
    cases ht
   ·obtain ⟨e1, e2⟩ := ps_sys ok
    exact ⟨by rw [e1]; rfl, e2⟩
 have HS := hid hS
 have HH := hid (And.intro hD (And.intro hz' (And.intro hok (And.intro hpk (And.intro hbad hfin)))))
 clear hW h h0 LS hS hD hz' hok hpk hbad hfin
 refine callsIn_of_wp_marks Tryz.func42 rfl trivial ?_ rfl
 simp only [Tryz.ntmps42, List.size_toArray, List.length_cons, List.length_nil, Nat.reduceAdd, Nat.reduceSub, Array.replicate_succ, Array.replicate_zero, List.push_toArray, List.append_toArray, List.nil_append, List.cons_append]
 gi_wp2_with (refine ⟨trivial, ?_⟩; gi_at_call 62; rw [← HW.out]; refine (callsIn_wide.2 HS.out).mono ?_; rintro e w1 ⟨rfl, bb⟩; refine (?_ : Hid _).out)
 obtain ⟨hD, hz', hok, -⟩ := HH.out
 have bw1 : Below w.heap.size w w1 := next_trans bel bb
 have z1 := bb.size
 obtain ⟨X, hX, q1, q2, q3, q4, b4⟩ := box4v w1 76 49 76 86 #[.slice A' n' cs', .slice V' q' cv'] #[.slice none 0 0] #[.slice A' n' cs', .slice V' q' cv'] #[.func (.func 69) #[] #[]]
 have zX : X.heap.size = w1.heap.size + 1 + 1 + 1 + 1 := by rw [hX]; simp
 have bX : Below w.heap.size w X := bw1.trans (b4.mono (by omega))
 have rO2 := (rO.next bb).next b4
 have rU2 := (rU.next bb).next b4
 have HV := hid (overlaps_val 4 (by omega) (w1.heap.size + 1 + 1) (w1.heap.size + 1 + 1 + 1) (w1.heap.size + 1) A' V' n' cs' q' cv' d' anyW 69 #[] X (by omega) q3 q4 ((hD X bX).more (by omega)) hz' hok (enters_of Tryz.func69 (by kernel_rfl) rfl)
  (fun W' o u _ => isAny o u W'))
 have HQ := hid (And.intro q2 (And.intro rO2 rU2))
 have HX := hid hX
 clear hX q1 q2 q3 q4 rO2 rU2 hD hz' hok rA rO rU bel
 refine hid ?_
 gi_wp2_with (refine ⟨trivial, ?_⟩; gi_at_call 70; refine (callsIn_wide.2 (overlapsFn (.slice A' n' cs') (.slice V' q' cv') _ _ ⟨_, _, rfl⟩)).mono ?_; rintro e w3 ⟨rfl, hw3⟩; subst hw3)
 rw [← HX.out]
 have hX1 : w1.heap.size + 1 + 1 + 1 + 1 ≤ X.heap.size := by omega
 have hX2 : X.heap.size ≤ w1.heap.size + 1 + 1 + 1 + 1 := by omega
 have hX3 := bX.size
 have hX4 : w.heap.size + 1 + 1 + 1 ≤ w1.heap.size := by omega
 clear zX zW
 refine rangeValX (gf := 98) (lb := #[.pointer (some ⟨w1.heap.size + 1 + 1, 0, none⟩), .pointer (some ⟨w1.heap.size + 1 + 1 + 1, 0, none⟩)]) rfl (enters_of Tryz.func98 (by kernel_rfl) rfl) HV.out (Below.refl _ _) Kr.trans
  (fun Y o o' ho => ⟨(Below.refl _ Y).grown (grownBy_putObj' Y _ o') (by have := (Array.getElem?_eq_some_iff.1 ho).1; omega) (fun k e => by cases e; omega), World.putObj_heap_other (by omega), World.putObj_heap_other (by omega)⟩)
  (fun t Y v o o' ho hv => by
   obtain ⟨p, e, hM⟩ := hv
   exact ⟨p, e, made_turn ho rfl hM⟩)
  (fun pre Y => PksI w (w1.heap.size + 1) X.heap.size d.1 d.2 pre Y)
  (fun pre Y => PksX w Y ∧ (psA d.1 d.2 = [] ∧ psB d.1 d.2 = false))
  (fun s Y Z row hs hg hr => by
   have hr' : ∀ r, row = some r → ∃ o : Obj, Y.heap[r]? = some o ∧ o.isCells = false := fun r e => (hr r e).2
   obtain ⟨O, on, oc, h1, h2⟩ := hs.p
   exact ⟨⟨row_turn9 hs.x.r2 hg hr', row_turn9 hs.x.r3 hg hr', hs.x.b.grown hg hs.x.b.size (fun k e => by have := (hr k e).1; omega)⟩, ⟨O, on, oc, row_turn9 h1 hg hr', (ownL_turn h2 hg hr').wider (Nat.le_refl _) hg.size⟩, hs.g⟩)
  (fun s Y Z row hs hg hr => by
   have hr' : ∀ r, row = some r → ∃ o : Obj, Y.heap[r]? = some o ∧ o.isCells = false := fun r e => (hr r e).2
   exact ⟨⟨row_turn9 hs.1.r2 hg hr', row_turn9 hs.1.r3 hg hr', hs.1.b.grown hg hs.1.b.size (fun k e => by have := (hr k e).1; omega)⟩, hs.2⟩)
  ⟨⟨HQ.out.2.1, HQ.out.2.2, bX⟩, ⟨none, 0, 0, HQ.out.1, OwnL.nil _ _ _ _ _⟩, good_nil⟩
  (fun v => { tmps := #[.agg #[.slice A n cs, .slice V q cv], .pointer (some ⟨w.heap.size, 0, none⟩), .pointer (some ⟨w.heap.size + 1, 0, none⟩), .pointer (some ⟨w.heap.size + 1 + 1, 0, none⟩), .pointer (some ⟨w1.heap.size, 0, none⟩), .bool bo, .func (.func 69) #[] #[], .pointer (some ⟨w1.heap.size + 1, 0, none⟩), v, undef, undef, .tuple #[.agg #[.slice A' n' cs', .slice V' q' cv'], .bool bo], .agg #[.slice A n cs, .slice V q cv], .tuple #[.agg #[.slice A' n' cs', .slice V' q' cv'], .bool bo], .agg #[.slice A' n' cs', .slice V' q' cv'], .bool bo, .agg #[.slice A' n' cs', .slice V' q' cv'], .func (.func 69) #[] #[], .func (.func 98) #[] #[.pointer (some ⟨w1.heap.size + 1 + 1, 0, none⟩), .pointer (some ⟨w1.heap.size + 1 + 1 + 1, 0, none⟩)], v, undef, undef, undef, undef, undef, undef, undef, undef, undef, undef, undef, undef, undef, undef, undef, undef, undef, undef], defers := [] }) ?assign ?body ?done ?stop
 case assign =>
  rintro l t v Y K ⟨p, rfl, hM⟩ hK
  clear hM
  gi_wp2
  first | exact hK | simpa using hK
 case body =>
  rintro l pre t v Y ⟨⟨r2, r3, bP⟩, ⟨O, on, oc, rP, oP⟩, hg⟩ hY2 ⟨p, rfl, hM⟩ hpre
  have hlenP : pre.length = on := by have := oP.1; rwa [List.length_map] at this
  have hon : on ≤ 64 := by rw [← hlenP]; exact good_len hg
  have ht : t ∈ ovs d'.1 d'.2 anyW := hpre.subset (by simp)
  have LPK := HH.out.2.2.2.1 t Y _ p ht bP hM
  obtain ⟨P, hP⟩ : ∃ P, pkT d.1 d.2 t = P := ⟨_, rfl⟩
  obtain ⟨bk, hbk⟩ : ∃ b, okT d.1 d.2 t = b := ⟨_, rfl⟩
  rw [hP, hbk] at LPK
  have HL := hid LPK
  have HP := hid (And.intro hP (And.intro hbk (And.intro hpre (And.intro hg hlenP))))
  have HI := hid (And.intro r2 (And.intro r3 (And.intro bP (And.intro rP oP))))
  clear LPK hP hbk hpre hg ht hM r2 r3 bP rP oP hlenP
  gi_wp2_with (refine ⟨trivial, ?_⟩; gi_at_call 71; refine (CallsIn.inRound l (callsIn_wide.2 HL.out)).mono ?_; rintro e Y2 ⟨A0, n0, c0, A1, n1, c1, A2, n2, c2, rfl, oK, b2⟩; refine (?_ : Hid _).out)
  obtain ⟨r2, r3, bP, rP, oP⟩ := HI.out
  obtain ⟨Y3, hY3⟩ : ∃ Y3, Y3 = Y2.alloc (.cells #[.slice A0 n0 c0, .slice A1 n1 c1, .slice A2 n2 c2, .int .i64 P.2.2.2.1, .int .i64 P.2.2.2.2.1, .int .i64 P.2.2.2.2.2] 38) := ⟨_, rfl⟩
  have b3 : Below Y2.heap.size Y2 Y3 := by rw [hY3]; exact (Below.refl _ _).alloc (Nat.le_refl _) _
  have z2 := b2.size
  have z3 : Y3.heap.size = Y2.heap.size + 1 := by rw [hY3]; simp
  have b23 := next_trans b2 b3
  have r2' := r2.next b23
  have r3' := r3.next b23
  have rP' := rP.next b23
  have oP' := oP.next b23
  have oK' := oK.next b3
  have bP' := next_trans bP b23
  have rK : Row Y3 Y2.heap.size 38 #[.slice A0 n0 c0, .slice A1 n1 c1, .slice A2 n2 c2, .int .i64 P.2.2.2.1, .int .i64 P.2.2.2.2.1, .int .i64 P.2.2.2.2.2] := by rw [hY3]; exact Row.new _ _ _
  have k0 : Y3.cell? ⟨Y2.heap.size, 0, none⟩ = some (.slice A0 n0 c0) := rK.cell 0
  have k1 : Y3.cell? ⟨Y2.heap.size, 1, none⟩ = some (.slice A1 n1 c1) := rK.cell 1
  have k2 : Y3.cell? ⟨Y2.heap.size, 2, none⟩ = some (.slice A2 n2 c2) := rK.cell 2
  have k3 : Y3.cell? ⟨Y2.heap.size, 3, none⟩ = some (.int .i64 P.2.2.2.1) := rK.cell 3
  have k4 : Y3.cell? ⟨Y2.heap.size, 4, none⟩ = some (.int .i64 P.2.2.2.2.1) := rK.cell 4
  have k5 : Y3.cell? ⟨Y2.heap.size, 5, none⟩ = some (.int .i64 P.2.2.2.2.2) := rK.cell 5
  have kP : Y3.cell? ⟨w1.heap.size + 1, 0, none⟩ = some (.slice O on oc) := rP'.cell 0
  have y2 : Y3.cell? ⟨w.heap.size + 1, 0, none⟩ = some (.slice none 0 0) := r2'.cell 0
  have g2 : Y3.frozen? ⟨w.heap.size + 1, 0, none⟩ = false := r2'.free 0
  have rr := r2'.put 0 (.slice none 0 0)
  have r3a : Row (Y3.setCell ⟨w.heap.size + 1, 0, none⟩ (.slice none 0 0)) (w.heap.size + 1 + 1) 4 #[.bool false] := r3'.far (show w.heap.size + 1 + 1 ≠ w.heap.size + 1 by omega) _
  have y3 : (Y3.setCell ⟨w.heap.size + 1, 0, none⟩ (.slice none 0 0)).cell? ⟨w.heap.size + 1 + 1, 0, none⟩ = some (.bool false) := r3a.cell 0
  have g3 : (Y3.setCell ⟨w.heap.size + 1, 0, none⟩ (.slice none 0 0)).frozen? ⟨w.heap.size + 1 + 1, 0, none⟩ = false := r3a.free 0
  have OFF := hid (show (psA d.1 d.2 = [] ∧ psB d.1 d.2 = false) → KeepsFrom X.heap.size Y ((Y3.setCell ⟨w.heap.size + 1, 0, none⟩ (.slice none 0 0)).setCell ⟨w.heap.size + 1 + 1, 0, none⟩ (.bool false)) ∧ PksX w ((Y3.setCell ⟨w.heap.size + 1, 0, none⟩ (.slice none 0 0)).setCell ⟨w.heap.size + 1 + 1, 0, none⟩ (.bool false)) ∧ (psA d.1 d.2 = [] ∧ psB d.1 d.2 = false) from fun he => by
   refine ⟨⟨by simp; omega, fun k o hk ho hc => ?_⟩, ⟨(rr.far (show w.heap.size + 1 ≠ w.heap.size + 1 + 1 by omega) _), r3a.put 0 _, (bP'.setCell (show w.heap.size ≤ w.heap.size + 1 by omega) _).setCell (show w.heap.size ≤ w.heap.size + 1 + 1 by omega) _⟩, he⟩
   rw [Below.heap_setCell _ _ _ k (by show k ≠ w.heap.size + 1 + 1; omega), Below.heap_setCell _ _ _ k (by show k ≠ w.heap.size + 1; omega)]
   exact (b23.block k (Array.getElem?_eq_some_iff.1 ho).1).trans ho)
  have HR := hid (And.intro r2' (And.intro r3' (And.intro rP' (And.intro oP' (And.intro oK' (And.intro bP' (And.intro b23 (And.intro rK oP))))))))
  have HY3 := hid hY3
  have HZ := hid (And.intro z2 z3)
  rw [hY3] at k0 k1 k2 k3 k4 k5 kP y2 g2 y3 g3
  clear hY3 r2 r3 bP rP oP b2 b3 z2 z3 b23 r2' r3' rP' oP' oK' bP' rK rr r3a oK
  refine hid ?_
  cases bk with
  | false =>
   have F := hid (OFF.out (HH.out.2.2.2.2.1 _ HP.out.2.2.1 (bad_ok HP.out.2.1)))
   rw [HY3.out] at F
   gi_wp2
   exact F.out
  | true =>
   by_cases h64 : on = 64
   ·subst h64
    have F := hid (OFF.out (HH.out.2.2.2.2.1 _ HP.out.2.2.1 (bad_len HP.out.2.2.2.2)))
    rw [HY3.out] at F
    gi_wp2
    exact F.out
   ·have hne64 : ¬ ((on : Int) = 64) := by omega
    have b5 : Below Y3.heap.size Y3 (Y3.alloc (.cells #[.slice A0 n0 c0, .slice A1 n1 c1, .slice A2 n2 c2, .int .i64 P.2.2.2.1, .int .i64 P.2.2.2.2.1, .int .i64 P.2.2.2.2.2] 38)) := (Below.refl _ _).alloc (Nat.le_refl _) _
    have oS := OwnL.single (e := 38) (s := sPeak) (Row.new Y3 38 #[.slice A0 n0 c0, .slice A1 n1 c1, .slice A2 n2 c2, .int .i64 P.2.2.2.1, .int .i64 P.2.2.2.2.1, .int .i64 P.2.2.2.2.2]) ((HR.out.2.2.2.2.1.next b5).wider (Nat.le_refl _) (show Y2.heap.size ≤ Y3.heap.size by have := HZ.out.2; omega)) (Nat.le_refl _) (show Y.heap.size ≤ Y3.heap.size by have := HZ.out; omega)
    have oL := HR.out.2.2.2.1.next b5
    have rP5 := HR.out.2.2.1.next b5
    have HRX := hid rP5
    have HB5 := hid b5
    have eW : Y3.heap.size = Y2.heap.size + 1 := HZ.out.2
    have eV : Y.heap.size ≤ Y2.heap.size := HZ.out.1
    rw [eW] at oS
    rw [HY3.out] at oS oL HRX
    have HAPP := hid (And.intro oL oS)
    have HEW := hid (And.intro eW eV)
    obtain ⟨zP, byP, iP, zcP, hbyP⟩ := info_Peak
    have HIP := hid (And.intro iP (And.intro zcP hbyP))
    have eVX : X.heap.size ≤ Y.heap.size := by omega
    clear oS oL rP5 b5 eW iP zcP hbyP OFF y2 g2 y3 g3
    gi_wp2_with (gi_at_builtin; refine appLmIn rfl _ _ 49 38 sPeak _ _ Tryz.underlying49 HIP.out.1 HIP.out.2.1 HIP.out.2.2 rfl X.heap.size Y.heap.size Y.heap.size (Y2.heap.size + 1 + 1) O on oc (Y2.heap.size + 1) 1 1 (pre.map (pkT d.1 d.2)) [P] rfl HAPP.out.1 rfl HAPP.out.2 (Nat.le_refl _) eVX (by omega) (by omega) (by simp; omega) (by omega) ?_; intro g' c' w4 oL4 hg4 b4; have r4 := HRX.out.below b4 (show w1.heap.size + 1 < X.heap.size by omega); have y1 : w4.cell? ⟨w1.heap.size + 1, 0, none⟩ = some (.slice O on oc) := r4.cell 0; have f1 := r4.free 0)
    rw [← HY3.out] at hg4 b4
    have F := hid (show KeepsFrom X.heap.size Y (w4.setCell ⟨w1.heap.size + 1, 0, none⟩ (.slice (some ⟨g', 0, none⟩) (on + 1) c')) ∧ Kr (w1.heap.size + 1) (w1.heap.size + 1 + 1) (w1.heap.size + 1 + 1 + 1) Y (w4.setCell ⟨w1.heap.size + 1, 0, none⟩ (.slice (some ⟨g', 0, none⟩) (on + 1) c')) ∧ PksI w (w1.heap.size + 1) X.heap.size d.1 d.2 (pre ++ [t]) (w4.setCell ⟨w1.heap.size + 1, 0, none⟩ (.slice (some ⟨g', 0, none⟩) (on + 1) c')) from by
     obtain ⟨r2', r3', rP', oP', oK', bP', b23, rK, oP⟩ := HR.out
     have e5 : (Y3.alloc (.cells #[.slice A0 n0 c0, .slice A1 n1 c1, .slice A2 n2 c2, .int .i64 P.2.2.2.1, .int .i64 P.2.2.2.2.1, .int .i64 P.2.2.2.2.2] 38)).heap.size = Y3.heap.size + 1 := by simp
     have z4 := b4.size
     have b25 := next_trans b23 HB5.out
     have hk5 : ∀ k, k < Y.heap.size → blk O ≠ some k → k ≠ w1.heap.size + 1 → (w4.setCell ⟨w1.heap.size + 1, 0, none⟩ (.slice (some ⟨g', 0, none⟩) (on + 1) c')).heap[k]? = Y.heap[k]? := fun k hk h1 h2 => by
      rw [Below.heap_setCell w4 _ _ k h2]
      exact (hg4.block k (by rw [e5]; have := HEW.out; omega) (fun e => h1 e.symm)).trans (b25.block k hk)
     have hoX : ∀ k, blk O = some k → X.heap.size ≤ k := fun k e => (oP.ge k e).1
     have hlow : ∀ k, k < X.heap.size → k ≠ w1.heap.size + 1 → (w4.setCell ⟨w1.heap.size + 1, 0, none⟩ (.slice (some ⟨g', 0, none⟩) (on + 1) c')).heap[k]? = Y.heap[k]? := fun k hk h2 => hk5 k (by omega) (fun e => by have := hoX k e; omega) h2
     have hB : Below (w1.heap.size + 1) Y (w4.setCell ⟨w1.heap.size + 1, 0, none⟩ (.slice (some ⟨g', 0, none⟩) (on + 1) c')) := ((b25.mono (show w1.heap.size + 1 ≤ Y.heap.size by omega)).trans (b4.mono (show w1.heap.size + 1 ≤ X.heap.size by omega))).setCell (Nat.le_refl _) _
     refine ⟨⟨by simp; have := HEW.out; omega, fun k o hk ho hc => ?_⟩, ⟨hB, hlow _ (by omega) (by omega), hlow _ (by omega) (by omega)⟩, ⟨⟨?_, ?_, ?_⟩, ⟨some ⟨g', 0, none⟩, on + 1, c', r4.put 0 _, ?_⟩, good_app HP.out.2.2.2.1 HP.out.2.1 (by rw [HP.out.2.2.2.2]; omega)⟩⟩
     ·refine (hk5 k (Array.getElem?_eq_some_iff.1 ho).1 (fun e => ?_) (by omega)).trans ho
      obtain ⟨cs9, hrow⟩ := ownL_cells oP e
      unfold Row at hrow
      rw [hrow] at ho
      injection ho with ho
      rw [← ho] at hc
      cases hc
     ·exact (hlow (w.heap.size + 1) (by omega) (by omega)).trans HI.out.1
     ·exact (hlow (w.heap.size + 1 + 1) (by omega) (by omega)).trans HI.out.2.1
     ·exact HI.out.2.2.1.trans (hB.mono (by omega))
     ·rw [List.map_append, List.map_singleton, HP.out.1]
      have o5 : OwnL (w4.setCell ⟨w1.heap.size + 1, 0, none⟩ (.slice (some ⟨g', 0, none⟩) (on + 1) c')) X.heap.size w4.heap.size 38 sPeak (some ⟨g', 0, none⟩) (on + 1) c' (pre.map (pkT d.1 d.2) ++ [P]) := oL4.btw (lo' := w1.heap.size + 1) (hi' := w1.heap.size + 1 + 1) ⟨rfl, rfl, rfl, by simp, fun k hk ho => Below.heap_setCell w4 _ _ k (by show k ≠ w1.heap.size + 1; omega)⟩ (.inr (by omega))
      exact o5.wider (Nat.le_refl _) (by simp))
    clear oL4 hg4 b4 r4
    gi_wp2
    exact F.out
 case done =>
  rintro D Y hD ⟨⟨r2, r3, bP⟩, ⟨O, on, oc, rP, oP⟩, hg⟩ hd
  have hDw : w.heap.size ≤ D := by omega
  obtain ⟨e1, e2⟩ := HH.out.2.2.2.2.2 hg
  have K0 : Y.cell? ⟨w1.heap.size + 1, 0, none⟩ = some (.slice O on oc) := rP.cell 0
  have y2 : Y.cell? ⟨w.heap.size + 1, 0, none⟩ = some (.slice none 0 0) := r2.cell 0
  have g2 : Y.frozen? ⟨w.heap.size + 1, 0, none⟩ = false := r2.free 0
  have rr := r2.put 0 (.slice O on oc)
  have r3a : Row (Y.setCell ⟨w.heap.size + 1, 0, none⟩ (.slice O on oc)) (w.heap.size + 1 + 1) 4 #[.bool false] := r3.far (show w.heap.size + 1 + 1 ≠ w.heap.size + 1 by omega) _
  have y3 : (Y.setCell ⟨w.heap.size + 1, 0, none⟩ (.slice O on oc)).cell? ⟨w.heap.size + 1 + 1, 0, none⟩ = some (.bool false) := r3a.cell 0
  have g3 : (Y.setCell ⟨w.heap.size + 1, 0, none⟩ (.slice O on oc)).frozen? ⟨w.heap.size + 1 + 1, 0, none⟩ = false := r3a.free 0
  obtain ⟨Z, hZ⟩ : ∃ Z, Z = (Y.setCell ⟨w.heap.size + 1, 0, none⟩ (.slice O on oc)).setCell ⟨w.heap.size + 1 + 1, 0, none⟩ (.bool bo) := ⟨_, rfl⟩
  have rZ2 : Row Z (w.heap.size + 1) 49 #[.slice O on oc] := by rw [hZ]; exact rr.far (show w.heap.size + 1 ≠ w.heap.size + 1 + 1 by omega) _
  have rZ3 : Row Z (w.heap.size + 1 + 1) 4 #[.bool bo] := by rw [hZ]; exact r3a.put 0 _
  have bZ : Below w.heap.size w Z := by rw [hZ]; exact (bP.setCell (show w.heap.size ≤ w.heap.size + 1 by omega) _).setCell (show w.heap.size ≤ w.heap.size + 1 + 1 by omega) _
  have hkZ : ∀ k, X.heap.size ≤ k → Z.heap[k]? = Y.heap[k]? := fun k hk => by
   rw [hZ, Below.heap_setCell _ _ _ k (by show k ≠ w.heap.size + 1 + 1; omega), Below.heap_setCell _ _ _ k (by show k ≠ w.heap.size + 1; omega)]
  have hdZ : Z.heap[D]? = some (.deferred (some [])) := (hkZ D (by omega)).trans hd
  have zZ : Z.heap.size = Y.heap.size := by rw [hZ]; simp
  have oZ : OwnL Z X.heap.size Y.heap.size 38 sPeak O on oc ((ovs d'.1 d'.2 anyW).map (pkT d.1 d.2)) := oP.keep (fun k h1 _ _ => hkZ k h1) (by omega)
  have hgP := grownBy_putObj' Z D (.deferred none)
  have hrP : ∀ r, some D = some r → ∃ o : Obj, Z.heap[r]? = some o ∧ o.isCells = false := fun r e => by cases e; exact ⟨_, hdZ, rfl⟩
  have c2 : (Z.putObj D (.deferred none)).cell? ⟨w.heap.size + 1, 0, none⟩ = some (.slice O on oc) := (row_turn9 rZ2 hgP hrP).cell 0
  have c3 : (Z.putObj D (.deferred none)).cell? ⟨w.heap.size + 1 + 1, 0, none⟩ = some (.bool bo) := (row_turn9 rZ3 hgP hrP).cell 0
  have F := hid (show AnsPks w (psA d.1 d.2) (psB d.1 d.2) (.returned (.tuple #[.slice O on oc, .bool bo])) (Z.putObj D (.deferred none)) from by
   rw [e1, e2]
   exact ⟨O, on, oc, rfl, (ownL_turn oZ hgP hrP).wider (by omega) (by simp; omega), bZ.grown hgP bZ.size (fun k e => by cases e; exact hDw)⟩)
  have HDZ := hid (And.intro hdZ (And.intro c2 c3))
  have HZZ := hid hZ
  clear r2 r3 bP rP oP hg rr r3a rZ2 rZ3 bZ hkZ hdZ zZ oZ hgP hrP c2 c3 e1 e2 hZ
  gi_wp2
  rw [← HZZ.out]
  obtain ⟨hdZ, c2, c3⟩ := HDZ.out
  refine ⟨by simp, .inl ⟨_, _, rfl, run_takeDeferred hdZ, ?_⟩⟩
  exact ⟨.tuple #[.slice O on oc, .bool bo], by simp [results, Tryz.results42, go_sem, c2, c3], F.out⟩
 case stop =>
  rintro D pre Y hD hne hpre ⟨⟨r2, r3, bP⟩, e1, e2⟩ hd
  have hDw : w.heap.size ≤ D := by omega
  have hgP := grownBy_putObj' Y D (.deferred none)
  have hrP : ∀ r, some D = some r → ∃ o : Obj, Y.heap[r]? = some o ∧ o.isCells = false := fun r e => by cases e; exact ⟨_, hd, rfl⟩
  have c2 : (Y.putObj D (.deferred none)).cell? ⟨w.heap.size + 1, 0, none⟩ = some (.slice none 0 0) := (row_turn9 r2 hgP hrP).cell 0
  have c3 : (Y.putObj D (.deferred none)).cell? ⟨w.heap.size + 1 + 1, 0, none⟩ = some (.bool false) := (row_turn9 r3 hgP hrP).cell 0
  have F := hid (show AnsPks w (psA d.1 d.2) (psB d.1 d.2) (.returned (.tuple #[.slice none 0 0, .bool false])) (Y.putObj D (.deferred none)) from by
   rw [e1, e2]
   exact ⟨none, 0, 0, rfl, OwnL.nil _ _ _ _ _, bP.grown hgP bP.size (fun k e => by cases e; exact hDw)⟩)
  clear r2 r3 bP e1 e2 hgP hrP
  gi_wp2
  refine ⟨by simp, .inl ⟨_, _, rfl, run_takeDeferred hd, ?_⟩⟩
  exact ⟨.tuple #[.slice none 0 0, .bool false], by simp [results, Tryz.results42, go_sem, c2, c3], F.out⟩
end iter
end
section
namespace pksX
open Go.RowKit base sig shape kindsR kindsP kindsQ ruleMath peakMath ownL pkMgu pkAll pksMath pksAns
end pksX
end
section
open Go.Lib (hid)
namespace linWith
open Go.RowKit base ints sig marks app appAt sym segs inside shape kindsR kindsP ruleMath ruleSpec peakMath pkAll pksMath pksAns ownL drawX pickOwn rootSpec delPk
set_option maxRecDepth 100000
def TestsD (g : Nat) (lb : Array Value) (w : World) (D : List Pk) (f : Pk → Bool) : Prop :=
 ∀ (W : World) (v0 v1 v2 : Value) (y : Pk), y ∈ D → Below w.heap.size w W → Rd W W.heap.size sPeak [v0, v1, v2, .int .i64 y.2.2.2.1, .int .i64 y.2.2.2.2.1, .int .i64 y.2.2.2.2.2] y →
  Calls Tryz.prog g (#[.agg #[v0, v1, v2, .int .i64 y.2.2.2.1, .int .i64 y.2.2.2.2.1, .int .i64 y.2.2.2.2.2]] ++ lb) W (Tells W (f y))
theorem TestsD.next {g : Nat} {lb : Array Value} {w w' : World} {D : List Pk} {f : Pk → Bool} (h : TestsD g lb w D f) (hb : Below w.heap.size w w') : TestsD g lb w' D f :=
 fun W v0 v1 v2 y hy hW hr => h W v0 v1 v2 y hy (next_trans hb hW) hr
set_option maxHeartbeats 2000000 in
theorem indexD (g : Nat) (lb : Array Value) (eg : ∀ args w, (callFunc g args).run Tryz.prog w = .ok (.enter g args) w) (f : Pk → Bool) (A : Option Addr) (n c lo hi : Nat) (D : List Pk) (vs : List Value) (G : Nat → List Nat) (w : World) (hT : TestsD g lb w D f) (h : OwnG w lo hi 38 sPeak A n c D vs G) (hh : hi ≤ w.heap.size) (hn : n ≤ 1048576) :
  Calls Tryz.prog 83 #[.slice A n c, .func (.func g) #[] lb] w (AnsFp w f D) := by
 have HL := hid h.1
 have HT := hid hT
 have HR := hid h
 have HH : Hid (HeadFp w n f D (.int .i64 0) w) := hid ⟨0, Nat.zero_le _, rfl, fun j hj => absurd hj (Nat.not_lt_zero _), Below.refl _ _⟩
 clear hT h
 go_enter Tryz.func83, Tryz.ntmps83
 go_wp2_with fail
 go_loopw [8] (fun i wr => HeadFp w n f D i wr) (fun i _ => n - (intOf i).toNat)
 case atStart => exact HH.out
 case round =>
  obtain ⟨k, hk, rfl, hlow, hb⟩ := hrel
  have HLOW := hid hlow
  clear hlow HH
  by_cases hlt : k < n
  ·obtain ⟨g0, v0, v1, v2, rfl, -, -, ecs, ⟨c0, c1, c2, c3, c4, c5⟩, how⟩ := OwnG.peak (HR.out.keep (w' := wr) (fun q _ h2 _ => hb.block q (by omega)) hb.size) hlt
   obtain ⟨y, hys⟩ : ∃ y, D.getD k (dft sPeak) = y := ⟨_, rfl⟩
   have hmem : y ∈ D := by
    rw [← hys, List.getD_eq_getElem?_getD, List.getElem?_eq_getElem (by rw [HL.out]; exact hlt)]
    exact List.getElem_mem _
   have hrd := how.rd
   rw [ecs] at hrd
   rw [hys] at c3 c4 c5 hrd
   have HY := hid hys
   have hcall := HT.out wr v0 v1 v2 y hmem hb hrd
   clear hmem hrd ecs how
   obtain ⟨v, hv⟩ : ∃ v, f y = v := ⟨_, rfl⟩
   rw [hv] at hcall
   have HV := hid hv
   have HC := hid hcall
   have i0 : (0 : Int) ≤ (k : Int) := by omega
   have i1 : (k : Int) < (n : Int) := by omega
   clear hys hv hcall
   cases v with
   | true =>
    go_wp2_with (first
     | (go_at_fn g; refine HC.out.mono ?_; rintro e w1 ⟨rfl, bb⟩))
    have F : AnsFp w f D (.returned (.int .i64 (k : Int))) w1 := ⟨k, rfl, .inr ⟨k, rfl, by rw [HL.out]; exact hlt, by rw [HY.out]; exact HV.out, HLOW.out⟩, next_trans hb bb⟩
    have HF := hid F
    clear F bb hb HC c0 c1 c2 c3 c4 c5
    go_wp2
    go_ret
    exact HF.out
   | false =>
    go_wp2_with (first
     | (go_at_fn g; refine HC.out.mono ?_; rintro e w1 ⟨rfl, bb⟩))
    have S1 : HeadFp w n f D (.int .i64 ((k : Int) + 1)) w1 := ⟨k + 1, hlt, by simp, fun j hj => by
     by_cases e : j = k
     ·rw [e, HY.out]; exact HV.out
     ·exact HLOW.out j (by omega), next_trans hb bb⟩
    have HS1 := hid S1
    clear S1 bb hb HC c0 c1 c2 c3 c4 c5
    go_wp2
    go_roundw
    case rel => exact HS1.out
    case measure => simp [intOf]; omega
  ·have F : AnsFp w f D (.returned (.int .i64 (-1))) wr := ⟨-1, rfl, .inl ⟨rfl, fun j hj => HLOW.out j (by rw [HL.out] at hj; omega)⟩, hb⟩
   have HF := hid F
   clear F hb
   go_wp2
   go_ret
   exact HF.out
theorem fst_any {f : Pk → Bool} {D : List Pk} {z : Int} (h : FstP f D z) : decide (0 ≤ z) = D.any f := by
 rcases h with ⟨rfl, h⟩ | ⟨k, rfl, hk, h, -⟩
 ·rw [decide_eq_false (by omega)]
  symm
  rw [List.any_eq_false]
  intro x hx
  obtain ⟨i, hi, rfl⟩ := List.getElem_of_mem hx
  have := h i hi
  rw [List.getD_eq_getElem?_getD, List.getElem?_eq_getElem hi] at this
  simpa using this
 ·rw [decide_eq_true (by omega)]
  symm
  rw [List.any_eq_true]
  refine ⟨D[k], List.getElem_mem hk, ?_⟩
  rw [List.getD_eq_getElem?_getD, List.getElem?_eq_getElem hk] at h
  exact h
theorem fst_lo {f : Pk → Bool} {D : List Pk} {z : Int} (h : FstP f D z) (hD : D.length ≤ 1048576) : -1 ≤ z ∧ z ≤ 1048576 := by
 rcases h with ⟨rfl, -⟩ | ⟨k, rfl, hk, -⟩ <;> omega
theorem containsD (g : Nat) (lb : Array Value) (eg : ∀ args w, (callFunc g args).run Tryz.prog w = .ok (.enter g args) w) (f : Pk → Bool) (A : Option Addr) (n c lo hi : Nat) (D : List Pk) (vs : List Value) (G : Nat → List Nat) (w : World) (hT : TestsD g lb w D f) (h : OwnG w lo hi 38 sPeak A n c D vs G) (hh : hi ≤ w.heap.size) (hn : n ≤ 1048576) :
  Calls Tryz.prog 56 #[.slice A n c, .func (.func g) #[] lb] w (Tells w (D.any f)) := by
 have hlen : D.length ≤ 1048576 := by rw [h.1]; exact hn
 have L := hid (indexD g lb eg f A n c lo hi D vs G w hT h hh hn)
 clear h hT hh
 go_enter Tryz.func56, Tryz.ntmps56
 go_wp2_with fail
 refine L.out.mono ?_
 rintro e w' ⟨z, rfl, hz, bb⟩
 obtain ⟨h1, h2⟩ := fst_lo hz hlen
 have HZ := hid (fst_any hz)
 have HB := hid bb
 clear hz L bb hlen
 go_wp2
 go_ret
 exact ⟨by rw [← HZ.out]; rfl, HB.out⟩
noncomputable def withB (f : Pk → Bool) (sg : List Int) (rs : List Rl) : Bool := leftLinB sg rs && (psB sg rs && (psA sg rs).all f)
theorem psA_len (sg : List Int) (rs : List Rl) : (psA sg rs).length ≤ 64 := by
 unfold psA
 split
 ·rename_i hg
  unfold psB at hg
  rw [Bool.and_eq_true] at hg
  rw [List.length_map]
  exact good_len hg.2
 ·simp
theorem not_any (f : Pk → Bool) (D : List Pk) : (!D.any fun p => !f p) = D.all f := by
 rw [List.all_eq_not_any_not]
end linWith
end
section
open Go.Lib (hid)
namespace formSpec
open Go.RowKit base ints sig term termOk termFacts marks app sym segs inside shape kindsR kindsP varsOf ruleMath ruleSpec peakMath peakSame forest pkAll pksMath pksAns pkTerms ownL drawX pickOwn rootSpec linWith parMath parSpec parX
set_option maxRecDepth 100000
def trivB (p : Pk) : Bool := decide (p.2.1 = p.2.2.1)
noncomputable def closB (sg : List Int) (rs : List Rl) (p : Pk) : Bool := parB sg rs p.2.1 p.2.2.1
theorem psA_one {sg : List Int} {rs : List Rl} : ∀ y ∈ psA sg rs, sz sPeak y ≤ 180 := by
 intro y hy
 obtain ⟨h1, h2, h3⟩ := psA_terms y hy
 have l1 := (term_parts h1).2.1
 have l2 := (term_parts h2).2.1
 have l3 := (term_parts h3).2.1
 show sz sI y.1 + (sz sI y.2.1 + (sz sI y.2.2.1 + (0 + (0 + 0)))) ≤ 180
 rw [sz_ints, sz_ints, sz_ints]
 omega
theorem get_mem {D : List Pk} {j : Nat} (h : j < D.length) : D.getD j (dft sPeak) ∈ D := by
 rw [List.getD_eq_getElem?_getD, List.getElem?_eq_getElem h]
 exact List.getElem_mem _
theorem all_miss {D : List Pk} {f : Pk → Bool} {j : Nat} (h : j < D.length) (hf : f (D.getD j (dft sPeak)) = false) : D.all f = false := by
 rw [List.all_eq_false]
 exact ⟨_, get_mem h, by rw [hf]; simp⟩
theorem all_yes {D : List Pk} {f : Pk → Bool} (h : ∀ j, j < D.length → f (D.getD j (dft sPeak)) = true) : D.all f = true := by
 rw [List.all_eq_true]
 intro x hx
 obtain ⟨i, hi, rfl⟩ := List.getElem_of_mem hx
 have := h i hi
 rwa [List.getD_eq_getElem?_getD, List.getElem?_eq_getElem hi] at this
structure Fm (w : World) (B mid : Nat) (a v : Value) (A : Option Addr) (n c : Nat) (D : List Pk) (vs : List Value) (G : Nat → List Nat) (f : Pk → Bool) (j : Nat) (wr : World) : Prop where
 d : OwnG wr B mid 38 sPeak A n c D vs G
 r : Row wr w.heap.size 33 #[a, v]
 ok : ∀ i, i < j → f (D.getD i (dft sPeak)) = true
 b : Below w.heap.size w wr
 sz : mid ≤ wr.heap.size
theorem Fm.next {w : World} {B mid : Nat} {a v : Value} {A : Option Addr} {n c : Nat} {D : List Pk} {vs : List Value} {G : Nat → List Nat} {f : Pk → Bool} {j : Nat} {wr w' : World} (h : Fm w B mid a v A n c D vs G f j wr) (hb : Below wr.heap.size wr w') : Fm w B mid a v A n c D vs G f j w' :=
 ⟨h.d.keep (fun k _ h2 _ => hb.block k (Nat.lt_of_lt_of_le h2 h.sz)) hb.size, h.r.next hb, h.ok, next_trans h.b hb, Nat.le_trans h.sz hb.size⟩
set_option maxHeartbeats 4000000 in
theorem specWeaklyIn (a v : Value) (d : Dat sSystem) (w : World) (h : Rd w w.heap.size sSystem [a, v] d) (hz : sz sSystem d ≤ 1048576) :
  Calls Tryz.prog 12 #[.agg #[a, v]] w (AnsB w (withB trivB d.1 d.2)) := by
 obtain ⟨W, hW, rA, bel⟩ := box1 w 33 #[a, v]
 have k0 : W.cell? ⟨w.heap.size, 0, none⟩ = some a := rA.cell 0
 have k1 : W.cell? ⟨w.heap.size, 1, none⟩ = some v := rA.cell 1
 rw [hW] at k0 k1
 have HW := hid hW
 have L1 := hid (pksSpec.specPeaksOf a v d W (h.next bel) hz)
 have L2 := hid (fun (w1 : World) (bb : Below w.heap.size w w1) => specLeftLinearIn a v d w1 (h.next bb) hz)
 have HPT := hid (psA_terms (sg := d.1) (rs := d.2))
 have HP1 := hid (psA_one (sg := d.1) (rs := d.2))
 have HPN := hid (psB_sys (sg := d.1) (rs := d.2))
 have HRD := hid (And.intro h hz)
 obtain ⟨f, hf⟩ : ∃ f, trivB = f := ⟨_, rfl⟩
 obtain ⟨D, hD⟩ : ∃ D, psA d.1 d.2 = D := ⟨_, rfl⟩
 obtain ⟨bo, hbo⟩ : ∃ b, psB d.1 d.2 = b := ⟨_, rfl⟩
 obtain ⟨bl, hbl⟩ : ∃ b, leftLinB d.1 d.2 = b := ⟨_, rfl⟩
 have hw : withB trivB d.1 d.2 = (bl && (bo && D.all f)) := by rw [hf]; unfold withB; rw [hD, hbo, hbl]
 have hl64 : D.length ≤ 64 := by rw [← hD]; exact psA_len _ _
 rw [hD, hbo] at L1
 rw [hD] at HPT HP1
 rw [hbo] at HPN
 rw [hbl] at L2
 have HQ := hid hw
 have HF := hid hf
 clear hW h hz hD hbo hbl hw hf
 go_enter Tryz.func12, Tryz.ntmps12
 go_wp2_with fail
 rw [← HW.out]
 refine L1.out.mono ?_
 rintro e w1 ⟨A, n, c, rfl, oD, bb⟩
 have zB : w.heap.size ≤ W.heap.size := bel.size
 replace bel := next_trans bel bb
 replace rA := rA.next bb
 obtain ⟨vs, G, hG⟩ := named oD
 have hn : D.length = n := oD.1
 have hn64 : n ≤ 64 := by omega
 have HN := hid hn
 have S0 := hid (show Fm w W.heap.size w1.heap.size a v A n c D vs G f 0 w1 from ⟨hG, rA, (fun i hi => absurd hi (Nat.not_lt_zero _)), bel, Nat.le_refl _⟩)
 clear k0 k1 L1 oD hn bb HW hG hl64
 cases bo with
 | false =>
  have F := hid (show AnsB w (withB trivB d.1 d.2) (.returned (.bool false)) w1 from ⟨by rw [HQ.out]; cases bl <;> rfl, bel⟩)
  clear bel rA
  go_wp2
  go_ret
  exact F.out
 | true =>
  have k0 : w1.cell? ⟨w.heap.size, 0, none⟩ = some a := rA.cell 0
  have k1 : w1.cell? ⟨w.heap.size, 1, none⟩ = some v := rA.cell 1
  go_wp2_with fail
  refine (L2.out _ bel).mono ?_
  rintro e w2 ⟨rfl, bb⟩
  replace bel := next_trans bel bb
  have S1 := hid (S0.out.next bb)
  clear k0 k1 L2 bb rA S0
  cases bl with
  | false =>
   have F := hid (show AnsB w (withB trivB d.1 d.2) (.returned (.bool false)) w2 from ⟨by rw [HQ.out]; rfl, bel⟩)
   clear bel
   go_wp2
   go_ret
   exact F.out
  | true =>
   clear bel
   go_wp2_with fail
   go_loopw [5] (fun i wr => ∃ j : Nat, i = .int .i64 (j : Int) ∧ j ≤ n ∧ Fm w W.heap.size w1.heap.size a v A n c D vs G f j wr) (fun i _ => n - (intOf i).toNat)
   case atStart => exact ⟨0, rfl, Nat.zero_le _, S1.out⟩
   case round =>
    clear S1
    obtain ⟨j, rfl, hjn', S⟩ := hrel
    by_cases hjn : j < n
    ·obtain ⟨g0, v0, v1, v2, rfl, -, -, ecs, ⟨c0, c1, c2, c3, c4, c5⟩, how⟩ := OwnG.peak S.d hjn
     have hrd := how.rd
     rw [ecs] at hrd
     obtain ⟨y, hy⟩ : ∃ y, D.getD j (dft sPeak) = y := ⟨_, rfl⟩
     have hmem : y ∈ D := by rw [← hy]; exact get_mem (by rw [HN.out]; exact hjn)
     rw [hy] at c3 c4 c5 hrd
     have i0 : (0 : Int) ≤ (j : Int) := by omega
     have i1 : (j : Int) < (n : Int) := by omega
     have HS := hid S
     have HY := hid hy
     have HL := hid (show Calls Tryz.prog 35 #[.agg #[v0, v1, v2, .int .i64 y.2.2.2.1, .int .i64 y.2.2.2.2.1, .int .i64 y.2.2.2.2.2]] wr (AnsB wr (trivB y)) from specTrivialPeak v0 v1 v2 y wr hrd (Nat.le_trans (HP1.out y hmem) (by decide)))
     obtain ⟨z, hz⟩ : ∃ z, f y = z := ⟨_, rfl⟩
     have HZ := hid hz
     have HLC : Hid (Calls Tryz.prog 35 #[.agg #[v0, v1, v2, .int .i64 y.2.2.2.1, .int .i64 y.2.2.2.2.1, .int .i64 y.2.2.2.2.2]] wr (AnsB wr z)) := hid (by rw [← hz, ← HF.out]; exact HL.out)
     clear S hy ecs how hrd hmem hz HL
     go_wp2_with fail
     refine HLC.out.mono ?_
     rintro e w3 ⟨rfl, b3⟩
     clear HLC c0 c1 c2 c3 c4 c5
     cases z with
     | false =>
      have F := hid (show AnsB w (withB trivB d.1 d.2) (.returned (.bool false)) w3 from ⟨by rw [HQ.out, all_miss (j := j) (by rw [HN.out]; exact hjn) (by rw [HY.out]; exact HZ.out)]; rfl, next_trans HS.out.b b3⟩)
      clear b3
      go_wp2
      go_ret
      exact F.out
     | true =>
      have S9 := hid (show Fm w W.heap.size w1.heap.size a v (some ⟨g0, 0, none⟩) n c D vs G f (j + 1) w3 from ⟨(HS.out.next b3).d, (HS.out.next b3).r, (fun i hi => by
       by_cases e : i = j
       ·rw [e, HY.out]; exact HZ.out
       ·exact HS.out.ok i (by omega)), (HS.out.next b3).b, (HS.out.next b3).sz⟩)
      clear b3
      go_wp2
      go_roundw
      case rel => exact ⟨j + 1, by simp, hjn, S9.out⟩
      case measure => simp [intOf]; omega
    ·have F := hid (show AnsB w (withB trivB d.1 d.2) (.returned (.bool true)) wr from ⟨by rw [HQ.out, all_yes (fun i hi => S.ok i (by rw [HN.out] at hi; omega))]; rfl, S.b⟩)
     clear S
     go_wp2
     go_ret
     exact F.out
theorem rd_caps {w : World} {B : Nat} {A0 A1 A2 : Option Addr} {n0 n1 n2 c0 c1 c2 : Nat} {x y z : Value} {p : Dat sPeak} (h : Rd w B sPeak [.slice A0 n0 c0, .slice A1 n1 c1, .slice A2 n2 c2, x, y, z] p) : Cap A1 n1 c1 ∧ Cap A2 n2 c2 := by
 obtain ⟨-, h1⟩ := Rd.split (ca := [.slice A0 n0 c0]) (cb := [.slice A1 n1 c1, .slice A2 n2 c2, x, y, z]) h rfl
 obtain ⟨h2, h1⟩ := Rd.split (ca := [.slice A1 n1 c1]) (cb := [.slice A2 n2 c2, x, y, z]) h1 rfl
 obtain ⟨h3, -⟩ := Rd.split (ca := [.slice A2 n2 c2]) (cb := [x, y, z]) h1 rfl
 obtain ⟨_, _, _, e2, -, k2⟩ := rd_ints.1 h2
 obtain ⟨_, _, _, e3, -, k3⟩ := rd_ints.1 h3
 injection e2 with e21 e22 e23
 injection e3 with e31 e32 e33
 subst e21 e22 e23 e31 e32 e33
 exact ⟨k2, k3⟩
set_option maxHeartbeats 4000000 in
theorem specClosedIn (a v : Value) (d : Dat sSystem) (w : World) (h : Rd w w.heap.size sSystem [a, v] d) (hz : sz sSystem d ≤ 1048576) :
  Calls Tryz.prog 14 #[.agg #[a, v]] w (AnsB w (withB (closB d.1 d.2) d.1 d.2)) := by
 obtain ⟨W, hW, rA, bel⟩ := box1 w 33 #[a, v]
 have k0 : W.cell? ⟨w.heap.size, 0, none⟩ = some a := rA.cell 0
 have k1 : W.cell? ⟨w.heap.size, 1, none⟩ = some v := rA.cell 1
 rw [hW] at k0 k1
 have HW := hid hW
 have L1 := hid (pksSpec.specPeaksOf a v d W (h.next bel) hz)
 have L2 := hid (fun (w1 : World) (bb : Below w.heap.size w w1) => specLeftLinearIn a v d w1 (h.next bb) hz)
 have HPT := hid (psA_terms (sg := d.1) (rs := d.2))
 have HP1 := hid (psA_one (sg := d.1) (rs := d.2))
 have HPN := hid (psB_sys (sg := d.1) (rs := d.2))
 have HRD := hid (And.intro h hz)
 obtain ⟨f, hf⟩ : ∃ f, (closB d.1 d.2) = f := ⟨_, rfl⟩
 obtain ⟨D, hD⟩ : ∃ D, psA d.1 d.2 = D := ⟨_, rfl⟩
 obtain ⟨bo, hbo⟩ : ∃ b, psB d.1 d.2 = b := ⟨_, rfl⟩
 obtain ⟨bl, hbl⟩ : ∃ b, leftLinB d.1 d.2 = b := ⟨_, rfl⟩
 have hw : withB (closB d.1 d.2) d.1 d.2 = (bl && (bo && D.all f)) := by rw [hf]; unfold withB; rw [hD, hbo, hbl]
 have hl64 : D.length ≤ 64 := by rw [← hD]; exact psA_len _ _
 rw [hD, hbo] at L1
 rw [hD] at HPT HP1
 rw [hbo] at HPN
 rw [hbl] at L2
 have HQ := hid hw
 have HF := hid hf
 clear hW h hz hD hbo hbl hw hf
 go_enter Tryz.func14, Tryz.ntmps14
 go_wp2_with fail
 rw [← HW.out]
 refine L1.out.mono ?_
 rintro e w1 ⟨A, n, c, rfl, oD, bb⟩
 have zB : w.heap.size ≤ W.heap.size := bel.size
 replace bel := next_trans bel bb
 replace rA := rA.next bb
 obtain ⟨vs, G, hG⟩ := named oD
 have hn : D.length = n := oD.1
 have hn64 : n ≤ 64 := by omega
 have HN := hid hn
 have S0 := hid (show Fm w W.heap.size w1.heap.size a v A n c D vs G f 0 w1 from ⟨hG, rA, (fun i hi => absurd hi (Nat.not_lt_zero _)), bel, Nat.le_refl _⟩)
 clear k0 k1 L1 oD hn bb HW hG hl64
 cases bo with
 | false =>
  have F := hid (show AnsB w (withB (closB d.1 d.2) d.1 d.2) (.returned (.bool false)) w1 from ⟨by rw [HQ.out]; cases bl <;> rfl, bel⟩)
  clear bel rA
  go_wp2
  go_ret
  exact F.out
 | true =>
  have k0 : w1.cell? ⟨w.heap.size, 0, none⟩ = some a := rA.cell 0
  have k1 : w1.cell? ⟨w.heap.size, 1, none⟩ = some v := rA.cell 1
  go_wp2_with fail
  refine (L2.out _ bel).mono ?_
  rintro e w2 ⟨rfl, bb⟩
  replace bel := next_trans bel bb
  have S1 := hid (S0.out.next bb)
  clear k0 k1 L2 bb rA S0
  cases bl with
  | false =>
   have F := hid (show AnsB w (withB (closB d.1 d.2) d.1 d.2) (.returned (.bool false)) w2 from ⟨by rw [HQ.out]; rfl, bel⟩)
   clear bel
   go_wp2
   go_ret
   exact F.out
  | true =>
   clear bel
   go_wp2_with fail
   go_loopw [5] (fun i wr => ∃ j : Nat, i = .int .i64 (j : Int) ∧ j ≤ n ∧ Fm w W.heap.size w1.heap.size a v A n c D vs G f j wr) (fun i _ => n - (intOf i).toNat)
   case atStart => exact ⟨0, rfl, Nat.zero_le _, S1.out⟩
   case round =>
    clear S1
    obtain ⟨j, rfl, hjn', S⟩ := hrel
    by_cases hjn : j < n
    ·obtain ⟨g0, v0, v1, v2, rfl, -, hg1, ecs, ⟨c0, c1, c2, c3, c4, c5⟩, how⟩ := OwnG.peak S.d hjn
     have hrd := how.rd
     rw [ecs] at hrd
     obtain ⟨y, hy⟩ : ∃ y, D.getD j (dft sPeak) = y := ⟨_, rfl⟩
     have hmem : y ∈ D := by rw [← hy]; exact get_mem (by rw [HN.out]; exact hjn)
     rw [hy] at c3 c4 c5 hrd
     have i0 : (0 : Int) ≤ (j : Int) := by omega
     have i1 : (j : Int) < (n : Int) := by omega
     have HS := hid S
     have HY := hid hy
     obtain ⟨A0, n0, cc0, A1, n1, cc1, A2, n2, cc2, rfl, rfl, rfl, -, sg1, sg2, -, hn1, hn2⟩ := rd_peak hrd (Nat.le_trans (HP1.out y hmem) (by decide))
     obtain ⟨cp1, cp2⟩ := rd_caps hrd
     have ht := HPT.out y hmem
     have oks := HPN.out trivial
     have bD : Below wr.heap.size wr wr.drew := (Below.refl _ _).drew
     have HL := hid (show Calls Tryz.prog 37 #[.agg #[a, v], .slice A1 n1 cc1, .slice A2 n2 cc2] wr.drew (AnsB wr.drew (closB d.1 d.2 y)) from l12Parallel a v d (fun b => b < wr.heap.size) HRD.out.2 oks (sig_arities (sys_parts oks).1).1 (y.2.1.length + 1) A1 A2 n1 n2 cc1 cc2 y.2.1 y.2.2.1 wr.drew (Nat.lt_succ_self _) (HRD.out.1.next (next_trans S.b bD)) (rdq_ints sg1 cp1) (rdq_ints sg2 cp2) (fun b hb => hb) hn1 hn2 (fo_term ht.2.1) (fo_term ht.2.2))
     have lt0 : w.heap.size < wr.heap.size := S.r.lt
     have lt1 : g0 < wr.heap.size := Nat.lt_of_lt_of_le hg1 S.sz
     obtain ⟨z, hz⟩ : ∃ z, f y = z := ⟨_, rfl⟩
     have HZ := hid hz
     have HLC : Hid (Calls Tryz.prog 37 #[.agg #[a, v], .slice A1 n1 cc1, .slice A2 n2 cc2] wr.drew (AnsB wr.drew z)) := hid (by rw [← hz, ← HF.out]; exact HL.out)
     clear S hy ecs how hrd hmem hz HL sg1 sg2 ht oks cp1 cp2
     have k0 : wr.cell? ⟨w.heap.size, 0, none⟩ = some a := HS.out.r.cell 0
     have k1 : wr.cell? ⟨w.heap.size, 1, none⟩ = some v := HS.out.r.cell 1
     go_wp2_with fail
     go_region_held3 (fun w' => w'.cell? ⟨w.heap.size, 0, none⟩ = some a ∧ w'.cell? ⟨w.heap.size, 1, none⟩ = some v ∧ w'.cell? ⟨g0, j * 6 + 1, none⟩ = some (.slice A1 n1 cc1) ∧ w'.cell? ⟨g0, j * 6 + 2, none⟩ = some (.slice A2 n2 cc2))
      (go_keep)
      (first
       | (go_at_call 37; refine HLC.out.mono ?_; rintro e w3 ⟨rfl, b3⟩; have k0' : w3.cell? ⟨w.heap.size, 0, none⟩ = some a := (b3.cell (p := ⟨w.heap.size, 0, none⟩) lt0).trans k0; have k1' : w3.cell? ⟨w.heap.size, 1, none⟩ = some v := (b3.cell (p := ⟨w.heap.size, 1, none⟩) lt0).trans k1; have c1' : w3.cell? ⟨g0, j * 6 + 1, none⟩ = some (.slice A1 n1 cc1) := (b3.cell (p := ⟨g0, j * 6 + 1, none⟩) lt1).trans c1; have c2' : w3.cell? ⟨g0, j * 6 + 2, none⟩ = some (.slice A2 n2 cc2) := (b3.cell (p := ⟨g0, j * 6 + 2, none⟩) lt1).trans c2))
     replace b3 := next_trans bD b3
     clear HLC c0 c1 c2 c3 c4 c5 k0 k1 k0' k1' c1' c2'
     cases z with
     | false =>
      have F := hid (show AnsB w (withB (closB d.1 d.2) d.1 d.2) (.returned (.bool false)) w3 from ⟨by rw [HQ.out, all_miss (j := j) (by rw [HN.out]; exact hjn) (by rw [HY.out]; exact HZ.out)]; rfl, next_trans HS.out.b b3⟩)
      clear b3
      go_wp2
      go_ret
      exact F.out
     | true =>
      have S9 := hid (show Fm w W.heap.size w1.heap.size a v (some ⟨g0, 0, none⟩) n c D vs G f (j + 1) w3 from ⟨(HS.out.next b3).d, (HS.out.next b3).r, (fun i hi => by
       by_cases e : i = j
       ·rw [e, HY.out]; exact HZ.out
       ·exact HS.out.ok i (by omega)), (HS.out.next b3).b, (HS.out.next b3).sz⟩)
      clear b3
      go_wp2
      go_roundw
      case rel => exact ⟨j + 1, by simp, hjn, S9.out⟩
      case measure => simp [intOf]; omega
    ·have F := hid (show AnsB w (withB (closB d.1 d.2) d.1 d.2) (.returned (.bool true)) wr from ⟨by rw [HQ.out, all_yes (fun i hi => S.ok i (by rw [HN.out] at hi; omega))]; rfl, S.b⟩)
     clear S
     go_wp2
     go_ret
     exact F.out
end formSpec
end
section
open Go.Lib (hid)
namespace formImpl
open Go.RowKit base ints sig term termOk termFacts marks app sym segs inside shape kindsR kindsP varsOf ruleMath ruleSpec ruleImpl peakMath peakSame forest pkAll pksMath pksAns pkTerms ownL drawX pickOwn rootSpec linWith formSpec parMath parSpec parX
set_option maxRecDepth 100000
theorem isNot (g : Nat) (lb : Array Value) (eg : ∀ args w, (callFunc g args).run Tryz.prog w = .ok (.enter g args) w) (f : Pk → Bool) (D : List Pk) (p : Nat) (w : World) (hp : Row w p 54 #[.func (.func g) #[] lb]) (hT : TestsD g lb w D f) :
  TestsD 55 #[.pointer (some ⟨p, 0, none⟩)] w D (fun y => !f y) := by
 intro W v0 v1 v2 y hy hW hr
 obtain ⟨WB, hWB, rB, bB⟩ := box1 W 38 #[v0, v1, v2, .int .i64 y.2.2.2.1, .int .i64 y.2.2.2.2.1, .int .i64 y.2.2.2.2.2]
 have kp : WB.cell? ⟨p, 0, none⟩ = some (.func (.func g) #[] lb) := ((hp.next hW).next bB).cell 0
 have LC := hid (hT WB v0 v1 v2 y hy (next_trans hW bB) (hr.next bB))
 have q0 : WB.cell? ⟨W.heap.size, 0, none⟩ = some v0 := rB.cell 0
 have q1 : WB.cell? ⟨W.heap.size, 1, none⟩ = some v1 := rB.cell 1
 have q2 : WB.cell? ⟨W.heap.size, 2, none⟩ = some v2 := rB.cell 2
 have q3 : WB.cell? ⟨W.heap.size, 3, none⟩ = some (.int .i64 y.2.2.2.1) := rB.cell 3
 have q4 : WB.cell? ⟨W.heap.size, 4, none⟩ = some (.int .i64 y.2.2.2.2.1) := rB.cell 4
 have q5 : WB.cell? ⟨W.heap.size, 5, none⟩ = some (.int .i64 y.2.2.2.2.2) := rB.cell 5
 rw [hWB] at kp q0 q1 q2 q3 q4 q5
 obtain ⟨z, hz⟩ : ∃ z, f y = z := ⟨_, rfl⟩
 show Calls _ _ _ W (Tells W (!f y))
 rw [hz] at LC ⊢
 have HW := hid hWB
 have HB := hid bB
 clear hWB rB bB hr hW hT hp hz hy
 go_enter Tryz.func55, Tryz.ntmps55
 go_wp2_with (first
  | (go_at_fn g; rw [← HW.out]; refine LC.out.mono ?_; rintro e w1 ⟨rfl, bb⟩))
 have F := hid (show Tells W (!z) (.returned (.bool (!z))) w1 from ⟨rfl, next_trans HB.out bb⟩)
 clear bb LC kp q0 q1 q2 q3 q4 q5
 go_wp2
 go_ret
 exact F.out
set_option maxHeartbeats 4000000 in
theorem leftLinearWith (g : Nat) (lb : Array Value) (eg : ∀ args w, (callFunc g args).run Tryz.prog w = .ok (.enter g args) w) (f : Pk → Bool) (a v : Value) (d : Dat sSystem) (w : World) (h : Rd w w.heap.size sSystem [a, v] d) (hz : sz sSystem d ≤ 1048576) (hT : TestsD g lb w (psA d.1 d.2) f) :
  Calls Tryz.prog 32 #[.agg #[a, v], .func (.func g) #[] lb] w (AnsB w (withB f d.1 d.2)) := by
 obtain ⟨W, hW, rA, rB, bel⟩ := box2 w 33 54 #[a, v] #[.func (.func g) #[] lb]
 have k0 : W.cell? ⟨w.heap.size, 0, none⟩ = some a := rA.cell 0
 have k1 : W.cell? ⟨w.heap.size, 1, none⟩ = some v := rA.cell 1
 have k2 : W.cell? ⟨w.heap.size + 1, 0, none⟩ = some (.func (.func g) #[] lb) := rB.cell 0
 rw [hW] at k0 k1 k2
 have HW := hid hW
 have L1 := hid (implLeftLinearIn a v d W (h.next bel) hz)
 have L2 := hid (fun (w1 : World) (bb : Below w.heap.size w w1) => iter.implPeaksOf a v d w1 (h.next bb) hz)
 have L3 := hid (fun (w1 : World) (bb : Below w.heap.size w w1) (rb : Row w1 (w.heap.size + 1) 54 #[.func (.func g) #[] lb]) => isNot g lb eg f (psA d.1 d.2) (w.heap.size + 1) w1 rb (hT.next bb))
 have HPN := hid (psA_no (sg := d.1) (rs := d.2))
 obtain ⟨D, hD⟩ : ∃ D, psA d.1 d.2 = D := ⟨_, rfl⟩
 obtain ⟨bo, hbo⟩ : ∃ b, psB d.1 d.2 = b := ⟨_, rfl⟩
 obtain ⟨bl, hbl⟩ : ∃ b, leftLinB d.1 d.2 = b := ⟨_, rfl⟩
 have hw : withB f d.1 d.2 = (bl && (bo && D.all f)) := by unfold withB; rw [hD, hbo, hbl]
 have hl64 : D.length ≤ 64 := by rw [← hD]; exact psA_len _ _
 rw [hD, hbo] at L2
 rw [hD] at L3 HPN
 rw [hbl] at L1
 have HQ := hid hw
 have hmf := makeFn
 clear hW h hz hD hbo hbl hw hT
 go_enter Tryz.func32, Tryz.ntmps32
 go_wp2_with fail
 rw [← HW.out]
 refine L1.out.mono ?_
 rintro e w1 ⟨rfl, bb⟩
 replace bel := next_trans bel bb
 replace rA := rA.next bb
 replace rB := rB.next bb
 clear k0 k1 k2 L1 bb HW
 cases bl with
 | false =>
  have F := hid (show AnsB w (withB f d.1 d.2) (.returned (.bool false)) w1 from ⟨by rw [HQ.out]; rfl, bel⟩)
  clear bel rA rB
  go_wp2
  go_ret
  exact F.out
 | true =>
  have k0 : w1.cell? ⟨w.heap.size, 0, none⟩ = some a := rA.cell 0
  have k1 : w1.cell? ⟨w.heap.size, 1, none⟩ = some v := rA.cell 1
  go_wp2_with fail
  refine (L2.out _ bel).mono ?_
  rintro e w2 ⟨A, n, c, rfl, oD, bb⟩
  have bel1 := next_trans bel bb
  replace rB := rB.next bb
  have zb := bb.size
  clear k0 k1 L2 rA bb
  cases bo with
  | false =>
   have F := hid (show AnsB w (withB f d.1 d.2) (.returned (.bool false)) w2 from ⟨by rw [HQ.out]; rfl, bel1⟩)
   clear bel bel1 rB oD
   go_wp2
   go_ret
   exact F.out
  | true =>
   obtain ⟨vs, G, hG⟩ := named oD
   have hn : D.length = n := oD.1
   have LC := hid (containsD 55 #[.pointer (some ⟨w.heap.size + 1, 0, none⟩)] (enters_of Tryz.func55 (by kernel_rfl) rfl) (fun y => !f y) A n c w1.heap.size w2.heap.size D vs G w2 (L3.out w2 bel1 rB) hG (Nat.le_refl _) (by omega))
   clear bel rB oD hG L3
   go_wp2_with fail
   refine LC.out.mono ?_
   rintro e w3 ⟨rfl, bb⟩
   obtain ⟨z, hz⟩ : ∃ z, (D.any fun y => !f y) = z := ⟨_, rfl⟩
   have F := hid (show AnsB w (withB f d.1 d.2) (.returned (.bool (!z))) w3 from ⟨by rw [HQ.out, ← not_any, hz]; rfl, next_trans bel1 bb⟩)
   rw [hz]
   clear bel1 bb LC hz
   go_wp2
   go_ret
   exact F.out
set_option maxHeartbeats 2000000 in
theorem closTest (p : Nat) (a v : Value) (d : Dat sSystem) (w : World) (hp : Row w p 33 #[a, v]) (h : Rd w w.heap.size sSystem [a, v] d) (hz : sz sSystem d ≤ 1048576) : TestsD 38 #[.pointer (some ⟨p, 0, none⟩)] w (psA d.1 d.2) (closB d.1 d.2) := by
 intro W v0 v1 v2 y hy hW hr
 obtain ⟨A0, n0, cc0, A1, n1, cc1, A2, n2, cc2, rfl, rfl, rfl, -, -, -, -, -, -⟩ := rd_peak hr (Nat.le_trans (psA_one y hy) (by decide))
 obtain ⟨WB, hWB, rB, bB⟩ := box1 W 38 #[.slice A0 n0 cc0, .slice A1 n1 cc1, .slice A2 n2 cc2, .int .i64 y.2.2.2.1, .int .i64 y.2.2.2.2.1, .int .i64 y.2.2.2.2.2]
 have hs := psA_terms y hy
 have oks : sysOkB d.1 d.2 = true := by
  cases hb : psB d.1 d.2 with
  | true => exact psB_sys hb
  | false => rw [psA_no hb] at hy; cases hy
 have hrB := hr.next bB
 obtain ⟨-, r1⟩ := Rd.split (ca := [.slice A0 n0 cc0]) (cb := [.slice A1 n1 cc1, .slice A2 n2 cc2, .int .i64 y.2.2.2.1, .int .i64 y.2.2.2.2.1, .int .i64 y.2.2.2.2.2]) hrB rfl
 obtain ⟨r2, r1⟩ := Rd.split (ca := [.slice A1 n1 cc1]) (cb := [.slice A2 n2 cc2, .int .i64 y.2.2.2.1, .int .i64 y.2.2.2.2.1, .int .i64 y.2.2.2.2.2]) r1 rfl
 obtain ⟨r3, -⟩ := Rd.split (ca := [.slice A2 n2 cc2]) (cb := [.int .i64 y.2.2.2.1, .int .i64 y.2.2.2.2.1, .int .i64 y.2.2.2.2.2]) r1 rfl
 have z2 : sz sI y.2.1 ≤ 1048576 := by rw [sz_ints]; have := (term_parts hs.2.1).2.1; omega
 have z3 : sz sI y.2.2.1 ≤ 1048576 := by rw [sz_ints]; have := (term_parts hs.2.2).2.1; omega
 have LC := hid (implParallelToX a v (.slice A1 n1 cc1) (.slice A2 n2 cc2) d y.2.1 y.2.2.1 WB (h.next (next_trans hW bB)) r2 r3 hz z2 z3)
 have hv : parToB d.1 d.2 y.2.1 y.2.2.1 = closB d.1 d.2 y := by rw [par_ok oks hs.2.1 hs.2.2]; rfl
 rw [hv] at LC
 obtain ⟨z, hz9⟩ : ∃ z, closB d.1 d.2 y = z := ⟨_, rfl⟩
 rw [hz9] at LC ⊢
 have p0 : WB.cell? ⟨p, 0, none⟩ = some a := ((hp.next hW).next bB).cell 0
 have p1 : WB.cell? ⟨p, 1, none⟩ = some v := ((hp.next hW).next bB).cell 1
 have q1 : WB.cell? ⟨W.heap.size, 1, none⟩ = some (.slice A1 n1 cc1) := rB.cell 1
 have q2 : WB.cell? ⟨W.heap.size, 2, none⟩ = some (.slice A2 n2 cc2) := rB.cell 2
 rw [hWB] at p0 p1 q1 q2
 have HW := hid hWB
 have HB := hid bB
 clear hWB rB bB hr hW hp hy hrB r1 r2 r3 h hs oks hv z2 z3 hz hz9
 go_enter Tryz.func38, Tryz.ntmps38
 go_wp2_with fail
 rw [← HW.out]
 refine LC.out.mono ?_
 rintro e w1 ⟨rfl, bb⟩
 have F := hid (show Tells W z (.returned (.bool z)) w1 from ⟨rfl, next_trans HB.out bb⟩)
 clear bb LC p0 p1 q1 q2
 go_wp2
 go_ret
 exact F.out
set_option maxHeartbeats 2000000 in
theorem implClosedIn (a v : Value) (d : Dat sSystem) (w : World) (h : Rd w w.heap.size sSystem [a, v] d) (hz : sz sSystem d ≤ 1048576) :
  Calls Tryz.prog 15 #[.agg #[a, v]] w (AnsB w (withB (closB d.1 d.2) d.1 d.2)) := by
 obtain ⟨W, hW, rA, bel⟩ := box1 w 33 #[a, v]
 have k0 : W.cell? ⟨w.heap.size, 0, none⟩ = some a := rA.cell 0
 have k1 : W.cell? ⟨w.heap.size, 1, none⟩ = some v := rA.cell 1
 rw [hW] at k0 k1
 have HW := hid hW
 have L := hid (leftLinearWith 38 #[.pointer (some ⟨w.heap.size, 0, none⟩)] (enters_of Tryz.func38 (by kernel_rfl) rfl) (closB d.1 d.2) a v d W (h.next bel) hz (closTest w.heap.size a v d W rA (h.next bel) hz))
 have HB := hid bel
 obtain ⟨z, hz9⟩ : ∃ z, withB (closB d.1 d.2) d.1 d.2 = z := ⟨_, rfl⟩
 rw [hz9] at L ⊢
 have hmf := makeFn
 clear hW h hz rA bel hz9
 go_enter Tryz.func15, Tryz.ntmps15
 go_wp2_with fail
 rw [← HW.out]
 refine L.out.mono ?_
 rintro e w1 ⟨rfl, bb⟩
 have F := hid (next_trans HB.out bb)
 clear bb L k0 k1
 go_wp2
 go_ret
 exact ⟨rfl, F.out⟩
end formImpl
end
section
namespace wClosedIn
open Go.RowKit base ints sig cursor marks app sym appAt segs segsHelp segsMark kinds shape varsOf kindsR kindsP ruleMath ruleSpec pkAll pksMath linWith formSpec formImpl
set_option maxRecDepth 100000
set_option maxHeartbeats 8000000 in
theorem law (v0_0 v0_1 : Value) (d0 : Dat sSystem) (w : World) (s0 : Rd w w.heap.size sSystem [v0_0, v0_1] d0) :
  Calls Tryz.prog 5 #[.agg #[v0_0, v0_1]] w (Fine w) := by
 obtain ⟨W, hW⟩ : ∃ W, W = w.alloc (.cells #[v0_0, v0_1] 27) := ⟨_, rfl⟩
 have rA0 : Row W (w.heap.size) 27 #[v0_0, v0_1] := by rw [hW]; have := Row.new (w) 27 #[v0_0, v0_1]; simpa using this
 have bW : Below w.heap.size w W := by rw [hW]; exact (Below.refl w.heap.size w).alloc (by simp) (.cells #[v0_0, v0_1] 27)
 have zA0 := rA0.lt
 replace s0 := s0.next bW
 have HW := Lib.hid hW
 clear hW
 obtain ⟨t0, ht0⟩ : ∃ z, sz sSystem d0 = z := ⟨_, rfl⟩
 have HT0 := Lib.hid ht0
 clear ht0
 obtain ⟨v, hv⟩ : ∃ v, withB (closB d0.1 d0.2) d0.1 d0.2 = v := ⟨_, rfl⟩
 have HV := Lib.hid hv
 clear hv
 have ev : (v != v) = false := by simp
 go_enter Tryz.func5, Tryz.ntmps5
 go_wp2_with fail
 rw [← HW.out]
 clear HW
 have bel := Below.refl W.heap.size W
 have cA0_0 : W.cell? ⟨w.heap.size, 0, none⟩ = some (v0_0) := (rA0.next bel).cell 0
 have cA0_1 : W.cell? ⟨w.heap.size, 1, none⟩ = some (v0_1) := (rA0.next bel).cell 1
 refine (szK_System _ _ d0 (1048576) _ (s0.next bel) (by omega) (by omega)).mono ?_
 rintro e w1 ⟨he, bb⟩
 rw [HT0.out] at he
 replace bel := next_trans bel bb
 have zw1 := bb.size
 clear bb
 by_cases q0 : t0 ≤ 1048576
 case neg =>
  rw [if_pos (by omega)] at he
  subst he
  have F := Lib.hid (bW.trans (bel.mono bW.size))
  clear bel bW cA0_0 cA0_1
  go_wp2
  go_ret
  exact ⟨rfl, F.out⟩
 rw [if_neg (by omega)] at he
 subst he
 have h0 : Hid (sz sSystem d0 ≤ 1048576) := Lib.hid (by rw [HT0.out]; omega)
 clear cA0_0 cA0_1
 have cA0_0 : w1.cell? ⟨w.heap.size, 0, none⟩ = some (v0_0) := (rA0.next bel).cell 0
 have cA0_1 : w1.cell? ⟨w.heap.size, 1, none⟩ = some (v0_1) := (rA0.next bel).cell 1
 go_wp2_with fail
 refine (toK_System _ _ d0 _ (s0.next bel) h0.out).mono ?_
 rintro e w2 ⟨p0A0, p0n0, p0c0, p0A1, p0n1, p0c1, rfl, op0, bb⟩
 replace bel := next_trans bel bb
 have zw2 := bb.size
 clear bb
 clear cA0_0 cA0_1
 have cA0_0 : w2.cell? ⟨w.heap.size, 0, none⟩ = some (v0_0) := (rA0.next bel).cell 0
 have cA0_1 : w2.cell? ⟨w.heap.size, 1, none⟩ = some (v0_1) := (rA0.next bel).cell 1
 go_wp2_with fail
 refine (specClosedIn _ _ d0 _ op0.rd h0.out).mono ?_
 rintro e w3 ⟨he, bb⟩
 rw [HV.out] at he
 subst he
 replace op0 := op0.next bb
 replace bel := next_trans bel bb
 have zw3 := bb.size
 clear bb
 clear op0
 clear cA0_0 cA0_1
 have cA0_0 : w3.cell? ⟨w.heap.size, 0, none⟩ = some (v0_0) := (rA0.next bel).cell 0
 have cA0_1 : w3.cell? ⟨w.heap.size, 1, none⟩ = some (v0_1) := (rA0.next bel).cell 1
 clear cA0_0 cA0_1
 have cA0_0 : w3.cell? ⟨w.heap.size, 0, none⟩ = some (v0_0) := (rA0.next bel).cell 0
 have cA0_1 : w3.cell? ⟨w.heap.size, 1, none⟩ = some (v0_1) := (rA0.next bel).cell 1
 go_wp2_with fail
 refine (toK_System _ _ d0 _ (s0.next bel) h0.out).mono ?_
 rintro e w4 ⟨x0A0, x0n0, x0c0, x0A1, x0n1, x0c1, rfl, ox0, bb⟩
 replace bel := next_trans bel bb
 have zw4 := bb.size
 clear bb
 clear cA0_0 cA0_1
 have cA0_0 : w4.cell? ⟨w.heap.size, 0, none⟩ = some (v0_0) := (rA0.next bel).cell 0
 have cA0_1 : w4.cell? ⟨w.heap.size, 1, none⟩ = some (v0_1) := (rA0.next bel).cell 1
 have dA0_0 : (w4.alloc (.cells #[.slice x0A0 x0n0 x0c0, .slice x0A1 x0n1 x0c1] 33)).cell? ⟨w.heap.size, 0, none⟩ = some (v0_0) := ((rA0.next bel).alloc _).cell 0
 have dA0_1 : (w4.alloc (.cells #[.slice x0A0 x0n0 x0c0, .slice x0A1 x0n1 x0c1] 33)).cell? ⟨w.heap.size, 1, none⟩ = some (v0_1) := ((rA0.next bel).alloc _).cell 1
 go_wp2_with fail
 obtain ⟨w5, hw⟩ : ∃ W, W = w4.alloc (.cells #[.slice x0A0 x0n0 x0c0, .slice x0A1 x0n1 x0c1] 33) := ⟨_, rfl⟩
 rw [← hw]
 have rx0 : Row w5 w4.heap.size 33 #[.slice x0A0 x0n0 x0c0, .slice x0A1 x0n1 x0c1] := by rw [hw]; exact Row.new _ _ _
 have bb : Below w4.heap.size w4 w5 := by rw [hw]; exact (Below.refl _ _).alloc (Nat.le_refl _) _
 have yrx0 : w4.heap.size < w5.heap.size := by rw [hw]; simp
 clear hw
 replace ox0 := ox0.next bb
 replace bel := next_trans bel bb
 have zw5 := bb.size
 clear bb
 clear dA0_0 dA0_1
 clear cA0_0 cA0_1
 have cA0_0 : w5.cell? ⟨w.heap.size, 0, none⟩ = some (v0_0) := (rA0.next bel).cell 0
 have cA0_1 : w5.cell? ⟨w.heap.size, 1, none⟩ = some (v0_1) := (rA0.next bel).cell 1
 have cx0_0 : w5.cell? ⟨w4.heap.size, 0, none⟩ = some (.slice x0A0 x0n0 x0c0) := (rx0).cell 0
 have cx0_1 : w5.cell? ⟨w4.heap.size, 1, none⟩ = some (.slice x0A1 x0n1 x0c1) := (rx0).cell 1
 refine (implClosedIn _ _ d0 _ ox0.rd h0.out).mono ?_
 rintro e w6 ⟨he, bb⟩
 rw [HV.out] at he
 subst he
 replace ox0 := ox0.next bb
 replace rx0 := rx0.next bb
 replace bel := next_trans bel bb
 have zw6 := bb.size
 clear bb
 clear cA0_0 cA0_1 cx0_0 cx0_1
 have cA0_0 : w6.cell? ⟨w.heap.size, 0, none⟩ = some (v0_0) := (rA0.next bel).cell 0
 have cA0_1 : w6.cell? ⟨w.heap.size, 1, none⟩ = some (v0_1) := (rA0.next bel).cell 1
 have cx0_0 : w6.cell? ⟨w4.heap.size, 0, none⟩ = some (.slice x0A0 x0n0 x0c0) := (rx0).cell 0
 have cx0_1 : w6.cell? ⟨w4.heap.size, 1, none⟩ = some (.slice x0A1 x0n1 x0c1) := (rx0).cell 1
 go_wp2_with fail
 replace ox0 := ox0.drew
 replace rx0 := rx0.drew
 replace bel := bel.drew
 have zdw6 := (drew_below w6).size
 go_region_held3 (fun w' => w'.cell? ⟨w4.heap.size, 0, none⟩ = some (.slice x0A0 x0n0 x0c0) ∧ w'.cell? ⟨w4.heap.size, 1, none⟩ = some (.slice x0A1 x0n1 x0c1) ∧ w'.cell? ⟨w.heap.size, 0, none⟩ = some (v0_0) ∧ w'.cell? ⟨w.heap.size, 1, none⟩ = some (v0_1))
  (go_keep)
  (first
   | (go_at_call 9; refine (toK_System _ _ d0 _ (s0.next bel) h0.out).mono ?_; rintro e w7 ⟨t0A0, t0n0, t0c0, t0A1, t0n1, t0c1, rfl, ot, bb⟩; replace ox0 := ox0.next bb; replace rx0 := rx0.next bb; replace bel := next_trans bel bb; have k0_0w7 : w7.cell? ⟨w.heap.size, 0, none⟩ = some (v0_0) := (rA0.next bel).cell 0; have k0_1w7 : w7.cell? ⟨w.heap.size, 1, none⟩ = some (v0_1) := (rA0.next bel).cell 1; have l0_0w7 : w7.cell? ⟨w4.heap.size, 0, none⟩ = some (.slice x0A0 x0n0 x0c0) := rx0.cell 0; have l0_1w7 : w7.cell? ⟨w4.heap.size, 1, none⟩ = some (.slice x0A1 x0n1 x0c1) := rx0.cell 1; have zqw7 := bb.size; clear bb)
   | (go_at_call 11; refine (eqK_System _ _ _ _ d0 _ ox0.rd ot.rd h0.out).mono ?_; rintro e w8 ⟨rfl, bb⟩; replace ox0 := ox0.next bb; replace rx0 := rx0.next bb; replace bel := next_trans bel bb; have k0_0w8 : w8.cell? ⟨w.heap.size, 0, none⟩ = some (v0_0) := (rA0.next bel).cell 0; have k0_1w8 : w8.cell? ⟨w.heap.size, 1, none⟩ = some (v0_1) := (rA0.next bel).cell 1; have l0_0w8 : w8.cell? ⟨w4.heap.size, 0, none⟩ = some (.slice x0A0 x0n0 x0c0) := rx0.cell 0; have l0_1w8 : w8.cell? ⟨w4.heap.size, 1, none⟩ = some (.slice x0A1 x0n1 x0c1) := rx0.cell 1; have zqw8 := bb.size; clear bb ot))
 clear k0_0w7 l0_0w7 k0_1w7 l0_1w7 k0_0w8 l0_0w8 k0_1w8 l0_1w8
 clear ox0 rx0
 clear cA0_0 cA0_1 cx0_0 cx0_1
 have cA0_0 : w8.cell? ⟨w.heap.size, 0, none⟩ = some (v0_0) := (rA0.next bel).cell 0
 have cA0_1 : w8.cell? ⟨w.heap.size, 1, none⟩ = some (v0_1) := (rA0.next bel).cell 1
 have F := Lib.hid (bW.trans (bel.mono bW.size))
 clear bel bW cA0_0 cA0_1
 go_wp2
 go_ret
 exact ⟨rfl, F.out⟩
end wClosedIn
end
end Go.Proofs.YtlmofkeemlfpgaaGreat
