/-
  MERGED: my texts RuleImplB, StepImplB, PathSpec, WayTo, Place, PeakMath, KindsP, PeakSame, StepsMath, OwnL, StepSpecB, PeakSpec, TrySpec, OvImpl, LinkImpl, OvStart, RenImpl, OvAdd, FinMath, Done, one behind the other, as they are. By an AI agent.
-/
import Derived.Test.YtfmjhfodjhkmlaaMFnExactOverlapsIn4
import Derived.Deep.LoopGhost
import Derived.Deep.RegionHeld3
import Derived.Maps.Own
import Derived.Maps.OwnOps
import Derived.Maps.OwnSet
import Derived.Maps.Views
import Derived.Maps.Keyed
import Derived.WalkArith
namespace Go.Proofs.Ytfmjhfodjhkmlaa
section
open Go.Lib (hid)
namespace ruleImpl
open Go.RowKit base ints sig term termOk marks app sym segs termFacts varsMath varsOf rename same count linear shape kindsR ruleMath ruleSpec anyR
set_option maxRecDepth 100000
def sysV (a v : Value) (ok : Bool) : Value := if ok = true then .agg #[a, v] else .agg #[.slice none 0 0, .slice none 0 0]
def AnsSys (w : World) (a v : Value) (ok : Bool) (e : Ending) (w' : World) : Prop := e = .returned (.tuple #[sysV a v ok, .bool ok]) ∧ Below w.heap.size w w'
def HeadSO (w : World) (T T' : TypeId) (cs cs' : Array Value) (n : Nat) (f : Rl → Bool) (rs : List Rl) (i : Value) (wr : World) : Prop :=
 ∃ k : Nat, k ≤ n ∧ i = .int .i64 k ∧ (∀ j, j < k → f (rs.getD j ([], [])) = true) ∧ Row wr w.heap.size T cs ∧ Row wr (w.heap.size + 1) T' cs' ∧ Below w.heap.size w wr
theorem headSO_step {w wr : World} {T T' : TypeId} {cs cs' : Array Value} {n k : Nat} {f : Rl → Bool} {rs : List Rl} {x : Rl} (hk : k < n) (hlow : ∀ j, j < k → f (rs.getD j ([], [])) = true) (ex : Hid (rs.getD k ([], []) = x)) (h : f x = true) (hr : Row wr w.heap.size T cs) (hr' : Row wr (w.heap.size + 1) T' cs') (hb : Below w.heap.size w wr) : HeadSO w T T' cs cs' n f rs (.int .i64 ((k : Int) + 1)) wr :=
 ⟨k + 1, hk, by simp, fun j hj => by
  by_cases e : j = k
  ·subst e; rw [ex.out]; exact h
  ·exact hlow j (by omega), hr, hr', hb⟩
set_option maxHeartbeats 8000000 in
theorem systemOf (a v : Value) (d : Dat sSystem) (w : World) (h : Rd w w.heap.size sSystem [a, v] d) (hz : sz sSystem d ≤ 1048576) :
  Calls Try.prog 35 #[.agg #[a, v]] w (AnsSys w a v (sysOkB d.1 d.2)) := by
 have hzs := hid (sys_szs hz)
 obtain ⟨A, n, c, V, m, cv, rfl, rfl, hs, hc, hcv, hm, hn, hm1, hrs, hsg, hE⟩ := rd_sys h hz
 obtain ⟨W, hW, rA, rR, bel⟩ := box2 w 33 64 #[.slice A n c, .slice V m cv] #[.slice none 0 0, .slice none 0 0]
 have HW := hid hW
 have HM := hid hm
 have HE := hid hE
 have HR := hid hrs
 have L1 := hid (implSigOk A n c d.1 W (hs.next bel) hn)
 have LR := hid (fun (w1 : World) (l r : Value) (x : Dat sRule) (bb : Below w.heap.size w w1) (hx : Rd w1 w1.heap.size sRule [l, r] x) (hzx : sz sRule x ≤ 1048576) => implRuleOk (.slice A n c) l r d.1 x w1 (hsg.next bb) hx hzs.out.1 hzx)
 clear hW h hz hs hc hcv hm hE hrs hsg
 cases ok1 : sigOkB d.1 with
 | false =>
  have HS := hid ok1
  clear ok1
  go_enter Try.func35, Try.ntmps35
  go_wp2_with fail
  rw [← HW.out]
  refine L1.out.mono ?_
  rintro e w1 ⟨he, bb⟩
  rw [HS.out] at he
  subst he
  replace rR := rR.next bb
  replace bel := next_trans bel bb
  have y0 : w1.cell? ⟨w.heap.size + 1, 0, none⟩ = some (.slice none 0 0) := rR.cell 0
  have y1 : w1.cell? ⟨w.heap.size + 1, 1, none⟩ = some (.slice none 0 0) := rR.cell 1
  have f0 := rR.free 0
  have f1 := rR.free 1
  have r1 := rR.put 0 (.slice none 0 0)
  have y2 : (w1.setCell ⟨w.heap.size + 1, 0, none⟩ (.slice none 0 0)).cell? ⟨w.heap.size + 1, 1, none⟩ = some (.slice none 0 0) := r1.cell 1
  have f2 := r1.free 1
  have r2 := r1.put 1 (.slice none 0 0)
  have u0 : ((w1.setCell ⟨w.heap.size + 1, 0, none⟩ (.slice none 0 0)).setCell ⟨w.heap.size + 1, 1, none⟩ (.slice none 0 0)).cell? ⟨w.heap.size + 1, 0, none⟩ = some (.slice none 0 0) := r2.cell 0
  have u1 : ((w1.setCell ⟨w.heap.size + 1, 0, none⟩ (.slice none 0 0)).setCell ⟨w.heap.size + 1, 1, none⟩ (.slice none 0 0)).cell? ⟨w.heap.size + 1, 1, none⟩ = some (.slice none 0 0) := r2.cell 1
  have F : AnsSys w (.slice A n c) (.slice V m cv) (sysOkB d.1 d.2) (.returned (.tuple #[.agg #[.slice none 0 0, .slice none 0 0], .bool false])) ((w1.setCell ⟨w.heap.size + 1, 0, none⟩ (.slice none 0 0)).setCell ⟨w.heap.size + 1, 1, none⟩ (.slice none 0 0)) :=
   ⟨by rw [sys_sig HS.out]; rfl, (bel.setCell (by simp) _).setCell (by simp) _⟩
  have HF := hid F
  clear F bel rA rR bb r1 r2 LR
  go_wp2
  exact bodyPost_ret (v := .tuple #[.agg #[.slice none 0 0, .slice none 0 0], .bool false]) (by simp [results, Try.results35, go_sem, u0, u1]) rfl HF.out
 | true =>
  have HS := hid ok1
  clear ok1
  go_enter Try.func35, Try.ntmps35
  go_wp2_with fail
  rw [← HW.out]
  refine L1.out.mono ?_
  rintro e w1 ⟨he, bb⟩
  rw [HS.out] at he
  subst he
  replace rA := rA.next bb
  replace rR := rR.next bb
  replace bel := next_trans bel bb
  have cR : w1.cell? ⟨w.heap.size, 1, none⟩ = some (.slice V m cv) := rA.cell 1
  clear bb L1
  by_cases h12 : m ≤ 12
  ·have H0 : Hid (HeadSO w 33 64 #[.slice A n c, .slice V m cv] #[.slice none 0 0, .slice none 0 0] m (ruleOkB d.1) d.2 (.int .i64 0) w1) := hid ⟨0, Nat.zero_le _, rfl, fun j hj => absurd hj (Nat.not_lt_zero _), rA, rR, bel⟩
   clear rA rR bel
   go_wp2_with fail
   go_loopw [20] (fun i wr => HeadSO w 33 64 #[.slice A n c, .slice V m cv] #[.slice none 0 0, .slice none 0 0] m (ruleOkB d.1) d.2 i wr) (fun i _ => m - (intOf i).toNat)
   case atStart => exact H0.out
   case round =>
    obtain ⟨k, hk, rfl, hlow, rr, rs, hb⟩ := hrel
    have HLOW := hid hlow
    clear hlow H0 cR
    have cA0 : wr.cell? ⟨w.heap.size, 0, none⟩ = some (.slice A n c) := rr.cell 0
    have cA1 : wr.cell? ⟨w.heap.size, 1, none⟩ = some (.slice V m cv) := rr.cell 1
    by_cases hlt : k < m
    ·obtain ⟨b, off, l, r, x, rfl, hbB, ex, hc0, hc1, hx⟩ := rd_at HR.out hb HM.out hlt
     have hzx : sz sRule x ≤ 1048576 := by have := HE.out k hlt; rw [ex.out] at this; exact this
     obtain ⟨A1, n1, c1, A2, n2, c2, rfl, rfl, s1, k1, s2, k2, hn1, hn2⟩ := rd_rule hx hzx
     obtain ⟨w2, hw2⟩ : ∃ x, x = wr.alloc (.cells #[.slice A1 n1 c1, .slice A2 n2 c2] 59) := ⟨_, rfl⟩
     have bb : Below wr.heap.size wr w2 := by rw [hw2]; exact (Below.refl _ _).alloc (Nat.le_refl _) _
     have rx : Row w2 wr.heap.size 59 #[.slice A1 n1 c1, .slice A2 n2 c2] := by rw [hw2]; exact Row.new wr 59 #[.slice A1 n1 c1, .slice A2 n2 c2]
     have rr2 := rr.next bb
     have rs2 := rs.next bb
     have hb2 := next_trans hb bb
     have L := hid (LR.out w2 (.slice A1 n1 c1) (.slice A2 n2 c2) x hb2 ((hx.more hb.size).next bb) hzx)
     have x0 : w2.cell? ⟨wr.heap.size, 0, none⟩ = some (.slice A1 n1 c1) := rx.cell 0
     have x1 : w2.cell? ⟨wr.heap.size, 1, none⟩ = some (.slice A2 n2 c2) := rx.cell 1
     have x2 : w2.cell? ⟨w.heap.size, 0, none⟩ = some (.slice A n c) := rr2.cell 0
     have X0 := x0
     have X1 := x1
     have X2 := x2
     rw [hw2] at X0 X1 X2
     have HW2 := hid hw2
     have i0 : (0 : Int) ≤ (k : Int) := by omega
     have i1 : (k : Int) < (m : Int) := by omega
     clear hx hzx s1 s2 k1 k2 rr rs hb bb rx hw2
     go_wp2_with fail
     rw [← HW2.out]
     refine L.out.mono ?_
     cases ok : ruleOkB d.1 x with
     | false =>
      have HO := hid ok
      clear ok
      rintro e w3 ⟨he, bb⟩
      subst he
      have rR := rs2.next bb
      have bel := next_trans hb2 bb
      have y0 : w3.cell? ⟨w.heap.size + 1, 0, none⟩ = some (.slice none 0 0) := rR.cell 0
      have y1 : w3.cell? ⟨w.heap.size + 1, 1, none⟩ = some (.slice none 0 0) := rR.cell 1
      have f0 := rR.free 0
      have f1 := rR.free 1
      have r1 := rR.put 0 (.slice none 0 0)
      have y2 : (w3.setCell ⟨w.heap.size + 1, 0, none⟩ (.slice none 0 0)).cell? ⟨w.heap.size + 1, 1, none⟩ = some (.slice none 0 0) := r1.cell 1
      have f2 := r1.free 1
      have r2 := r1.put 1 (.slice none 0 0)
      have u0 : ((w3.setCell ⟨w.heap.size + 1, 0, none⟩ (.slice none 0 0)).setCell ⟨w.heap.size + 1, 1, none⟩ (.slice none 0 0)).cell? ⟨w.heap.size + 1, 0, none⟩ = some (.slice none 0 0) := r2.cell 0
      have u1 : ((w3.setCell ⟨w.heap.size + 1, 0, none⟩ (.slice none 0 0)).setCell ⟨w.heap.size + 1, 1, none⟩ (.slice none 0 0)).cell? ⟨w.heap.size + 1, 1, none⟩ = some (.slice none 0 0) := r2.cell 1
      have F : AnsSys w (.slice A n c) (.slice (some ⟨b, off, none⟩) m cv) (sysOkB d.1 d.2) (.returned (.tuple #[.agg #[.slice none 0 0, .slice none 0 0], .bool false])) ((w3.setCell ⟨w.heap.size + 1, 0, none⟩ (.slice none 0 0)).setCell ⟨w.heap.size + 1, 1, none⟩ (.slice none 0 0)) :=
       ⟨by rw [sys_bad (k := k) (by rw [HM.out]; exact hlt) (by rw [ex.out]; exact HO.out)]; rfl, (bel.setCell (by simp) _).setCell (by simp) _⟩
      have HF := hid F
      clear F bel rR bb r1 r2 LR rr2 rs2 hb2 x0 x1 x2 X0 X1 X2 cA0 cA1 hc0 hc1 L
      go_wp2
      exact bodyPost_ret (v := .tuple #[.agg #[.slice none 0 0, .slice none 0 0], .bool false]) (by simp [results, Try.results35, go_sem, u0, u1]) rfl HF.out
     | true =>
      have HO := hid ok
      clear ok
      rintro e w3 ⟨he, bb⟩
      subst he
      have F := hid (headSO_step (f := ruleOkB d.1) (w := w) hlt HLOW.out ex HO.out (rr2.next bb) (rs2.next bb) (next_trans hb2 bb))
      clear bb rr2 rs2 hb2 L x0 x1 x2 X0 X1 X2 cA0 cA1 hc0 hc1
      go_wp2
      go_roundw
      case rel => exact F.out
      case measure => simp [intOf]; omega
    ·have OK := hid (show sysOkB d.1 d.2 = true from sys_good HS.out (by rw [HM.out]; exact h12) (fun j hj => HLOW.out j (by rw [HM.out] at hj; omega)))
     have y0 : wr.cell? ⟨w.heap.size + 1, 0, none⟩ = some (.slice none 0 0) := rs.cell 0
     have f0 := rs.free 0
     have r1 := rs.put 0 (.slice A n c)
     have y2 : (wr.setCell ⟨w.heap.size + 1, 0, none⟩ (.slice A n c)).cell? ⟨w.heap.size + 1, 1, none⟩ = some (.slice none 0 0) := r1.cell 1
     have f2 := r1.free 1
     have r2 := r1.put 1 (.slice V m cv)
     have u0 : ((wr.setCell ⟨w.heap.size + 1, 0, none⟩ (.slice A n c)).setCell ⟨w.heap.size + 1, 1, none⟩ (.slice V m cv)).cell? ⟨w.heap.size + 1, 0, none⟩ = some (.slice A n c) := r2.cell 0
     have u1 : ((wr.setCell ⟨w.heap.size + 1, 0, none⟩ (.slice A n c)).setCell ⟨w.heap.size + 1, 1, none⟩ (.slice V m cv)).cell? ⟨w.heap.size + 1, 1, none⟩ = some (.slice V m cv) := r2.cell 1
     have F : AnsSys w (.slice A n c) (.slice V m cv) (sysOkB d.1 d.2) (.returned (.tuple #[.agg #[.slice A n c, .slice V m cv], .bool true])) ((wr.setCell ⟨w.heap.size + 1, 0, none⟩ (.slice A n c)).setCell ⟨w.heap.size + 1, 1, none⟩ (.slice V m cv)) :=
      ⟨by rw [OK.out]; rfl, (hb.setCell (by simp) _).setCell (by simp) _⟩
     have HF := hid F
     clear F hb rr rs r1 r2 LR
     go_wp2
     exact bodyPost_ret (v := .tuple #[.agg #[.slice A n c, .slice V m cv], .bool true]) (by simp [results, Try.results35, go_sem, u0, u1]) rfl HF.out
  ·have i1 : (12 : Int) < (m : Int) := by omega
   have y0 : w1.cell? ⟨w.heap.size + 1, 0, none⟩ = some (.slice none 0 0) := rR.cell 0
   have y1 : w1.cell? ⟨w.heap.size + 1, 1, none⟩ = some (.slice none 0 0) := rR.cell 1
   have f0 := rR.free 0
   have f1 := rR.free 1
   have r1 := rR.put 0 (.slice none 0 0)
   have y2 : (w1.setCell ⟨w.heap.size + 1, 0, none⟩ (.slice none 0 0)).cell? ⟨w.heap.size + 1, 1, none⟩ = some (.slice none 0 0) := r1.cell 1
   have f2 := r1.free 1
   have r2 := r1.put 1 (.slice none 0 0)
   have u0 : ((w1.setCell ⟨w.heap.size + 1, 0, none⟩ (.slice none 0 0)).setCell ⟨w.heap.size + 1, 1, none⟩ (.slice none 0 0)).cell? ⟨w.heap.size + 1, 0, none⟩ = some (.slice none 0 0) := r2.cell 0
   have u1 : ((w1.setCell ⟨w.heap.size + 1, 0, none⟩ (.slice none 0 0)).setCell ⟨w.heap.size + 1, 1, none⟩ (.slice none 0 0)).cell? ⟨w.heap.size + 1, 1, none⟩ = some (.slice none 0 0) := r2.cell 1
   have F : AnsSys w (.slice A n c) (.slice V m cv) (sysOkB d.1 d.2) (.returned (.tuple #[.agg #[.slice none 0 0, .slice none 0 0], .bool false])) ((w1.setCell ⟨w.heap.size + 1, 0, none⟩ (.slice none 0 0)).setCell ⟨w.heap.size + 1, 1, none⟩ (.slice none 0 0)) :=
    ⟨by rw [sys_long HM.out h12]; rfl, (bel.setCell (by simp) _).setCell (by simp) _⟩
   have HF := hid F
   clear F bel rA rR r1 r2 LR
   go_wp2
   exact bodyPost_ret (v := .tuple #[.agg #[.slice none 0 0, .slice none 0 0], .bool false]) (by simp [results, Try.results35, go_sem, u0, u1]) rfl HF.out
end ruleImpl
end
section
namespace stepImpl
open Go.RowKit base ints sig term termOk endAt inside marks app sym sub segs segsHelp kinds termFacts termMath posMath plainMath gives Go.Proofs.Ytfmjhfodjhkmlaa.look fillMath matchMath matchSpec whole takeMath take extended varsOf shape kindsR ruleMath ruleSpec ruleImpl stepMath walkMath stepSpec heldT
set_option maxRecDepth 100000
end stepImpl
end
section
namespace pathSpec
open Go.RowKit base ints sig term arity endOf cursor termOk endAt inside marks app appAt sym args posMath
set_option maxRecDepth 100000
theorem own_lt {w : World} {base : Nat} {A : Option Addr} {n c : Nat} {xs : List Int} (h : Own w base (.slice A n c) xs) : ∀ k, blk A = some k → base ≤ k ∧ k < w.heap.size := fun k hk => World.ownsRow.lt h k (by rw [blk_own]; exact hk)
def PathIs (sg t : List Int) (x : Int) (pa : List Int) : Prop := (thereB sg t x = true ∧ ∃ ab, Trail sg t x.toNat 0 ab pa) ∨ (thereB sg t x = false ∧ pa = [])
theorem PathIs.one {sg t : List Int} {x : Int} {pa pa' : List Int} (h : PathIs sg t x pa) (h' : PathIs sg t x pa') : pa = pa' := by
 rcases h with ⟨e, ab, hw⟩ | ⟨e, rfl⟩ <;> rcases h' with ⟨e', ab', hw'⟩ | ⟨e', rfl⟩
 ·exact (hw.one hw').2
 ·rw [e] at e'; cases e'
 ·rw [e] at e'; cases e'
 ·rfl
theorem PathIs.len {sg t : List Int} {x : Int} {pa : List Int} (h : PathIs sg t x pa) : pa.length ≤ 60 := by
 rcases h with ⟨e, ab, hw⟩ | ⟨e, rfl⟩
 ·obtain ⟨hok, h0, h1⟩ := there_parts e
  have := hw.le
  have := (termOk_parts hok).2.1
  omega
 ·simp
theorem Trail.split {sg t : List Int} {a q : Nat} {ab pa : List Int} (h : Trail sg t a q ab pa) (hne : q ≠ a) : ∃ (k : Nat) (ab' pa' : List Int), ab = (q : Int) :: ab' ∧ pa = (k : Int) :: pa' ∧ q < a ∧ k < arN sg t q ∧ argP sg t k (q + 1) ≤ a ∧ a < argP sg t k (q + 1) + len1 sg t (argP sg t k (q + 1)) ∧ q < argP sg t k (q + 1) ∧ Trail sg t a (argP sg t k (q + 1)) ab' pa' := by
 cases h with
 | here => exact absurd rfl hne
 | @down _ k ab' pa' h1 h2 h3 h4 h5 h6 hw => exact ⟨k, ab', pa', rfl, rfl, h1, h2, h3, h4, h5, hw⟩
end pathSpec
end
section
namespace wayTo
open Go.RowKit base ints sig term arity endOf cursor termOk endAt inside marks app appAt sym args posMath pathSpec
set_option maxRecDepth 100000
structure Wy (w wr : World) (P : Nat) (A : Option Addr) (n c : Nat) (A' : Option Addr) (m c' : Nat) (sg t : List Int) (k : Nat) (O1 : Option Addr) (n1 c1 : Nat) (ys1 : List Int) (O2 : Option Addr) (n2 c2 : Nat) (ys2 : List Int) : Prop where
 cu : Cur wr P A n c A' m c' sg t k
 b : Below w.heap.size w wr
 hP : w.heap.size ≤ P
 o1 : Own wr (P + 1) (.slice O1 n1 c1) ys1
 o2 : Own wr (P + 1) (.slice O2 n2 c2) ys2
 dj : blk O1 = none ∨ blk O1 ≠ blk O2
section
variable {w wr w' : World} {P : Nat} {A : Option Addr} {n c : Nat} {A' : Option Addr} {m c' : Nat} {sg t : List Int} {k k' : Nat} {O1 : Option Addr} {n1 c1 : Nat} {ys1 : List Int} {O2 : Option Addr} {n2 c2 : Nat} {ys2 : List Int}
theorem Wy.lt (y : Wy w wr P A n c A' m c' sg t k O1 n1 c1 ys1 O2 n2 c2 ys2) : P < wr.heap.size := y.cu.row.lt
theorem Wy.over (y : Wy w wr P A n c A' m c' sg t k O1 n1 c1 ys1 O2 n2 c2 ys2) {o : Obj} {r : Option Nat} (hg : (wr.alloc o).grownBy w' r) (hr : ∀ j, r = some j → P + 1 ≤ j) : Below (P + 1) wr w' :=
 ((Below.refl (P + 1) wr).alloc y.lt _).grown hg (by have := y.lt; simp; omega) hr
theorem Wy.app1 (y : Wy w wr P A n c A' m c' sg t k O1 n1 c1 ys1 O2 n2 c2 ys2) {o : Obj} {O1' : Option Addr} {n1' c1' : Nat} {zs : List Int} (ho : Own w' (P + 1) (.slice O1' n1' c1') zs) (hg : (wr.alloc o).grownBy w' (blk O1)) (hb : blk O1' = blk O1 ∨ blk O1' = some (wr.alloc o).heap.size) :
  Wy w w' P A n c A' m c' sg t k O1' n1' c1' zs O2 n2 c2 ys2 := by
 have hov := y.over hg (fun j hj => (own_lt y.o1 j hj).1)
 refine ⟨Cur.keep y.cu hov, y.b.trans (hov.mono (Nat.le_succ_of_le y.hP)), y.hP, ho, Own.kept (Own.alloc y.o2 _) hg ?_, ?_⟩
 ·cases h2 : blk O2 with
  | none => exact .inl rfl
  | some z =>
   refine .inr (fun e => ?_)
   rcases y.dj with h | h
   ·rw [h] at e; cases e
   ·exact h (by rw [← e, h2])
 ·rcases hb with e | e
  ·rw [e]; exact y.dj
  ·refine .inr (fun h => ?_)
   rw [e] at h
   have := (own_lt y.o2 _ h.symm).2
   simp at this
   omega
end
end wayTo
end
section
namespace place
open Go.RowKit base ints sig term arity endOf cursor termOk endAt inside marks app appAt sym args posMath pathSpec wayTo
set_option maxRecDepth 100000
end place
end
section
namespace peakMath
open Go.RowKit base ints sig term termOk endAt sym pathSpec place substOk filled ruleMath stepMath walkMath
abbrev Pk := List Int × List Int × List Int × Int × Int × Int
def lhsI (rs : List Rl) (r : Int) : List Int := (rs.getD r.toNat ([], [])).1
def symAt (t : List Int) (a : Int) : Bool := decide (0 ≤ a ∧ a < (t.length : Int) ∧ 0 ≤ t.getD a.toNat 0)
def mayB (rs : List Rl) (o a u : Int) : Bool := walkMath.inB o rs.length && (walkMath.inB u rs.length && (symAt (lhsI rs o) a && !decide (a = 0 ∧ o = u)))
theorem sym_mem {sg t : List Int} {a : Int} (h : termOkB sg t = true) : decide (a ∈ symI sg t) = symAt t a := by
 have e : (a ∈ symI sg t) ↔ (0 ≤ a ∧ a < (t.length : Int) ∧ 0 ≤ t.getD a.toNat 0) := by
  unfold symI
  rw [if_pos h]
  unfold symP
  simp only [List.mem_map, List.mem_filter, List.mem_range, decide_eq_true_eq]
  constructor
  ·rintro ⟨j, ⟨h1, h2⟩, rfl⟩
   refine ⟨by omega, by omega, ?_⟩
   rw [Int.toNat_natCast]
   exact h2
  ·rintro ⟨h1, h2, h3⟩
   exact ⟨a.toNat, ⟨by omega, h3⟩, by omega⟩
 unfold symAt
 exact decide_eq_decide.2 e
section
variable {sg : List Int} {rs : List Rl} {p : Pk}
theorem may_no1 {o a u : Int} (h : walkMath.inB o rs.length = false) : mayB rs o a u = false := by unfold mayB; rw [h]; rfl
theorem may_no2 {o a u : Int} (h : walkMath.inB u rs.length = false) : mayB rs o a u = false := by unfold mayB; rw [h]; simp
theorem may_no4 {o a u : Int} (h : a = 0 ∧ o = u) : mayB rs o a u = false := by unfold mayB; rw [decide_eq_true h]; simp
theorem may_parts {o a u : Int} (h : mayB rs o a u = true) : (walkMath.inB o rs.length = true ∧ walkMath.inB u rs.length = true) ∧ symAt (lhsI rs o) a = true ∧ ¬ (a = 0 ∧ o = u) := by
 unfold mayB at h
 simp only [Bool.and_eq_true, Bool.not_eq_true', decide_eq_false_iff_not] at h
 exact ⟨⟨h.1, h.2.1⟩, h.2.2.1, h.2.2.2⟩
end
open Classical in
section
variable {sg : List Int} {rs : List Rl} {p : Pk} {ss : List (List Int)}
end
end peakMath
end
section
namespace kindsP
open Go.RowKit base ints sig cursor marks app sym appAt segs segsHelp segsMark kinds shape
set_option maxRecDepth 100000
end kindsP
end
section
namespace peakSame
open Go.RowKit base ints sig term termOk marks app sym segs segsHelp kinds same shape kindsR kindsP varsOf ruleMath ruleSpec ruleImpl
set_option maxRecDepth 100000
end peakSame
end
section
namespace stepsMath
open sig term termOk termFacts ruleMath stepMath walkMath
section
variable {sg : List Int} {rs : List Rl} {t : List Int} {i k : Nat}
end
def rdN (sg : List Int) (rs : List Rl) (t : List Int) (i k : Nat) : Nat := ((List.range i).map fun a => rs.countP fun x => redB sg x t a).sum + (rs.take k).countP fun x => redB sg x t i
section
variable {sg : List Int} {rs : List Rl} {t : List Int} {i k : Nat}
theorem rd_zero : rdN sg rs t 0 0 = 0 := rfl
end
end stepsMath
end
section
namespace ownL
open Go.RowKit base ints sig cursor marks app appAt sym segs shape drawX
set_option maxRecDepth 100000
theorem Ow.one {w : World} : ∀ {s : Sh} {cs : List Value} {d : Dat s} {F : List Nat}, Ow w s cs d F → ∀ u ∈ cs, u.oneCell' = true
 | .num, _, _, _, h, u, hu => by have h : _ = _ ∧ _ := h; rw [h.1] at hu; rw [List.mem_singleton.1 hu]; rfl
 | .bit, _, _, _, h, u, hu => by have h : _ = _ ∧ _ := h; rw [h.1] at hu; rw [List.mem_singleton.1 hu]; rfl
 | .row _ _, _, _, _, h, u, hu => by obtain ⟨A, n, c, e, _⟩ := h; rw [e] at hu; rw [List.mem_singleton.1 hu]; rfl
 | .cat a b, _, _, _, h, u, hu => by
  obtain ⟨ca, cb, Fa, Fb, e, _, h1, h2⟩ := h
  rw [e] at hu
  rcases List.mem_append.1 hu with hu | hu
  ·exact Ow.one h1 u hu
  ·exact Ow.one h2 u hu
def OwnL (w : World) (lo hi : Nat) (e : TypeId) (s : Sh) (A : Option Addr) (n c : Nat) (D : List (Dat s)) : Prop :=
 D.length = n ∧ (∀ k, blk A = some k → k < hi) ∧ ∃ (vs : List Value) (G : Nat → List Nat), w.ownsRow lo e (nc s) (.slice A n c) n vs ∧ (A = none → c = 0) ∧ ((List.range n).flatMap G).Nodup ∧
  ∀ j, j < n → Ow w s (cellsOf (nc s) vs j) (D.getD j (dft s)) (G j) ∧ ∀ q ∈ G j, lo ≤ q ∧ q < hi ∧ some q ≠ blk A
section
variable {w w' : World} {lo hi n c : Nat} {e : TypeId} {s : Sh} {A : Option Addr} {D : List (Dat s)}
theorem OwnL.nil (w : World) (lo hi : Nat) (e : TypeId) (s : Sh) : OwnL w lo hi e s none 0 0 [] := ⟨rfl, (fun k hk => by cases hk), [], fun _ => [], ⟨by simp, .inl ⟨rfl, rfl⟩⟩, fun _ => rfl, by simp, fun j hj => absurd hj (Nat.not_lt_zero _)⟩
theorem OwnL.keep (h : OwnL w lo hi e s A n c D) (hk : ∀ k, lo ≤ k → k < hi → k < w.heap.size → w'.heap[k]? = w.heap[k]?) (hs : w.heap.size ≤ w'.heap.size) : OwnL w' lo hi e s A n c D := by
 obtain ⟨h1, h2, vs, G, h3, h4, h5, h6⟩ := h
 refine ⟨h1, h2, vs, G, ?_, h4, h5, fun j hj => ⟨(h6 j hj).1.keep fun q hq => ?_, (h6 j hj).2⟩⟩
 ·refine ⟨h3.1, ?_⟩
  rcases h3.2 with q | ⟨g, cap, cur, e1, hg, hr, q⟩
  ·exact .inl q
  ·have hlt := (Array.getElem?_eq_some_iff.1 hr).1
   injection e1 with e2 e3 e4
   exact .inr ⟨g, cap, cur, by rw [e2, e4], hg, (hk g hg (h2 g (by rw [e2]; rfl)) hlt).trans hr, q⟩
 ·have := (h6 j hj).2 q hq
  exact hk q this.1 this.2.1 ((h6 j hj).1.lt q hq)
theorem OwnL.next (h : OwnL w lo hi e s A n c D) (hb : Below w.heap.size w w') : OwnL w' lo hi e s A n c D := h.keep (fun k _ _ hk => hb.block k hk) hb.size
theorem OwnL.ge (h : OwnL w lo hi e s A n c D) : ∀ k, blk A = some k → lo ≤ k ∧ k < w.heap.size := fun k hk => by
 obtain ⟨_, _, vs, G, ho, _⟩ := h
 exact World.ownsRow.lt ho k (by rw [blk_own]; exact hk)
theorem OwnL.owned (h : OwnL w lo hi e s A n c D) : Owned w lo hi (.row e s) [.slice A n c] D := by
 obtain ⟨h1, h2, vs, G, h3, h4, h5, h6⟩ := h
 rcases h3.2 with ⟨e1, h0⟩ | ⟨g, cap, cur, e1, hg, hrow, hn, hm, hs, ht⟩
 ·injection e1 with a1 a2 a3
  subst a1 a2 a3
  exact ⟨[], ⟨none, 0, 0, rfl, h1, .inl ⟨rfl, rfl, rfl, rfl⟩⟩, by simp, fun k hk => by cases hk⟩
 ·injection e1 with a1 a2 a3
  subst a1 a3
  have hl : vs.length = n * nc s := h3.1
  refine ⟨g :: (List.range n).flatMap G, ⟨_, n, c, rfl, h1, .inr ⟨g, cur, cellsOf (nc s) vs, G, rfl, hrow, hn, by unfold maxLen at hm; omega, hs, rfl, fun j hj => ?_⟩⟩, List.nodup_cons.2 ⟨fun hb => ?_, h5⟩, fun k hk => ?_⟩
  ·have hjn : j * nc s + nc s ≤ n * nc s := by
    have := Nat.mul_le_mul_right (nc s) (show j + 1 ≤ n by omega)
    rw [Nat.add_mul] at this
    omega
   refine ⟨(h6 j hj).1.len, fun i hi => ?_, (h6 j hj).1⟩
   have h7 : cur.toList[j * nc s + i]? = vs[j * nc s + i]? := by rw [← ht, List.getElem?_take, if_pos (by omega)]
   rw [← Array.getElem?_toList, h7]
   unfold cellsOf
   rw [List.getElem?_take, if_pos hi, List.getElem?_drop]
  ·obtain ⟨j, hj, hb⟩ := List.mem_flatMap.1 hb
   exact ((h6 j (List.mem_range.1 hj)).2 g hb).2.2 rfl
  ·rcases List.mem_cons.1 hk with hk | hk
   ·rw [hk]; exact ⟨hg, h2 g rfl⟩
   ·obtain ⟨j, hj, hb⟩ := List.mem_flatMap.1 hk
    have := (h6 j (List.mem_range.1 hj)).2 k hb
    exact ⟨this.1, this.2.1⟩
theorem OwnL.rd (h : OwnL w lo hi e s A n c D) : Rd w w.heap.size (.row e s) [.slice A n c] D := h.owned.rd
end
end ownL
end
section
namespace stepSpec
open Go.RowKit base ints sig term termOk endAt endOf marks app sym sub segs segsHelp kinds termFacts shifted matchMath matchSpec shape kindsR kindsW ruleMath ruleSpec stepMath walkMath stepsMath ownL
set_option maxRecDepth 100000
end stepSpec
end
section
namespace peakSpec
open Go.RowKit base ints sig term termOk endAt marks app sym pathSpec place segs segsHelp kinds termFacts same shape kindsR kindsP varsOf shifted ruleMath ruleSpec stepMath walkMath stepSpec peakMath peakSame
set_option maxRecDepth 100000
theorem specRule (a : Value) (V : Option Addr) (q cv : Nat) (r : Int) (w : World) (hq : q ≤ 1048576) :
  Calls Try.prog 31 #[.agg #[a, .slice V q cv], .int .i64 r] w (AnsB w (walkMath.inB r q)) := by
 obtain ⟨W, hW, rA, bel⟩ := box1 w 33 #[a, .slice V q cv]
 have HW := Lib.hid hW
 have K1 : (w.alloc (.cells #[a, .slice V q cv] 33)).cell? ⟨w.heap.size, 1, none⟩ = some (.slice V q cv) := by rw [← hW]; exact rA.cell 1
 by_cases h : 0 ≤ r ∧ r ≤ (q : Int) - 1
 ·have F := Lib.hid (ansB (b := walkMath.inB r q) (a := true) (by unfold walkMath.inB; rw [decide_eq_true (by omega)]) bel)
  have L := Lib.hid (inYes r 0 ((q : Int) - 1) W h)
  clear hW rA bel
  go_enter Try.func31, Try.ntmps31
  go_wp2_with fail
  rw [← HW.out]
  refine L.out.mono ?_
  rintro e w1 ⟨rfl, rfl⟩
  go_wp2
  go_ret
  exact F.out
 ·have F := Lib.hid (ansB (b := walkMath.inB r q) (a := false) (by unfold walkMath.inB; rw [decide_eq_false (by omega)]) bel)
  have L := Lib.hid (inNo r 0 ((q : Int) - 1) W h)
  clear hW rA bel
  go_enter Try.func31, Try.ntmps31
  go_wp2_with fail
  rw [← HW.out]
  refine L.out.mono ?_
  rintro e w1 ⟨rfl, rfl⟩
  go_wp2
  go_ret
  exact F.out
theorem sym_no1 {t : List Int} {a : Int} (h : ¬ (0 ≤ a ∧ a ≤ (t.length : Int) - 1)) : symAt t a = false := by unfold symAt; exact decide_eq_false (by omega)
theorem sym_no2 {t : List Int} {a : Nat} (h : t.getD a 0 < 0) : symAt t (a : Int) = false := by unfold symAt; rw [Int.toNat_natCast]; exact decide_eq_false (by omega)
theorem sym_yes {t : List Int} {a : Nat} (h : a < t.length) (h' : ¬ t.getD a 0 < 0) : symAt t (a : Int) = true := by unfold symAt; rw [Int.toNat_natCast]; exact decide_eq_true (by omega)
end peakSpec
end
section
open Go.Lib (hid)
namespace trySpec
open Go.RowKit base ints sig term termOk termFacts sub sym varsOf marks app appAt segs kinds shape kindsR drawX fillMath matchMath unifMath forest triMath stk partsSpec bnd Go.Proofs.Ytfmjhfodjhkmlaa.look occurs meetSpec fullSpec ruleMath ruleSpec peakMath
set_option maxRecDepth 100000
def lh (rs : List Rl) (o : Nat) : List Int := (rs.getD o ([], [])).1
def oS (sg : List Int) (rs : List Rl) (o a : Nat) : List Int := subL sg (lh rs o) a
def oT (rs : List Rl) (u : Nat) : List Int := shiftL 24 (lh rs u)
theorem sys_rule {sg : List Int} {rs : List Rl} (h : sysOkB sg rs = true) {o : Nat} (ho : o < rs.length) : ruleOkB sg (rs.getD o ([], [])) = true := by
 unfold sysOkB at h
 simp only [Bool.and_eq_true, List.all_eq_true] at h
 refine h.2.2 _ ?_
 rw [List.getD_eq_getElem?_getD, List.getElem?_eq_getElem ho]
 exact List.getElem_mem _
theorem lh_ok {sg : List Int} {rs : List Rl} (h : sysOkB sg rs = true) {o : Nat} (ho : o < rs.length) : termOkB sg (lh rs o) = true := (rule_parts (sys_rule h ho)).1
theorem vb_term {sg t : List Int} (h : termOkB sg t = true) : Vb 48 t := ⟨(term_len h).2, fun x hx => by have := (term_mem h hx).1; omega⟩
theorem vb_shift {sg t : List Int} (h : termOkB sg t = true) : Vb 48 (shiftL 24 t) := by
 refine ⟨by rw [shift_len]; exact (term_len h).2, fun x hx => ?_⟩
 obtain ⟨y, hy, rfl⟩ := List.mem_map.1 hx
 have := (term_mem h hy).1
 unfold sh
 split <;> omega
theorem fo_shift {sg t : List Int} (h : termOkB sg t = true) : Fo sg 1 (shiftL 24 t) := by
 have := (fo_term h).fill (L := fun i => vt (i + 24)) fun i => Fo.vt _
 rw [shift_fill] at this
 exact this
theorem drop_sub {sg t : List Int} (h : termOkB sg t = true) {a : Nat} (ha : a < t.length) : t.drop a = subL sg t a ++ t.drop (a + (subL sg t a).length) := (sub_trm (term_parts h).2.2 ha).2
theorem sub_ok {sg t : List Int} (h : termOkB sg t = true) {a : Nat} (ha : a < t.length) : termOkB sg (subL sg t a) = true := (termMath.sub_term h ha).1
def Qb (N g R b : Nat) : Prop := b < N ∧ b ≠ R ∧ b ≠ g
theorem bd_rep (K i : Nat) : bd (List.replicate K []) i = [] := by
 unfold bd
 by_cases hi : i < K <;> simp [List.getD, hi]
theorem rdq_of {w : World} {N g R : Nat} {A : Option Addr} {n c B : Nat} {xs : List Int} (h : Seg w B A n xs) (hc : Cap A n c) (h1 : ∀ b, b < B → Qb N g R b) : RdQ w (Qb N g R) sI [.slice A n c] xs := by
 refine rdq_seg h.1 hc fun h0 => ?_
 obtain ⟨b, off, e, hb, hs⟩ := h.2 h0
 exact ⟨b, off, e, h1 b hb, hs⟩
def AnsTry (w : World) (sg s t : List Int) (e : Ending) (w' : World) : Prop :=
 ∃ (g R N : Nat) (ok : Bool) (B : List (List Int)), e = .returned (.tuple #[.pointer (some ⟨g, 0, none⟩), .bool ok]) ∧ w.heap.size ≤ g ∧ w.heap.size ≤ R ∧ g ≠ R ∧ N ≤ w'.heap.size ∧ Bnd w' (Qb N g R) g R B ∧ Below w.heap.size w w' ∧ (ok = true → Mid sg s t 48 B [] [] ∧ ∃ L rk, Res sg B L rk) ∧ (ok = false → ∀ θ, ¬ Unis sg s t θ)
set_option maxHeartbeats 2000000 in
theorem l11Try (A V : Option Addr) (n c q cv : Nat) (d : Dat sSystem) (o a u : Nat) (w : World) (h : Rd w w.heap.size sSystem [.slice A n c, .slice V q cv] d) (hz : sz sSystem d ≤ 1048576) (hok : sysOkB d.1 d.2 = true) (ho : o < d.2.length) (hu : u < d.2.length) (ha : a < (lh d.2 o).length) :
  Calls Try.prog 54 #[.agg #[.slice A n c, .slice V q cv], .int .i64 (o : Int), .int .i64 (a : Int), .int .i64 (u : Int)] w (AnsTry w d.1 (oS d.1 d.2 o a) (oT d.2 u)) := by
 obtain ⟨A1, n1, c1, A2, n2, c2, ea, ev, hA, kA, kV, hlen, hn, hn2, hr, hsg, hrs⟩ := rd_sys h hz
 injection ea with e1 e2 e3
 subst e1 e2 e3
 injection ev with e1 e2 e3
 subst e1 e2 e3
 have hmk : ∀ W : World, (Instr.makeSlice 113 (.int .i64 48) (.int .i64 48)).run Try.prog W = .ok (.slice (some ⟨W.heap.size, 0, none⟩) 48 48) (W.alloc (.cells (madeCells #[.slice none 0 0] 48) 22)) := fun W => segsHelp.run_make_lists 48 (by omega) W
 obtain ⟨bV, oV, lo, ro, xo, rfl, hbV, hxo, cLo, cRo, rdo⟩ := rd_at hr (Below.refl _ _) hlen (show o < q by omega)
 obtain ⟨bV2, oV2, lu, ru, xu, eV2, -, hxu, cLu, cRu, rdu⟩ := rd_at hr (Below.refl _ _) hlen (show u < q by omega)
 injection eV2 with eV2
 injection eV2 with eb eo
 subst eb eo
 obtain ⟨LA, ln, lc, RA, rn, rc, rfl, rfl, sLo, kLo, sRo, kRo, hln, hrn⟩ := rd_rule rdo (by have := hrs o (by omega); rw [hxo.out] at this; exact this)
 obtain ⟨MA, mn, mc, NA, nn, nc', rfl, rfl, sLu, kLu, sRu, kRu, hmn, hnn⟩ := rd_rule rdu (by have := hrs u (by omega); rw [hxu.out] at this; exact this)
 have eLo : xo.1 = lh d.2 o := by unfold lh; rw [hxo.out]
 have eLu : xu.1 = lh d.2 u := by unfold lh; rw [hxu.out]
 rw [eLo] at sLo
 rw [eLu] at sLu
 obtain ⟨W, hW⟩ : ∃ W, W = ((w.alloc (.cells #[.slice A n c, .slice (some ⟨bV, oV, none⟩) q cv] 33)).alloc (.cells (madeCells #[.slice none 0 0] 48) 22)).alloc (.cells #[.slice (some ⟨w.heap.size + 1, 0, none⟩) 48 48] 115) := ⟨_, rfl⟩
 have z1 : (w.alloc (.cells #[.slice A n c, .slice (some ⟨bV, oV, none⟩) q cv] 33)).heap.size = w.heap.size + 1 := by simp
 have z2 : ((w.alloc (.cells #[.slice A n c, .slice (some ⟨bV, oV, none⟩) q cv] 33)).alloc (.cells (madeCells #[.slice none 0 0] 48) 22)).heap.size = w.heap.size + 1 + 1 := by simp
 have zW : W.heap.size = w.heap.size + 1 + 1 + 1 := by rw [hW]; simp
 have bW : Below w.heap.size w W := by rw [hW]; exact (((Below.refl _ _).alloc (Nat.le_refl _) _).alloc (by simp) _).alloc (by simp; omega) _
 have rX : Row W w.heap.size 33 #[.slice A n c, .slice (some ⟨bV, oV, none⟩) q cv] := by rw [hW]; exact ((Row.new _ _ _).alloc _).alloc _
 have rR : Row W (w.heap.size + 1) 22 (madeCells #[.slice none 0 0] 48) := by
  have r1 := (Row.new (w.alloc (.cells #[.slice A n c, .slice (some ⟨bV, oV, none⟩) q cv] 33)) 22 (madeCells #[.slice none 0 0] 48)).alloc (.cells #[.slice (some ⟨w.heap.size + 1, 0, none⟩) 48 48] 115)
  rw [z1, ← hW] at r1
  exact r1
 have rG : Row W (w.heap.size + 1 + 1) 115 #[.slice (some ⟨w.heap.size + 1, 0, none⟩) 48 48] := by
  have r1 := Row.new ((w.alloc (.cells #[.slice A n c, .slice (some ⟨bV, oV, none⟩) q cv] 33)).alloc (.cells (madeCells #[.slice none 0 0] 48) 22)) 115 #[.slice (some ⟨w.heap.size + 1, 0, none⟩) 48 48]
  rw [z2, ← hW] at r1
  exact r1
 have BW : Bnd W (Qb w.heap.size (w.heap.size + 1 + 1) (w.heap.size + 1)) (w.heap.size + 1 + 1) (w.heap.size + 1) (List.replicate 48 []) := by
  refine ⟨rG, ⟨_, rR, by simp [madeCells], fun i hi => ⟨none, 0, 0, by simp [madeCells, hi, Nat.mod_one], ?_⟩⟩, by simp⟩
  rw [bd_rep]
  exact rdq_seg rfl ⟨Nat.le_refl _, by decide, fun _ => rfl⟩ fun h => absurd h (Nat.lt_irrefl _)
 have tLo := lh_ok hok ho
 have tLu := lh_ok hok hu
 have hsb : sigOkB d.1 = true := by unfold sysOkB at hok; rw [Bool.and_eq_true] at hok; exact hok.1
 have hars := (sig_arities hsb).1
 have hsl : (oS d.1 d.2 o a).length + a ≤ ln := by
  have h1 := congrArg List.length (drop_sub tLo ha)
  rw [List.length_append, List.length_drop, sLo.1] at h1
  have h2 : (subL d.1 (lh d.2 o) a).length = (oS d.1 d.2 o a).length := rfl
  have h3 := (term_len (sub_ok tLo ha)).1
  omega
 have q1 : W.cell? ⟨w.heap.size, 0, none⟩ = some (.slice A n c) := rX.cell 0
 have q2 : W.cell? ⟨w.heap.size, 1, none⟩ = some (.slice (some ⟨bV, oV, none⟩) q cv) := rX.cell 1
 have q3 : W.cell? ⟨bV, oV + o * 2, none⟩ = some (.slice LA ln lc) := (bW.cell (p := ⟨bV, oV + o * 2, none⟩) hbV).trans cLo
 have q4 : W.cell? ⟨bV, oV + u * 2, none⟩ = some (.slice MA mn mc) := (bW.cell (p := ⟨bV, oV + u * 2, none⟩) hbV).trans cLu
 have k1 := q1; have k2 := q2; have k3 := q3; have k4 := q4
 rw [hW] at k1 k2 k3 k4
 have j1 : (0 : Int) ≤ (o : Int) := by omega
 have j2 : (o : Int) < (q : Int) := by omega
 have j3 : (0 : Int) ≤ (u : Int) := by omega
 have j4 : (u : Int) < (q : Int) := by omega
 have HW := hid hW
 have HX := hid rX
 have HB := hid BW
 have HBW := hid bW
 have LE := hid (l13End A LA n c ln lc d.1 (lh d.2 o) a (oS d.1 d.2 o a) _ W (hA.next bW) (sLo.next bW) hn hln hars (drop_sub tLo ha) (fo_term (sub_ok tLo ha)))
 clear hr hsg hrs h hz rdo rdu sRo sRu kRo kRu cLo cRo cLu cRu hxo hxu rR rG BW hW rX eLo eLu
 go_enter Try.func54, Try.ntmps54
 go_wp2_with fail
 rw [← HW.out]
 refine LE.out.mono ?_
 rintro e w1 ⟨rfl, bb⟩
 have bel1 := next_trans HBW.out bb
 have HX1 := hid (HX.out.next bb)
 have B1 := HB.out.next bb (fun b hb => Nat.lt_of_lt_of_le hb.1 HBW.out.size)
 have zw1 := bb.size
 have p1 : w1.cell? ⟨w.heap.size, 0, none⟩ = some (.slice A n c) := HX1.out.cell 0
 have p2 : w1.cell? ⟨w.heap.size, 1, none⟩ = some (.slice (some ⟨bV, oV, none⟩) q cv) := HX1.out.cell 1
 have hbW : bV < W.heap.size := by omega
 have p3 : w1.cell? ⟨bV, oV + o * 2, none⟩ = some (.slice LA ln lc) := (bb.cell (p := ⟨bV, oV + o * 2, none⟩) hbW).trans q3
 have p4 : w1.cell? ⟨bV, oV + u * 2, none⟩ = some (.slice MA mn mc) := (bb.cell (p := ⟨bV, oV + u * 2, none⟩) hbW).trans q4
 have hoS := (term_len (sub_ok tLo ha)).1
 obtain ⟨sl, hsl9⟩ : ∃ sl, (oS d.1 d.2 o a).length = sl := ⟨_, rfl⟩
 rw [show (subL d.1 (lh d.2 o) a).length = sl from hsl9] at hoS
 rw [hsl9] at hsl ⊢
 obtain ⟨bl, ol, -, rfl, hbl, -, -⟩ := sLo.spot (show a < ln by omega)
 have i0 : (0 : Int) ≤ (a : Int) := by omega
 have i1 : (a : Int) ≤ ((a + sl : Nat) : Int) := by omega
 have hlc := kLo.1
 have i2 : ((a + sl : Nat) : Int) ≤ (lc : Int) := by omega
 have i3 : ¬ lc = a := by omega
 have i4 : (a : Int) ≤ (a : Int) + (sl : Int) := by omega
 have i5 : (a : Int) + (sl : Int) ≤ (lc : Int) := by omega
 have i6 : ((a : Int) + (sl : Int)).toNat - a = sl := by omega
 have LAw := hid (l11Away MA mn mc (lh d.2 u) w1.drew ((sLu.next bel1).drew) hmn (fun x hx => by have := (term_mem tLu hx).1; omega))
 have hsl60 := (term_len tLu).2
 have hcut : RdQ w1 (Qb w.heap.size (w.heap.size + 1 + 1) (w.heap.size + 1)) sI [.slice (some ⟨bl, ol + a, none⟩) sl (lc - a)] (oS d.1 d.2 o a) := by
  have h1 := rdq_cut (at_ := a) (j := sl) (rdq_of (N := w.heap.size) (g := w.heap.size + 1 + 1) (R := w.heap.size + 1) (sLo.below bel1) kLo (fun b hb => ⟨hb, by omega, by omega⟩)) hoS (by omega)
  have e : ((lh d.2 o).drop a).take sl = oS d.1 d.2 o a := by
   rw [drop_sub tLo ha, ← hsl9]
   exact List.take_left
  rw [e] at h1
  exact h1
 have LM := hid (fun (w4 : World) (Y : Option Addr) (yn yc : Nat) (b4 : Below w1.heap.size w1.drew w4) (oY : Own w4 w1.heap.size (.slice Y yn yc) (shiftL 24 (lh d.2 u))) =>
  (show Calls Try.prog 80 #[.agg #[.slice A n c], .pointer (some ⟨w.heap.size + 1 + 1, 0, none⟩), .slice (some ⟨bl, ol + a, none⟩) sl (lc - a), .slice Y yn yc] w4 (AnsMeet w4 (Qb w4.heap.size (w.heap.size + 1 + 1) (w.heap.size + 1)) (w.heap.size + 1 + 1) (w.heap.size + 1) d.1 (oS d.1 d.2 o a) (oT d.2 u)) from by
   have hz4 := b4.size
   have hz4 : w1.heap.size ≤ w4.heap.size := hz4
   have b4' : Below w1.heap.size w1 w4 := (Below.refl w1.heap.size w1).drew.trans b4
   have hmo : ∀ b, Qb w.heap.size (w.heap.size + 1 + 1) (w.heap.size + 1) b → Qb w4.heap.size (w.heap.size + 1 + 1) (w.heap.size + 1) b := fun b hb => ⟨by have := hb.1; omega, hb.2.1, hb.2.2⟩
   have hlt1 : ∀ b, Qb w.heap.size (w.heap.size + 1 + 1) (w.heap.size + 1) b → b < w1.heap.size := fun b hb => by have := hb.1; omega
   refine l11Meet _ _ _ A _ Y n c sl (lc - a) yn yc d.1 _ _ w4 ((B1.next b4' hlt1).mono hmo) (fun b hb => ⟨hb.1, hb.2.1⟩) (by omega) ?_ hn hars ((hcut.keep (Keep.below b4' hlt1)).mono hmo) ?_ ⟨fo_term (sub_ok tLo ha), vb_term (sub_ok tLo ha)⟩ ⟨fo_shift tLu, vb_shift tLu⟩
   ·exact (rdq_of (N := w.heap.size) ((hA.below bel1).below (b4'.mono (by omega))) kA (fun b hb => ⟨hb, by omega, by omega⟩)).mono hmo
   ·exact rdq_own oY (fun b h1 h2 _ => ⟨h2, by omega, by omega⟩)))
 have zz : w.heap.size < w1.heap.size := HX1.out.lt
 have zb1 : bV < w1.heap.size := by omega
 clear LE HW HX HB k1 k2 k3 k4 q1 q2 q3 q4 hcut B1
 go_wp2_with fail
 go_region_held3 (fun w' => w'.cell? ⟨w.heap.size, 0, none⟩ = some (.slice A n c) ∧ w'.cell? ⟨w.heap.size, 1, none⟩ = some (.slice (some ⟨bV, oV, none⟩) q cv) ∧ w'.cell? ⟨bV, oV + u * 2, none⟩ = some (.slice MA mn mc))
  (go_keep)
  (first
   | (go_at_call 62; refine LAw.out.mono ?_; rintro e w4 ⟨Y, yn, yc, rfl, oY, b4⟩; have b49 : Below w1.heap.size w1 w4 := next_trans ((Below.refl w1.heap.size w1).drew) b4; have m0 : w4.cell? ⟨w.heap.size, 0, none⟩ = some (.slice A n c) := (b49.cell (p := ⟨w.heap.size, 0, none⟩) zz).trans p1; have m1 : w4.cell? ⟨w.heap.size, 1, none⟩ = some (.slice (some ⟨bV, oV, none⟩) q cv) := (b49.cell (p := ⟨w.heap.size, 1, none⟩) zz).trans p2; have m2 : w4.cell? ⟨bV, oV + u * 2, none⟩ = some (.slice MA mn mc) := (b49.cell (p := ⟨bV, oV + u * 2, none⟩) zb1).trans p4)
   | (go_at_call 80; refine (LM.out w4 Y yn yc b4 oY).mono ?_; rintro e w5 ⟨ok, B5, rfl, bn5, g5, h5, h6⟩; have b5 : Below (w.heap.size + 1) w4 w5 := (Below.refl (w.heap.size + 1) w4).grown g5 (Nat.le_trans zz b49.size) (fun k hk => (Nat.le_of_eq (Option.some.inj hk))); have n0 : w5.cell? ⟨w.heap.size, 0, none⟩ = some (.slice A n c) := (b5.cell (p := ⟨w.heap.size, 0, none⟩) (Nat.lt_succ_self _)).trans m0; have n1 : w5.cell? ⟨w.heap.size, 1, none⟩ = some (.slice (some ⟨bV, oV, none⟩) q cv) := (b5.cell (p := ⟨w.heap.size, 1, none⟩) (Nat.lt_succ_self _)).trans m1; have n2 : w5.cell? ⟨bV, oV + u * 2, none⟩ = some (.slice MA mn mc) := (b5.cell (p := ⟨bV, oV + u * 2, none⟩) (Nat.lt_succ_of_lt hbV)).trans m2))
 have F := hid (show AnsTry w d.1 (oS d.1 d.2 o a) (oT d.2 u) (.returned (.tuple #[.pointer (some ⟨w.heap.size + 1 + 1, 0, none⟩), .bool ok])) w5 from
  ⟨_, _, w4.heap.size, ok, B5, rfl, by omega, by omega, by omega, g5.size, bn5, (bel1.trans (b49.mono (by omega))).trans (b5.mono (by omega)), h5, h6⟩)
 clear LAw LM p1 p2 p3 p4 m0 m1 m2 n0 n1 n2 b4 b49 b5 g5 bn5 oY h5 h6
 go_wp2
 go_ret2
 exact F.out
open Classical in
noncomputable def unB (sg : List Int) (rs : List Rl) (o a u : Nat) : Bool := decide (∃ θ, Unis sg (oS sg rs o a) (oT rs u) θ)
theorem unB_yes {sg : List Int} {rs : List Rl} {o a u : Nat} {θ : Nat → List Int} (h : Unis sg (oS sg rs o a) (oT rs u) θ) : unB sg rs o a u = true := by
 unfold unB
 exact @decide_eq_true _ (Classical.propDecidable _) ⟨θ, h⟩
theorem unB_no {sg : List Int} {rs : List Rl} {o a u : Nat} (h : ∀ θ, ¬ Unis sg (oS sg rs o a) (oT rs u) θ) : unB sg rs o a u = false := by
 unfold unB
 exact @decide_eq_false _ (Classical.propDecidable _) fun ⟨θ, hθ⟩ => h θ hθ
theorem try_un {sg : List Int} {rs : List Rl} {o a u : Nat} {ok : Bool} {B : List (List Int)} (h5 : ok = true → Mid sg (oS sg rs o a) (oT rs u) 48 B [] [] ∧ ∃ L rk, Res sg B L rk) (h6 : ok = false → ∀ θ, ¬ Unis sg (oS sg rs o a) (oT rs u) θ) : ok = unB sg rs o a u := by
 cases ok with
 | true =>
  obtain ⟨hm, L, rk, hr⟩ := h5 rfl
  exact (unB_yes (hm.end hr).uni).symm
 | false => exact (unB_no (h6 rfl)).symm
noncomputable def metB (sg : List Int) (rs : List Rl) (o x u : Int) : Bool := mayB rs o x u && unB sg rs o.toNat x.toNat u.toNat
theorem may_nat {rs : List Rl} {o u : Nat} {x : Int} (ho : o < rs.length) (hu : u < rs.length) : mayB rs (o : Int) x (u : Int) = (symAt (lh rs o) x && !decide (x = 0 ∧ (o : Int) = (u : Int))) := by
 unfold mayB
 have e1 : walkMath.inB (o : Int) rs.length = true := by unfold walkMath.inB; exact decide_eq_true (by omega)
 have e2 : walkMath.inB (u : Int) rs.length = true := by unfold walkMath.inB; exact decide_eq_true (by omega)
 rw [e1, e2, Bool.true_and, Bool.true_and]
 unfold lhsI lh
 rw [Int.toNat_natCast]
set_option maxHeartbeats 1000000 in
theorem l11Meets (A V : Option Addr) (n c q cv : Nat) (d : Dat sSystem) (o u : Nat) (x : Int) (w : World) (h : Rd w w.heap.size sSystem [.slice A n c, .slice V q cv] d) (hz : sz sSystem d ≤ 1048576) (hok : sysOkB d.1 d.2 = true) (ho : o < d.2.length) (hu : u < d.2.length) :
  Calls Try.prog 32 #[.agg #[.slice A n c, .slice V q cv], .int .i64 (o : Int), .int .i64 x, .int .i64 (u : Int)] w (AnsB w (metB d.1 d.2 o x u)) := by
 obtain ⟨A1, n1, c1, A2, n2, c2, ea, ev, hA, kA, kV, hlen, hn, hn2, hr, hsg, hrs⟩ := rd_sys h hz
 injection ea with e1 e2 e3
 subst e1 e2 e3
 injection ev with e1 e2 e3
 subst e1 e2 e3
 obtain ⟨bV, oV, lo, ro, xo, rfl, hbV, hxo, cLo, cRo, rdo⟩ := rd_at hr (Below.refl _ _) hlen (show o < q by omega)
 obtain ⟨LA, ln, lc, RA, rn, rc, rfl, rfl, sLo, kLo, sRo, kRo, hln, hrn⟩ := rd_rule rdo (by have := hrs o (by omega); rw [hxo.out] at this; exact this)
 have eLo : xo.1 = lh d.2 o := by unfold lh; rw [hxo.out]
 rw [eLo] at sLo
 obtain ⟨W, hW, rX, bW⟩ := box1 w 33 #[.slice A n c, .slice (some ⟨bV, oV, none⟩) q cv]
 have k1 : W.cell? ⟨w.heap.size, 1, none⟩ = some (.slice (some ⟨bV, oV, none⟩) q cv) := rX.cell 1
 have k0 : W.cell? ⟨w.heap.size, 0, none⟩ = some (.slice A n c) := rX.cell 0
 have k3 : W.cell? ⟨bV, oV + o * 2, none⟩ = some (.slice LA ln lc) := (bW.cell (p := ⟨bV, oV + o * 2, none⟩) hbV).trans cLo
 have g0 := k0; have g1 := k1; have g3 := k3
 rw [hW] at g0 g1 g3
 have HW := hid hW
 have sW := sLo.next bW
 have j1 : (0 : Int) ≤ (o : Int) := by omega
 have j2 : (o : Int) < (q : Int) := by omega
 have hlL := sLo.1
 have HM := hid (show metB d.1 d.2 o x u = ((symAt (lh d.2 o) x && !decide (x = 0 ∧ (o : Int) = (u : Int))) && unB d.1 d.2 o x.toNat u) from by unfold metB; rw [may_nat ho hu, Int.toNat_natCast, Int.toNat_natCast])
 have LT := hid (fun (a : Nat) (ha : a < (lh d.2 o).length) => l11Try A (some ⟨bV, oV, none⟩) n c q cv d o a u W (h.next bW) hz hok ho hu ha)
 have HL := hid hlL
 have HBW := hid bW
 clear hr hsg hrs h hz rdo sRo kRo cRo hxo rX hW eLo bW hlL
 by_cases h1 : 0 ≤ x ∧ x ≤ (ln : Int) - 1
 case neg =>
  have F := hid (show AnsB w (metB d.1 d.2 o x u) (.returned (.bool false)) W from ansB (by rw [HM.out, peakSpec.sym_no1 (by rw [HL.out]; exact h1)]; rfl) HBW.out)
  have L := hid (inNo x 0 ((ln : Int) - 1) W h1)
  go_enter Try.func32, Try.ntmps32
  go_wp2_with fail
  rw [← HW.out]
  refine L.out.mono ?_
  rintro e w1 ⟨rfl, rfl⟩
  go_wp2
  go_ret
  exact F.out
 obtain ⟨a, rfl⟩ := Int.eq_ofNat_of_zero_le h1.1
 have hal : a < ln := by omega
 obtain ⟨bl, ol, y, rfl, hbl, cy, ey⟩ := sW.spot hal
 have L := hid (inYes (a : Int) 0 ((ln : Int) - 1) W h1)
 have i0 : (0 : Int) ≤ (a : Int) := by omega
 have i1 : (a : Int) < (ln : Int) := by omega
 clear h1
 by_cases hy : y < 0
 ·have F := hid (show AnsB w (metB d.1 d.2 o a u) (.returned (.bool false)) W from ansB (by rw [HM.out, peakSpec.sym_no2 (by rw [ey.out]; exact hy)]; rfl) HBW.out)
  clear LT sW
  go_enter Try.func32, Try.ntmps32
  go_wp2_with fail
  rw [← HW.out]
  refine L.out.mono ?_
  rintro e w1 ⟨rfl, rfl⟩
  go_wp2
  go_ret
  exact F.out
 have d0 : decide (y < 0) = false := decide_eq_false hy
 have HSY := hid (peakSpec.sym_yes (t := lh d.2 o) (a := a) (by rw [HL.out]; exact hal) (by rw [ey.out]; exact hy))
 have LT2 := hid (LT.out a (by rw [HL.out]; exact hal))
 clear LT sW
 by_cases ha0 : a = 0
 ·subst ha0
  have cy0 : W.cell? ⟨bl, ol, none⟩ = some (.int .i64 y) := cy
  have LT0 : Hid (Calls Try.prog 54 #[.agg #[.slice A n c, .slice (some ⟨bV, oV, none⟩) q cv], .int .i64 (o : Int), .int .i64 0, .int .i64 (u : Int)] W (AnsTry W d.1 (oS d.1 d.2 o 0) (oT d.2 u))) := LT2
  have L0 : Hid (Calls Try.prog 53 #[.int .i64 0, .int .i64 0, .int .i64 ((ln : Int) - 1)] W fun e w' => W = w' ∧ e = .returned (.bool true)) := L
  have HM0 := hid (show metB d.1 d.2 o 0 u = (true && !decide ((0 : Int) = 0 ∧ (o : Int) = (u : Int)) && unB d.1 d.2 o 0 u) from by rw [← HSY.out]; exact HM.out)
  have z1 : (0 : Int) < (ln : Int) := by omega
  clear LT2 L cy i0 i1 HM
  show Calls _ _ #[_, _, .int .i64 0, _] w (AnsB w (metB d.1 d.2 o 0 u))
  by_cases hou : o = u
  ·subst hou
   have F := hid (show AnsB w (metB d.1 d.2 o 0 o) (.returned (.bool false)) W from ansB (by rw [HM0.out]; simp) HBW.out)
   clear LT0 HM0
   go_enter Try.func32, Try.ntmps32
   go_wp2_with fail
   rw [← HW.out]
   refine L0.out.mono ?_
   rintro e w1 ⟨rfl, rfl⟩
   go_wp2
   go_ret
   exact F.out
  ·have n2 : ((o : Int) == (u : Int)) = false := by simp; omega
   have HN := hid (show (!decide ((0 : Int) = 0 ∧ (o : Int) = (u : Int))) = true from by rw [decide_eq_false (fun h => hou (by omega))]; rfl)
   go_enter Try.func32, Try.ntmps32
   go_wp2_with fail
   rw [← HW.out]
   refine L0.out.mono ?_
   rintro e w1 ⟨rfl, rfl⟩
   go_wp2_with fail
   refine LT0.out.mono ?_
   rintro e w2 ⟨g, R, N, ok, B, rfl, -, -, -, -, -, b2, h5, h6⟩
   have F := hid (show AnsB w (metB d.1 d.2 o 0 u) (.returned (.bool ok)) w2 from ansB (by rw [HM0.out, HN.out, try_un h5 h6]; rfl) (next_trans HBW.out b2))
   clear LT0 b2 h5 h6
   go_wp2
   go_ret
   exact F.out
 ·have n0 : ((a : Int) == 0) = false := by simpa using ha0
  have n1 : ¬ (a : Int) = 0 := by omega
  have HD := hid (show (!decide ((a : Int) = 0 ∧ (o : Int) = (u : Int))) = true from by
   rw [decide_eq_false (fun h => n1 h.1)]; rfl)
  go_enter Try.func32, Try.ntmps32
  go_wp2_with fail
  rw [← HW.out]
  refine L.out.mono ?_
  rintro e w1 ⟨rfl, rfl⟩
  go_wp2_with fail
  refine LT2.out.mono ?_
  rintro e w2 ⟨g, R, N, ok, B, rfl, -, -, -, -, -, b2, h5, h6⟩
  have F := hid (show AnsB w (metB d.1 d.2 o a u) (.returned (.bool ok)) w2 from ansB (by rw [HM.out, HSY.out, HD.out, Int.toNat_natCast, try_un h5 h6]; rfl) (next_trans HBW.out b2))
  clear LT2 b2 h5 h6
  go_wp2
  go_ret
  exact F.out
end trySpec
end
section
open Go.Lib (hid)
namespace ovImpl
open Go.RowKit base ints sig term termOk termFacts sub cursor args sym varsOf marks app appAt segs kinds shape kindsR drawX fillMath matchMath unifMath forest triMath nodes ufMath stk bnd Go.Proofs.Ytfmjhfodjhkmlaa.look
set_option maxRecDepth 100000
structure Ov (w : World) (Q : Nat → Prop) (p lb : Nat) (A : Option Addr) (n c : Nat) (v : Value) (o a u : Int) (X : Option Addr) (xn xc lc : Nat) (sg nums : List Int) (lk : List Nat) : Prop where
 row : Row w p 73 #[.slice A n c, v, .int .i64 o, .int .i64 a, .int .i64 u, .slice X xn xc, .slice (some ⟨lb, 0, none⟩) xn lc]
 sg : RdQ w Q sI [.slice A n c] sg
 nm : RdQ w Q sI [.slice X xn xc] nums
 lk : ∃ cur, Row w lb 2 cur ∧ lk.length = xn ∧ ∀ i, i < xn → cur[i]? = some (.int .i64 ((lk.getD i 0 : Nat) : Int))
 ne : p ≠ lb
 q : ∀ b, Q b → b ≠ p ∧ b ≠ lb ∧ b < w.heap.size
section
variable {w w' : World} {Q : Nat → Prop} {p lb : Nat} {A : Option Addr} {n c : Nat} {v : Value} {o a u : Int} {X : Option Addr} {xn xc lc : Nat} {sg nums : List Int} {lk : List Nat}
theorem Ov.lt (h : Ov w Q p lb A n c v o a u X xn xc lc sg nums lk) : p < w.heap.size ∧ lb < w.heap.size := by
 obtain ⟨cur, r, -, -⟩ := h.lk
 exact ⟨h.row.lt, r.lt⟩
theorem Ov.next (h : Ov w Q p lb A n c v o a u X xn xc lc sg nums lk) (hb : Below w.heap.size w w') : Ov w' Q p lb A n c v o a u X xn xc lc sg nums lk := by
 obtain ⟨cur, r, hl, hc⟩ := h.lk
 have hk : Keep Q w w' := Keep.below hb fun b hq => (h.q b hq).2.2
 exact ⟨h.row.next hb, h.sg.keep hk, h.nm.keep hk, ⟨cur, r.next hb, hl, hc⟩, h.ne, fun b hq => ⟨(h.q b hq).1, (h.q b hq).2.1, Nat.lt_of_lt_of_le (h.q b hq).2.2 hb.size⟩⟩
theorem Ov.drewN (h : Ov w Q p lb A n c v o a u X xn xc lc sg nums lk) (k : Nat) : Ov (w.drewN k) Q p lb A n c v o a u X xn xc lc sg nums lk := h.next (base.below_drewN (Below.refl _ _) k)
theorem Ov.at (h : Ov w Q p lb A n c v o a u X xn xc lc sg nums lk) {i : Nat} (hi : i < xn) : w.cell? ⟨lb, i, none⟩ = some (.int .i64 ((lk.getD i 0 : Nat) : Int)) := by
 obtain ⟨cur, r, hl, hc⟩ := h.lk
 exact (r.cell i).trans (hc i hi)
theorem Ov.free (h : Ov w Q p lb A n c v o a u X xn xc lc sg nums lk) (i : Nat) : w.frozen? ⟨lb, i, none⟩ = false := by
 obtain ⟨cur, r, hl, hc⟩ := h.lk
 exact r.free i
theorem Ov.set (h : Ov w Q p lb A n c v o a u X xn xc lc sg nums lk) {i j : Nat} (hi : i < xn) : Ov (w.setCell ⟨lb, i, none⟩ (.int .i64 (j : Int))) Q p lb A n c v o a u X xn xc lc sg nums (lk.set i j) := by
 obtain ⟨cur, r, hl, hc⟩ := h.lk
 have hk : Keep Q w (w.setCell ⟨lb, i, none⟩ (.int .i64 (j : Int))) := fun b hb => Below.heap_setCell w _ _ b (h.q b hb).2.1
 refine ⟨h.row.far h.ne _, h.sg.keep hk, h.nm.keep hk, ⟨_, r.put i _, by rw [List.length_set]; exact hl, fun k hkk => ?_⟩, h.ne, fun b hq => ⟨(h.q b hq).1, (h.q b hq).2.1, by have := (h.q b hq).2.2; simpa using this⟩⟩
 by_cases e : k = i
 ·subst e
  have hs : k < cur.size := (Array.getElem?_eq_some_iff.1 (hc k hkk)).1
  rw [get_set lk (by omega), if_pos rfl]
  simp [hs]
 ·rw [get_set lk (by omega), if_neg e, Array.getElem?_setIfInBounds_ne (Ne.symm e)]
  exact hc k hkk
theorem Ov.c0 (h : Ov w Q p lb A n c v o a u X xn xc lc sg nums lk) : w.cell? ⟨p, 0, none⟩ = some (.slice A n c) := h.row.cell 0
theorem Ov.c5 (h : Ov w Q p lb A n c v o a u X xn xc lc sg nums lk) : w.cell? ⟨p, 5, none⟩ = some (.slice X xn xc) := h.row.cell 5
theorem Ov.c6 (h : Ov w Q p lb A n c v o a u X xn xc lc sg nums lk) : w.cell? ⟨p, 6, none⟩ = some (.slice (some ⟨lb, 0, none⟩) xn lc) := h.row.cell 6
end
variable {nm : Nat → Int} {nd : Nat → List Int} {ch : Nat → List Nat} {Inn : Nat → Prop} {rt rk : Nat → Nat}
def HeadFd (rt rk : Nat → Nat) (xn i : Nat) (f : Nat) (at_ : Value) (w wr : World) : Prop := ∃ k : Nat, at_ = .int .i64 (k : Int) ∧ k < xn ∧ rt k = rt i ∧ rk k < f ∧ wr = w
set_option maxHeartbeats 1000000 in
theorem find (Q : Nat → Prop) (p lb : Nat) (A : Option Addr) (n c : Nat) (v : Value) (o a u : Int) (X : Option Addr) (xn xc lc : Nat) (sg nums : List Int) (lk : List Nat) (i : Nat) (w : World) (h : Ov w Q p lb A n c v o a u X xn xc lc sg nums lk) (hL : Lk xn nm nd Inn lk rt rk) (hi : i < xn) :
  Calls Try.prog 87 #[.pointer (some ⟨p, 0, none⟩), .int .i64 (i : Int)] w fun e w' => e = .returned (.int .i64 (rt i : Int)) ∧ w' = w := by
 have H := hid h
 have HL := hid hL
 have c6 := h.c6
 have S0 := hid (show HeadFd rt rk xn i (rk i + 1) (.int .i64 (i : Int)) w w from ⟨i, rfl, hi, rfl, Nat.lt_succ_self _, rfl⟩)
 clear h hL hi
 go_enter Try.func87, Try.ntmps87
 go_wp2_with fail
 go_loopg [1] (rk i + 1) (fun f at_ wr => HeadFd rt rk xn i f at_ w wr)
 case atStart => exact S0.out
 case round =>
  clear S0
  obtain ⟨k, rfl, hk, hrt, hrk, rfl⟩ := hrel
  have ck := H.out.at hk
  obtain ⟨z, hz⟩ : ∃ z, lk.getD k 0 = z := ⟨_, rfl⟩
  rw [hz] at ck
  have i0 : (0 : Int) ≤ (k : Int) := by omega
  have i1 : (k : Int) < (xn : Int) := by omega
  by_cases he : z = k
  ·have e1 : ((z : Int) != (k : Int)) = false := by simp [he]
   have F := hid (show rt i = k by rw [← hrt]; exact HL.out.self k hk (by rw [hz]; exact he))
   clear hrt hrk hz hk he
   go_wp2
   go_ret
   exact ⟨by rw [F.out]; rfl, rfl⟩
  ·have e1 : ((z : Int) != (k : Int)) = true := by simp; omega
   have hlt := (HL.out.lt k hk).1
   have hst := HL.out.step k hk
   have hrr := HL.out.rnk k hk (by rw [hz]; exact he)
   rw [hz] at hlt hst hrr
   have S := hid (show HeadFd rt rk xn i (rk k) (.int .i64 (z : Int)) wr wr from ⟨z, rfl, hlt, hst.trans hrt, hrr, rfl⟩)
   have HR := hid hrk
   clear hrt hrk hz hk he hlt hst hrr
   go_wp2
   go_roundg (rk k)
   case measure => exact HR.out
   case rel => exact S.out
set_option maxHeartbeats 1000000 in
theorem ovArgs (Q : Nat → Prop) (p lb : Nat) (A : Option Addr) (n c : Nat) (v : Value) (o a u : Int) (X : Option Addr) (xn xc lc : Nat) (sg nums : List Int) (lk : List Nat) (i j : Nat) (w : World) (h : Ov w Q p lb A n c v o a u X xn xc lc sg nums lk) (hs : Arities sg) (hn : n ≤ 1048576) (hxn : xn ≤ 1048576) (hi : i < xn) (hj : scan sg 1 (nums.drop i) = some j) :
  Calls Try.prog 88 #[.pointer (some ⟨p, 0, none⟩), .int .i64 (i : Int)] w (AnsList w (argsL sg nums i)) := by
 have c0 := h.c0
 have c5 := h.c5
 have hq := fun b hb => (h.q b hb).2.2
 have sS : Seg w w.heap.size A n sg := Rd.seg (h.sg.rd hq)
 have sN : Seg w w.heap.size X xn nums := Rd.seg (h.nm.rd hq)
 have hjl := scan_le hj
 rw [List.length_drop, sN.1] at hjl
 have LC := hid (cursorArgs w.heap.size A X n c xn xc sg nums i j ((w.alloc (.cells #[.slice A n c, .slice X xn xc, .int .i64 (i : Int)] 127)).drew) (Go.Proofs.Ytfmjhfodjhkmlaa.args.Cur.keep (cur_new sS sN hn hxn hs i (by omega)) ⟨rfl, rfl, rfl, Nat.le_refl _, fun _ _ => rfl⟩) sN.1 hi hj (by omega))
 have hp := h.lt.1
 have d0 : (w.alloc (.cells #[.slice none 0 0, .slice none 0 0, .int .i64 0] 127)).cell? ⟨p, 0, none⟩ = some (.slice A n c) := (World.cell?_alloc_lt _ _ _ hp).trans c0
 have d5 : (w.alloc (.cells #[.slice none 0 0, .slice none 0 0, .int .i64 0] 127)).cell? ⟨p, 5, none⟩ = some (.slice X xn xc) := (World.cell?_alloc_lt _ _ _ hp).trans c5
 clear h hq sS sN hjl hj hs
 go_enter Try.func88, Try.ntmps88
 go_wp2_with fail
 go_region_law (fail)
 all_goals
  go_wp2_with fail
  refine LC.out.mono ?_
  rintro e w2 ⟨O, on, oc, rfl, oO, gg⟩
  have gg2 : (w.alloc (.cells #[.slice A n c, .slice X xn xc, .int .i64 (i : Int)] 127)).grownBy w2 (some w.heap.size) := ⟨gg.os, gg.tape, gg.output, gg.size, gg.block⟩
  have F := hid (show AnsList w (argsL sg nums i) (.returned (.slice O on oc)) w2 from ⟨O, on, oc, rfl, Own.lower oO (by simp), grown_new gg2⟩)
  clear oO gg gg2
  go_wp2
  go_ret
  exact F.out
end ovImpl
end
section
open Go.Lib (hid)
namespace linkImpl
open Go.RowKit base ints sig term depth args sym varsOf marks app appAt segs kinds shape drawX fillMath matchMath unifMath forest triMath cursor nodes ufMath stk bnd ovImpl
set_option maxRecDepth 100000
theorem places_cast {sg t : List Int} : ∀ q p, ((places sg t q p).map Int.toNat).map (fun c : Nat => (c : Int)) = places sg t q p
 | 0, _ => rfl
 | q + 1, p => by
  have h := places_cast (sg := sg) (t := t) q (p + len1 sg t p)
  show ((p : Int).toNat : Int) :: _ = _
  rw [h]
  rfl
theorem args_cast (sg t : List Int) (p : Nat) : argsL sg t p = (chN sg t p).map fun c : Nat => (c : Int) := (places_cast _ _).symm
structure Nd (sg nums nums' : List Int) (n : Nat) (Inn : Nat → Prop) (a u : Nat) : Prop where
 gr : Gr sg n (fun i => nums.getD i 0) (nodes.nd sg nums nums') (chN sg nums) Inn a u
 sc : ∀ i, i < n → ∃ j, scan sg 1 (nums.drop i) = some j
 len : nums.length = n
def AnsLink (w : World) (Q : Nat → Prop) (p lb : Nat) (A : Option Addr) (n c : Nat) (v : Value) (o a u : Int) (X : Option Addr) (xn xc lc : Nat) (sg nums nums' : List Int) (Inn : Nat → Prop) (ra ru : Nat) (lk : List Nat) (rt : Nat → Nat) (P : Nat → Nat → Prop) (x y : Nat) (e : Ending) (w' : World) : Prop :=
 ∃ (ok : Bool) (lk' : List Nat), e = .returned (.bool ok) ∧ Ov w' Q p lb A n c v o a u X xn xc lc sg nums lk' ∧ w.grownBy w' (some lb) ∧
  (ok = true → ∃ rt' rk', Lk xn (fun i => nums.getD i 0) (nodes.nd sg nums nums') Inn lk' rt' rk' ∧ Snd sg xn (nodes.nd sg nums nums') ra ru rt' ∧ Clo xn (fun i => nums.getD i 0) (chN sg nums) rt' P ∧ rt' x = rt' y ∧ (∀ i j, rt i = rt j → rt' i = rt' j) ∧ roots lk' ≤ roots lk) ∧
  (ok = false → ∀ θ, ¬ Unis sg (nodes.nd sg nums nums' ra) (nodes.nd sg nums nums' ru) θ)
def HeadLk (w : World) (Q : Nat → Prop) (p lb : Nat) (A : Option Addr) (n c : Nat) (v : Value) (o a u : Int) (X : Option Addr) (xn xc lc : Nat) (sg nums nums' : List Int) (Inn : Nat → Prop) (ra ru M : Nat) (rt0 : Nat → Nat) (P : Nat → Nat → Prop) (x y : Nat) (Y1 : Option Addr) (y1 z1 : Nat) (Y2 : Option Addr) (y2 z2 : Nat) (i : Value) (wr : World) : Prop :=
 ∃ (k : Nat) (lk : List Nat) (rt rk : Nat → Nat), i = .int .i64 (k : Int) ∧ k ≤ y2 ∧ Ov wr Q p lb A n c v o a u X xn xc lc sg nums lk ∧ Lk xn (fun i => nums.getD i 0) (nodes.nd sg nums nums') Inn lk rt rk ∧ Snd sg xn (nodes.nd sg nums nums') ra ru rt ∧ Clo xn (fun i => nums.getD i 0) (chN sg nums) rt (pendS (chN sg nums) x y k P) ∧
  (∀ i j, rt0 i = rt0 j → rt i = rt j) ∧ roots lk ≤ M ∧ w.grownBy wr (some lb) ∧ Own wr w.heap.size (.slice Y1 y1 z1) (argsL sg nums y) ∧ Own wr w.heap.size (.slice Y2 y2 z2) (argsL sg nums x)
variable {n : Nat} {nm : Nat → Int} {nd : Nat → List Int} {Inn : Nat → Prop} {lk : List Nat} {rt rk : Nat → Nat}
theorem root_inn (h : Lk n nm nd Inn lk rt rk) {a : Nat} (ha : a < n) (h0 : 0 ≤ nm a) (hr : rt a = a) (hi : ∃ p, p < n ∧ Inn p ∧ rt p = a) : Inn a := by
 obtain ⟨p, hp, hin, e⟩ := hi
 by_cases hn : Inn a
 ·exact hn
 ·have := h.one a ha h0 hn p hp (by rw [e, hr])
  rw [← this]; exact hin
theorem roots_pos (h : Lk n nm nd Inn lk rt rk) {x : Nat} (hx : x < n) : 1 ≤ roots lk := by
 unfold roots
 exact List.countP_pos_iff.2 ⟨rt x, List.mem_range.2 (by rw [h.len]; exact (h.lt x hx).2), by simpa using (h.root x hx).1⟩
set_option maxHeartbeats 2000000 in
theorem link (Q : Nat → Prop) (p lb : Nat) (A : Option Addr) (n c : Nat) (v : Value) (o a u : Int) (X : Option Addr) (xn xc lc : Nat) (sg nums nums' : List Int) (Inn : Nat → Prop) (ra ru : Nat) (hN : Nd sg nums nums' xn Inn ra ru) (hs : Arities sg) (hn : n ≤ 1048576) (hxn : xn ≤ 1048576) :
  ∀ (m : Nat) (lk : List Nat) (rt rk : Nat → Nat) (P : Nat → Nat → Prop) (x y : Nat) (w : World), roots lk ≤ m → Ov w Q p lb A n c v o a u X xn xc lc sg nums lk → Lk xn (fun i => nums.getD i 0) (nodes.nd sg nums nums') Inn lk rt rk → Snd sg xn (nodes.nd sg nums nums') ra ru rt → Clo xn (fun i => nums.getD i 0) (chN sg nums) rt P →
   x < xn → y < xn → (∃ p, p < xn ∧ Inn p ∧ rt p = rt x) → (∃ p, p < xn ∧ Inn p ∧ rt p = rt y) → (∀ θ, Unis sg (nodes.nd sg nums nums' ra) (nodes.nd sg nums nums' ru) θ → fillL θ (nodes.nd sg nums nums' x) = fillL θ (nodes.nd sg nums nums' y)) →
  Calls Try.prog 68 #[.pointer (some ⟨p, 0, none⟩), .int .i64 (x : Int), .int .i64 (y : Int)] w (AnsLink w Q p lb A n c v o a u X xn xc lc sg nums nums' Inn ra ru lk rt P x y) := by
 intro m
 induction m with
 | zero =>
  intro lk rt rk P x y w hm hO hL hS hC hx hy ix iy hv
  have := roots_pos hL hx
  omega
 | succ m IH =>
 intro lk rt rk P x y w hm hO hL hS hC hx hy ix iy hv
 obtain ⟨a1, ha1⟩ : ∃ z, rt x = z := ⟨_, rfl⟩
 obtain ⟨b1, hb1⟩ : ∃ z, rt y = z := ⟨_, rfl⟩
 have LF1 := hid (find Q p lb A n c v o a u X xn xc lc sg nums lk x w hO hL hx)
 have LF2 := hid (find Q p lb A n c v o a u X xn xc lc sg nums lk y w hO hL hy)
 rw [ha1] at LF1
 rw [hb1] at LF2
 have ha1n : a1 < xn := by rw [← ha1]; exact (hL.lt x hx).2
 have hb1n : b1 < xn := by rw [← hb1]; exact (hL.lt y hy).2
 have HIH := hid IH
 have HO := hid hO
 have HL := hid hL
 have HS := hid hS
 have HC := hid hC
 have HM := hid hm
 obtain ⟨hnl, -, hspot⟩ := rdq_nums hO.nm
 obtain ⟨bX, oX, rfl, hqX, hcX⟩ := hspot (by omega)
 have c5 := hO.c5
 have c6 := hO.c6
 have HCX := hid hcX
 by_cases hab : a1 = b1
 ·subst hab
  have e1 : ((a1 : Int) == (a1 : Int)) = true := by simp
  have F := hid (show AnsLink w Q p lb A n c v o a u (some ⟨bX, oX, none⟩) xn xc lc sg nums nums' Inn ra ru lk rt P x y (.returned (.bool true)) w from ⟨true, lk, rfl, hO, ⟨rfl, rfl, rfl, Nat.le_refl _, fun _ _ _ => rfl⟩, fun _ => ⟨rt, rk, hL, hS, hC, by rw [ha1, hb1], fun i j e => e, Nat.le_refl _⟩, fun h => by cases h⟩)
  clear hO hL hS hC ix iy hv hm IH hcX hspot
  go_enter Try.func68, Try.ntmps68
  go_wp2_with fail
  refine LF1.out.mono ?_
  rintro e w1 ⟨rfl, rfl⟩
  go_wp2_with fail
  refine LF2.out.mono ?_
  rintro e w1 ⟨rfl, rfl⟩
  go_wp2
  go_ret
  exact F.out
 ·have e1 : ((a1 : Int) == (b1 : Int)) = false := by simp; omega
  have ra1 : rt a1 = a1 := by rw [← ha1]; exact (hL.root x hx).2
  have rb1 : rt b1 = b1 := by rw [← hb1]; exact (hL.root y hy).2
  have ia1 : ∃ p, p < xn ∧ Inn p ∧ rt p = a1 := by rw [← ha1]; exact ix
  have ib1 : ∃ p, p < xn ∧ Inn p ∧ rt p = b1 := by rw [← hb1]; exact iy
  have v1 : ∀ θ, Unis sg (nodes.nd sg nums nums' ra) (nodes.nd sg nums nums' ru) θ → fillL θ (nodes.nd sg nums nums' a1) = fillL θ (nodes.nd sg nums nums' b1) := fun θ hθ => by rw [← ha1, ← hb1, ← hS θ hθ x hx, ← hS θ hθ y hy]; exact hv θ hθ
  have J1 : ∀ rt' : Nat → Nat, (∀ i j, rt i = rt j → rt' i = rt' j) → rt' a1 = rt' b1 → rt' x = rt' y := fun rt' h1 h2 => (h1 x a1 (by rw [ha1, ra1])).trans (h2.trans (h1 b1 y (by rw [hb1, rb1])))
  have ca : w.cell? ⟨bX, oX + a1, none⟩ = some (.int .i64 (nums.getD a1 0)) := hcX a1 ha1n
  have i0 : (0 : Int) ≤ (a1 : Int) := by omega
  have i1 : (a1 : Int) < (xn : Int) := by omega
  obtain ⟨z, hz⟩ : ∃ z, nums.getD a1 0 = z := ⟨_, rfl⟩
  rw [hz] at ca
  have HZ := hid hz
  clear hO hL hS hC ix iy hv hm IH hcX hspot hz ha1 hb1 hx hy
  by_cases hz0 : z < 0
  ·have ha : b1 < xn := hb1n
   have hb : a1 < xn := ha1n
   have hne : b1 ≠ a1 := fun e => hab e.symm
   have hsx : 0 ≤ nums.getD b1 0 ∨ nums.getD a1 0 < 0 := .inr (by rw [HZ.out]; exact hz0)
   have vab : ∀ θ, Unis sg (nodes.nd sg nums nums' ra) (nodes.nd sg nums nums' ru) θ → fillL θ (nodes.nd sg nums nums' b1) = fillL θ (nodes.nd sg nums nums' a1) := fun θ hθ => (v1 θ hθ).symm
   have J : ∀ rt' : Nat → Nat, (∀ i j, rt i = rt j → rt' i = rt' j) → rt' b1 = rt' a1 → rt' x = rt' y := fun rt' h1 h2 => J1 rt' h1 h2.symm
   have O2 := HO.out.set (j := b1) hb
   have L2 := HL.out.link ha hb rb1 ra1 hne hsx ib1 ia1
   have S2 := HS.out.link hN.gr vab
   have hroot := roots_link HL.out hb ra1 hne
   have g2 : w.grownBy (w.setCell ⟨lb, a1, none⟩ (.int .i64 (b1 : Int))) (some lb) := ⟨rfl, rfl, rfl, by simp, fun k _ hk => Below.heap_setCell w _ _ k (fun e => hk (by show some k = some lb; rw [e]))⟩
   obtain ⟨W2, hW2⟩ : ∃ W2, W2 = w.setCell ⟨lb, a1, none⟩ (.int .i64 (b1 : Int)) := ⟨_, rfl⟩
   rw [← hW2] at O2 g2
   obtain ⟨zb, hzb⟩ : ∃ zb, nums.getD a1 0 = zb := ⟨_, rfl⟩
   obtain ⟨za, hza⟩ : ∃ za, nums.getD b1 0 = za := ⟨_, rfl⟩
   have cb : W2.cell? ⟨bX, oX + a1, none⟩ = some (.int .i64 zb) := by
    obtain ⟨-, -, hs2⟩ := rdq_nums O2.nm
    obtain ⟨b9, o9, e9, -, hc9⟩ := hs2 (by omega)
    injection e9 with e9
    injection e9 with e91 e92
    subst e91 e92
    rw [← hzb]; exact hc9 a1 hb
   have caa : W2.cell? ⟨bX, oX + b1, none⟩ = some (.int .i64 za) := by
    obtain ⟨-, -, hs2⟩ := rdq_nums O2.nm
    obtain ⟨b9, o9, e9, -, hc9⟩ := hs2 (by omega)
    injection e9 with e9
    injection e9 with e91 e92
    subst e91 e92
    rw [← hza]; exact hc9 b1 ha
   have c52 : W2.cell? ⟨p, 5, none⟩ = some (.slice (some ⟨bX, oX, none⟩) xn xc) := O2.c5
   have rb5 := c52
   have rbb := cb
   have rba := caa
   rw [hW2] at rb5 rbb rba
   have clb := HO.out.at hb
   have flb := HO.out.free a1
   have k0 : (0 : Int) ≤ (a1 : Int) := by omega
   have k1 : (a1 : Int) < (xn : Int) := by omega
   have k2 : (0 : Int) ≤ (b1 : Int) := by omega
   have k3 : (b1 : Int) < (xn : Int) := by omega
   have HW2 := hid hW2
   have HO2 := hid O2
   have HL2 := hid L2
   have HS2 := hid S2
   have HROOT := hid hroot
   have HG2 := hid g2
   have HZB := hid hzb
   have HZA := hid hza
   have HVV := hid vab
   have HJ := hid J
   have HSX := hid hsx
   clear O2 L2 S2 hroot g2 hW2 hzb hza vab J hsx v1 J1
   by_cases hzb0 : zb < 0
   ·have F := hid (show AnsLink w Q p lb A n c v o a u (some ⟨bX, oX, none⟩) xn xc lc sg nums nums' Inn ra ru lk rt P x y (.returned (.bool true)) W2 from ⟨true, lk.set a1 b1, rfl, HO2.out, HG2.out, fun _ => ⟨_, _, HL2.out, HS2.out, Clo.linkV HL.out HC.out (by show nums.getD a1 0 < 0; rw [HZB.out]; exact hzb0), HJ.out _ (fun i j e => rt2_coarse e) (rt2_joins rb1 ra1 hne), fun i j e => rt2_coarse e, by have := HROOT.out; omega⟩, fun h => by cases h⟩)
    clear cb caa c52
    go_enter Try.func68, Try.ntmps68
    go_wp2_with fail
    refine LF1.out.mono ?_
    rintro e w1 ⟨rfl, hw1⟩
    rw [hw1]
    clear hw1
    go_wp2_with fail
    refine LF2.out.mono ?_
    rintro e w2 ⟨rfl, hw2⟩
    rw [hw2]
    clear hw2
    go_wp2_with fail
    rw [← HW2.out]
    go_ret
    exact F.out
   ·have hza0 : 0 ≤ za := by
     rcases HSX.out with h9 | h9
     ·rw [HZA.out] at h9; exact h9
     ·rw [HZB.out] at h9; exact absurd h9 hzb0
    by_cases hzz : za = zb
    ·subst hzz
     have e2 : (za != za) = false := by simp
     obtain ⟨ja, hja⟩ := hN.sc b1 ha
     obtain ⟨jb, hjb⟩ := hN.sc a1 hb
     have LA1 := hid (fun dd => ovArgs Q p lb A n c v o a u (some ⟨bX, oX, none⟩) xn xc lc sg nums _ a1 jb (W2.drewN dd) (HO2.out.drewN dd) hs hn hxn hb hjb)
     have LA2 := hid (fun (w3 : World) (bb : Below W2.heap.size W2 w3) => ovArgs Q p lb A n c v o a u (some ⟨bX, oX, none⟩) xn xc lc sg nums _ b1 ja w3 (HO2.out.next bb) hs hn hxn ha hja)
     clear hja hjb
     go_enter Try.func68, Try.ntmps68
     go_wp2_with fail
     refine LF1.out.mono ?_
     rintro e w1 ⟨rfl, hw1⟩
     rw [hw1]
     clear hw1
     go_wp2_with fail
     refine LF2.out.mono ?_
     rintro e w2 ⟨rfl, hw2⟩
     rw [hw2]
     clear hw2
     go_wp2_with fail
     rw [← HW2.out]
     go_quiet (fail)
     go_wp2_with fail
     refine (LA1.out _).mono ?_
     rintro e w3 ⟨Y1, y1, z1, rfl, oY1, bb3⟩
     have b3 : Below W2.heap.size W2 w3 := next_trans (base.below_drewN (Below.refl _ _) _) bb3
     go_wp2_with fail
     refine (LA2.out w3 b3).mono ?_
     rintro e w4 ⟨Y2, y2, z2, rfl, oY2, bb4⟩
     have b4 : Below W2.heap.size W2 w4 := next_trans b3 bb4
     have hY1 := Own.len oY1
     have hY2 := Own.len oY2
     have gA : 0 ≤ nums.getD b1 0 := by rw [HZA.out]; exact hza0
     have gB : 0 ≤ nums.getD a1 0 := by rw [HZB.out]; exact hza0
     have gE : nums.getD b1 0 = nums.getD a1 0 := by rw [HZA.out, HZB.out]
     have lA := hN.gr.chl ha gA
     have lB := hN.gr.chl hb gB
     have hll : (chN sg nums b1).length = (chN sg nums a1).length := by rw [lA, lB]; show (ar sg (nums.getD b1 0)).toNat = (ar sg (nums.getD a1 0)).toNat; rw [gE]
     have inA : Inn b1 := root_inn HL.out ha gA rb1 ib1
     have inB : Inn a1 := root_inn HL.out hb gB ra1 ia1
     have hy2 : y2 = (chN sg nums b1).length := by rw [hY2, args_cast, List.length_map]
     have hy1 : y1 = y2 := by rw [hy2, hll, hY1, args_cast, List.length_map]
     have hcl := HC.out.linkS hb ra1 rb1 gE gB hll (fun i hi h0 hr => by rw [hN.gr.chl hi h0, lB]; have h9 : nums.getD a1 0 = nums.getD i 0 := (by have h8 := (HC.out i hi h0).1; rw [hr] at h8; exact h8); show (ar sg (nums.getD i 0)).toNat = (ar sg (nums.getD a1 0)).toNat; rw [h9])
     have hw2 : w.heap.size ≤ W2.heap.size := HG2.out.size
     have hlb := HO.out.lt.2
     have S0 := hid (show HeadLk w Q p lb A n c v o a u (some ⟨bX, oX, none⟩) xn xc lc sg nums nums' Inn ra ru (roots (lk.set a1 b1)) (rt2 rt b1 a1) P b1 a1 Y1 y1 z1 Y2 y2 z2 (.int .i64 0) w4 from
      ⟨0, _, _, _, rfl, Nat.zero_le _, HO2.out.next b4, HL2.out, HS2.out, hcl, fun i j e => e, Nat.le_refl _, grown_trans HG2.out (grown_below b4 _), Own.lower (Own.next oY1 bb4) (by have := b3.size; have h8 : W2.heap.size ≤ (W2.drewN nq).heap.size := Nat.le_refl _; omega), Own.lower oY2 (by have := b3.size; omega)⟩)
     have HY2 := hid hy2
     have HY1 := hid hy1
     have HLL := hid hll
     have hy29 : y2 ≤ 3 := by
      have h9 := ar_bd hs (nums.getD b1 0)
      rw [hy2, lA]
      show (ar sg (nums.getD b1 0)).toNat ≤ 3
      omega
     clear oY1 oY2 bb3 bb4 b3 b4 LA1 LA2 hcl hY1 hY2 lA lB hll hy2 cb caa c52 rb5 rbb rba clb
     go_wp2_with fail
     go_loopw [66] (fun i wr => HeadLk w Q p lb A n c v o a u (some ⟨bX, oX, none⟩) xn xc lc sg nums nums' Inn ra ru (roots (lk.set a1 b1)) (rt2 rt b1 a1) P b1 a1 Y1 y1 z1 Y2 y2 z2 i wr) (fun i _ => y2 - (intOf i).toNat)
     case atStart => exact S0.out
     case round =>
      clear S0
      obtain ⟨k, lk3, rt3, rk3, rfl, hk, hO3, hL3, hS3, hC3, hco, hro, hg3, oA1, oA2⟩ := hrel
      by_cases hlt : k < y2
      ·obtain ⟨ca, hca⟩ : ∃ z, (chN sg nums b1).getD k 0 = z := ⟨_, rfl⟩
       obtain ⟨cb9, hcb⟩ : ∃ z, (chN sg nums a1).getD k 0 = z := ⟨_, rfl⟩
       have hka : k < (chN sg nums b1).length := by rw [← HY2.out]; exact hlt
       have hkb : k < (chN sg nums a1).length := by rw [← HLL.out]; exact hka
       have mA : ca ∈ chN sg nums b1 := by rw [← hca, List.getD_eq_getElem?_getD, List.getElem?_eq_getElem hka]; exact List.getElem_mem hka
       have mB : cb9 ∈ chN sg nums a1 := by rw [← hcb, List.getD_eq_getElem?_getD, List.getElem?_eq_getElem hkb]; exact List.getElem_mem hkb
       have eA : (argsL sg nums b1).getD k 0 = (ca : Int) := by rw [args_cast, ← hca]; simp [List.getD, hka]
       have eB : (argsL sg nums a1).getD k 0 = (cb9 : Int) := by rw [args_cast, ← hcb]; simp [List.getD, hkb]
       obtain ⟨g2, o2, rfl, -, c2⟩ := (Own.seg oA2).round hlt
       obtain ⟨g1, o1, rfl, -, c1⟩ := (Own.seg oA1).round (show k < y1 by rw [HY1.out]; exact hlt)
       rw [eA] at c2
       rw [eB] at c1
       have cltA := hN.gr.lt b1 ha gA ca mA
       have cltB := hN.gr.lt a1 hb gB cb9 mB
       have hkv : ∀ θ, Unis sg (nodes.nd sg nums nums' ra) (nodes.nd sg nums nums' ru) θ → fillL θ (nodes.nd sg nums nums' ca) = fillL θ (nodes.nd sg nums nums' cb9) := fun θ hθ => by
        have h9 := hN.gr.kids ha hb gA gE hθ.1 (HVV.out θ hθ) hka
        rw [hca, hcb] at h9
        exact h9
       have LI := hid (HIH.out lk3 rt3 rk3 _ ca cb9 wr (by have := HROOT.out; have := HM.out; omega) hO3 hL3 hS3 hC3 cltA cltB ⟨ca, cltA, hN.gr.inn b1 ha gA inA ca mA, rfl⟩ ⟨cb9, cltB, hN.gr.inn a1 hb gB inB cb9 mB, rfl⟩ hkv)
       have i0 : (0 : Int) ≤ (k : Int) := by omega
       have i1 : (k : Int) < (y2 : Int) := by omega
       have i2 : (k : Int) < (y1 : Int) := by have := HY1.out; omega
       have HO1 := hid oA1
       have HO9 := hid oA2
       have HCO := hid hco
       have HRO := hid hro
       have HG3 := hid hg3
       have HCA := hid hca
       have HCB := hid hcb
       clear hO3 hL3 hS3 hC3 hco hro hg3 oA1 oA2 eA eB hkv mA mB hka hkb hca hcb
       go_wp2_with fail
       refine LI.out.mono ?_
       rintro e w5 ⟨ok, lk5, rfl, hO5, hg5, h5, h6⟩
       have oB1 := Own.far HO1.out hg5 (fun k hk => by injection hk with hk; omega)
       have oB2 := Own.far HO9.out hg5 (fun k hk => by injection hk with hk; omega)
       have hg6 := grown_trans HG3.out hg5
       clear LI
       cases ok with
       | false =>
        have F := hid (show AnsLink w Q p lb A n c v o a u (some ⟨bX, oX, none⟩) xn xc lc sg nums nums' Inn ra ru lk rt P x y (.returned (.bool false)) w5 from ⟨false, lk5, rfl, hO5, hg6, fun h => (by cases h), fun _ => h6 rfl⟩)
        clear hO5 hg5 h5 h6 oB1 oB2 hg6
        go_wp2
        try rw [Exit.noGoto_ret]
        go_ret
        exact F.out
       | true =>
        obtain ⟨rt5, rk5, hL5, hS5, hC5, hj5, hc5, hr5⟩ := h5 rfl
        have F := hid (show HeadLk w Q p lb A n c v o a u (some ⟨bX, oX, none⟩) xn xc lc sg nums nums' Inn ra ru (roots (lk.set a1 b1)) (rt2 rt b1 a1) P b1 a1 (some ⟨g1, o1, none⟩) y1 z1 (some ⟨g2, o2, none⟩) y2 z2 (.int .i64 ((k : Int) + 1)) w5 from
         ⟨k + 1, lk5, rt5, rk5, by simp, hlt, hO5, hL5, hS5, hC5.next (by rw [HCA.out, HCB.out]; exact hj5), fun i j e => hc5 i j (HCO.out i j e), by have := HRO.out; omega, hg6, oB1, oB2⟩)
        clear hO5 hg5 h5 h6 oB1 oB2 hg6 hL5 hS5 hC5 hj5 hc5 hr5
        go_wp2
        go_roundw
        case rel => exact F.out
        case measure => simp [intOf]; omega
      ·have hky : k = y2 := by omega
       have i1 : ¬ (k : Int) < (y2 : Int) := by omega
       have F := hid (show AnsLink w Q p lb A n c v o a u (some ⟨bX, oX, none⟩) xn xc lc sg nums nums' Inn ra ru lk rt P x y (.returned (.bool true)) wr from
        ⟨true, lk3, rfl, hO3, hg3, fun _ => ⟨rt3, rk3, hL3, hS3, hC3.done (by rw [← HY2.out, hky]; exact Nat.le_refl _), HJ.out rt3 (fun i j e => hco i j (rt2_coarse e)) (hco _ _ (rt2_joins rb1 ra1 hne)), fun i j e => hco i j (rt2_coarse e), by have := HROOT.out; omega⟩, fun h => by cases h⟩)
       clear hO3 hL3 hS3 hC3 hco hro hg3 oA1 oA2 hky
       go_wp2
       go_ret
       exact F.out
    ·have e2 : (za != zb) = true := by simp [hzz]
     have F := hid (show ∀ dd, AnsLink w Q p lb A n c v o a u (some ⟨bX, oX, none⟩) xn xc lc sg nums nums' Inn ra ru lk rt P x y (.returned (.bool false)) (W2.drewN dd) from fun dd => ⟨false, lk.set a1 b1, rfl, HO2.out.drewN dd, grown_drewN HG2.out dd, fun h => (by cases h), fun _ θ hθ => hN.gr.clash ha hb (by show 0 ≤ nums.getD b1 0; rw [HZA.out]; exact hza0) (by show 0 ≤ nums.getD a1 0; rw [HZB.out]; exact Int.not_lt.1 hzb0) (by show nums.getD b1 0 ≠ nums.getD a1 0; rw [HZA.out, HZB.out]; exact hzz) (HVV.out θ hθ)⟩)
     go_enter Try.func68, Try.ntmps68
     go_wp2_with fail
     refine LF1.out.mono ?_
     rintro e w1 ⟨rfl, hw1⟩
     rw [hw1]
     clear hw1
     go_wp2_with fail
     refine LF2.out.mono ?_
     rintro e w2 ⟨rfl, hw2⟩
     rw [hw2]
     clear hw2
     go_wp2_with fail
     rw [← HW2.out]
     go_quiet (fail)
     go_wp2
     go_ret
     exact F.out _
  ·have ha : a1 < xn := ha1n
   have hb : b1 < xn := hb1n
   have hne : a1 ≠ b1 := hab
   have hsx : 0 ≤ nums.getD a1 0 ∨ nums.getD b1 0 < 0 := .inl (by rw [HZ.out]; exact Int.not_lt.1 hz0)
   have vab : ∀ θ, Unis sg (nodes.nd sg nums nums' ra) (nodes.nd sg nums nums' ru) θ → fillL θ (nodes.nd sg nums nums' a1) = fillL θ (nodes.nd sg nums nums' b1) := v1
   have J : ∀ rt' : Nat → Nat, (∀ i j, rt i = rt j → rt' i = rt' j) → rt' a1 = rt' b1 → rt' x = rt' y := J1
   have O2 := HO.out.set (j := a1) hb
   have L2 := HL.out.link ha hb ra1 rb1 hne hsx ia1 ib1
   have S2 := HS.out.link hN.gr vab
   have hroot := roots_link HL.out hb rb1 hne
   have g2 : w.grownBy (w.setCell ⟨lb, b1, none⟩ (.int .i64 (a1 : Int))) (some lb) := ⟨rfl, rfl, rfl, by simp, fun k _ hk => Below.heap_setCell w _ _ k (fun e => hk (by show some k = some lb; rw [e]))⟩
   obtain ⟨W2, hW2⟩ : ∃ W2, W2 = w.setCell ⟨lb, b1, none⟩ (.int .i64 (a1 : Int)) := ⟨_, rfl⟩
   rw [← hW2] at O2 g2
   obtain ⟨zb, hzb⟩ : ∃ zb, nums.getD b1 0 = zb := ⟨_, rfl⟩
   obtain ⟨za, hza⟩ : ∃ za, nums.getD a1 0 = za := ⟨_, rfl⟩
   have cb : W2.cell? ⟨bX, oX + b1, none⟩ = some (.int .i64 zb) := by
    obtain ⟨-, -, hs2⟩ := rdq_nums O2.nm
    obtain ⟨b9, o9, e9, -, hc9⟩ := hs2 (by omega)
    injection e9 with e9
    injection e9 with e91 e92
    subst e91 e92
    rw [← hzb]; exact hc9 b1 hb
   have caa : W2.cell? ⟨bX, oX + a1, none⟩ = some (.int .i64 za) := by
    obtain ⟨-, -, hs2⟩ := rdq_nums O2.nm
    obtain ⟨b9, o9, e9, -, hc9⟩ := hs2 (by omega)
    injection e9 with e9
    injection e9 with e91 e92
    subst e91 e92
    rw [← hza]; exact hc9 a1 ha
   have c52 : W2.cell? ⟨p, 5, none⟩ = some (.slice (some ⟨bX, oX, none⟩) xn xc) := O2.c5
   have rb5 := c52
   have rbb := cb
   have rba := caa
   rw [hW2] at rb5 rbb rba
   have clb := HO.out.at hb
   have flb := HO.out.free b1
   have k0 : (0 : Int) ≤ (b1 : Int) := by omega
   have k1 : (b1 : Int) < (xn : Int) := by omega
   have k2 : (0 : Int) ≤ (a1 : Int) := by omega
   have k3 : (a1 : Int) < (xn : Int) := by omega
   have HW2 := hid hW2
   have HO2 := hid O2
   have HL2 := hid L2
   have HS2 := hid S2
   have HROOT := hid hroot
   have HG2 := hid g2
   have HZB := hid hzb
   have HZA := hid hza
   have HVV := hid vab
   have HJ := hid J
   have HSX := hid hsx
   clear O2 L2 S2 hroot g2 hW2 hzb hza vab J hsx v1 J1
   by_cases hzb0 : zb < 0
   ·have F := hid (show AnsLink w Q p lb A n c v o a u (some ⟨bX, oX, none⟩) xn xc lc sg nums nums' Inn ra ru lk rt P x y (.returned (.bool true)) W2 from ⟨true, lk.set b1 a1, rfl, HO2.out, HG2.out, fun _ => ⟨_, _, HL2.out, HS2.out, Clo.linkV HL.out HC.out (by show nums.getD b1 0 < 0; rw [HZB.out]; exact hzb0), HJ.out _ (fun i j e => rt2_coarse e) (rt2_joins ra1 rb1 hne), fun i j e => rt2_coarse e, by have := HROOT.out; omega⟩, fun h => by cases h⟩)
    clear cb caa c52
    go_enter Try.func68, Try.ntmps68
    go_wp2_with fail
    refine LF1.out.mono ?_
    rintro e w1 ⟨rfl, hw1⟩
    rw [hw1]
    clear hw1
    go_wp2_with fail
    refine LF2.out.mono ?_
    rintro e w2 ⟨rfl, hw2⟩
    rw [hw2]
    clear hw2
    go_wp2_with fail
    rw [← HW2.out]
    go_ret
    exact F.out
   ·have hza0 : 0 ≤ za := by
     rcases HSX.out with h9 | h9
     ·rw [HZA.out] at h9; exact h9
     ·rw [HZB.out] at h9; exact absurd h9 hzb0
    by_cases hzz : za = zb
    ·subst hzz
     have e2 : (za != za) = false := by simp
     obtain ⟨ja, hja⟩ := hN.sc a1 ha
     obtain ⟨jb, hjb⟩ := hN.sc b1 hb
     have LA1 := hid (fun dd => ovArgs Q p lb A n c v o a u (some ⟨bX, oX, none⟩) xn xc lc sg nums _ b1 jb (W2.drewN dd) (HO2.out.drewN dd) hs hn hxn hb hjb)
     have LA2 := hid (fun (w3 : World) (bb : Below W2.heap.size W2 w3) => ovArgs Q p lb A n c v o a u (some ⟨bX, oX, none⟩) xn xc lc sg nums _ a1 ja w3 (HO2.out.next bb) hs hn hxn ha hja)
     clear hja hjb
     go_enter Try.func68, Try.ntmps68
     go_wp2_with fail
     refine LF1.out.mono ?_
     rintro e w1 ⟨rfl, hw1⟩
     rw [hw1]
     clear hw1
     go_wp2_with fail
     refine LF2.out.mono ?_
     rintro e w2 ⟨rfl, hw2⟩
     rw [hw2]
     clear hw2
     go_wp2_with fail
     rw [← HW2.out]
     go_quiet (fail)
     go_wp2_with fail
     refine (LA1.out _).mono ?_
     rintro e w3 ⟨Y1, y1, z1, rfl, oY1, bb3⟩
     have b3 : Below W2.heap.size W2 w3 := next_trans (base.below_drewN (Below.refl _ _) _) bb3
     go_wp2_with fail
     refine (LA2.out w3 b3).mono ?_
     rintro e w4 ⟨Y2, y2, z2, rfl, oY2, bb4⟩
     have b4 : Below W2.heap.size W2 w4 := next_trans b3 bb4
     have hY1 := Own.len oY1
     have hY2 := Own.len oY2
     have gA : 0 ≤ nums.getD a1 0 := by rw [HZA.out]; exact hza0
     have gB : 0 ≤ nums.getD b1 0 := by rw [HZB.out]; exact hza0
     have gE : nums.getD a1 0 = nums.getD b1 0 := by rw [HZA.out, HZB.out]
     have lA := hN.gr.chl ha gA
     have lB := hN.gr.chl hb gB
     have hll : (chN sg nums a1).length = (chN sg nums b1).length := by rw [lA, lB]; show (ar sg (nums.getD a1 0)).toNat = (ar sg (nums.getD b1 0)).toNat; rw [gE]
     have inA : Inn a1 := root_inn HL.out ha gA ra1 ia1
     have inB : Inn b1 := root_inn HL.out hb gB rb1 ib1
     have hy2 : y2 = (chN sg nums a1).length := by rw [hY2, args_cast, List.length_map]
     have hy1 : y1 = y2 := by rw [hy2, hll, hY1, args_cast, List.length_map]
     have hcl := HC.out.linkS hb rb1 ra1 gE gB hll (fun i hi h0 hr => by rw [hN.gr.chl hi h0, lB]; have h9 : nums.getD b1 0 = nums.getD i 0 := (by have h8 := (HC.out i hi h0).1; rw [hr] at h8; exact h8); show (ar sg (nums.getD i 0)).toNat = (ar sg (nums.getD b1 0)).toNat; rw [h9])
     have hw2 : w.heap.size ≤ W2.heap.size := HG2.out.size
     have hlb := HO.out.lt.2
     have S0 := hid (show HeadLk w Q p lb A n c v o a u (some ⟨bX, oX, none⟩) xn xc lc sg nums nums' Inn ra ru (roots (lk.set b1 a1)) (rt2 rt a1 b1) P a1 b1 Y1 y1 z1 Y2 y2 z2 (.int .i64 0) w4 from
      ⟨0, _, _, _, rfl, Nat.zero_le _, HO2.out.next b4, HL2.out, HS2.out, hcl, fun i j e => e, Nat.le_refl _, grown_trans HG2.out (grown_below b4 _), Own.lower (Own.next oY1 bb4) (by have := b3.size; have h8 : W2.heap.size ≤ (W2.drewN nq).heap.size := Nat.le_refl _; omega), Own.lower oY2 (by have := b3.size; omega)⟩)
     have HY2 := hid hy2
     have HY1 := hid hy1
     have HLL := hid hll
     have hy29 : y2 ≤ 3 := by
      have h9 := ar_bd hs (nums.getD a1 0)
      rw [hy2, lA]
      show (ar sg (nums.getD a1 0)).toNat ≤ 3
      omega
     clear oY1 oY2 bb3 bb4 b3 b4 LA1 LA2 hcl hY1 hY2 lA lB hll hy2 cb caa c52 rb5 rbb rba clb
     go_wp2_with fail
     go_loopw [66] (fun i wr => HeadLk w Q p lb A n c v o a u (some ⟨bX, oX, none⟩) xn xc lc sg nums nums' Inn ra ru (roots (lk.set b1 a1)) (rt2 rt a1 b1) P a1 b1 Y1 y1 z1 Y2 y2 z2 i wr) (fun i _ => y2 - (intOf i).toNat)
     case atStart => exact S0.out
     case round =>
      clear S0
      obtain ⟨k, lk3, rt3, rk3, rfl, hk, hO3, hL3, hS3, hC3, hco, hro, hg3, oA1, oA2⟩ := hrel
      by_cases hlt : k < y2
      ·obtain ⟨ca, hca⟩ : ∃ z, (chN sg nums a1).getD k 0 = z := ⟨_, rfl⟩
       obtain ⟨cb9, hcb⟩ : ∃ z, (chN sg nums b1).getD k 0 = z := ⟨_, rfl⟩
       have hka : k < (chN sg nums a1).length := by rw [← HY2.out]; exact hlt
       have hkb : k < (chN sg nums b1).length := by rw [← HLL.out]; exact hka
       have mA : ca ∈ chN sg nums a1 := by rw [← hca, List.getD_eq_getElem?_getD, List.getElem?_eq_getElem hka]; exact List.getElem_mem hka
       have mB : cb9 ∈ chN sg nums b1 := by rw [← hcb, List.getD_eq_getElem?_getD, List.getElem?_eq_getElem hkb]; exact List.getElem_mem hkb
       have eA : (argsL sg nums a1).getD k 0 = (ca : Int) := by rw [args_cast, ← hca]; simp [List.getD, hka]
       have eB : (argsL sg nums b1).getD k 0 = (cb9 : Int) := by rw [args_cast, ← hcb]; simp [List.getD, hkb]
       obtain ⟨g2, o2, rfl, -, c2⟩ := (Own.seg oA2).round hlt
       obtain ⟨g1, o1, rfl, -, c1⟩ := (Own.seg oA1).round (show k < y1 by rw [HY1.out]; exact hlt)
       rw [eA] at c2
       rw [eB] at c1
       have cltA := hN.gr.lt a1 ha gA ca mA
       have cltB := hN.gr.lt b1 hb gB cb9 mB
       have hkv : ∀ θ, Unis sg (nodes.nd sg nums nums' ra) (nodes.nd sg nums nums' ru) θ → fillL θ (nodes.nd sg nums nums' ca) = fillL θ (nodes.nd sg nums nums' cb9) := fun θ hθ => by
        have h9 := hN.gr.kids ha hb gA gE hθ.1 (HVV.out θ hθ) hka
        rw [hca, hcb] at h9
        exact h9
       have LI := hid (HIH.out lk3 rt3 rk3 _ ca cb9 wr (by have := HROOT.out; have := HM.out; omega) hO3 hL3 hS3 hC3 cltA cltB ⟨ca, cltA, hN.gr.inn a1 ha gA inA ca mA, rfl⟩ ⟨cb9, cltB, hN.gr.inn b1 hb gB inB cb9 mB, rfl⟩ hkv)
       have i0 : (0 : Int) ≤ (k : Int) := by omega
       have i1 : (k : Int) < (y2 : Int) := by omega
       have i2 : (k : Int) < (y1 : Int) := by have := HY1.out; omega
       have HO1 := hid oA1
       have HO9 := hid oA2
       have HCO := hid hco
       have HRO := hid hro
       have HG3 := hid hg3
       have HCA := hid hca
       have HCB := hid hcb
       clear hO3 hL3 hS3 hC3 hco hro hg3 oA1 oA2 eA eB hkv mA mB hka hkb hca hcb
       go_wp2_with fail
       refine LI.out.mono ?_
       rintro e w5 ⟨ok, lk5, rfl, hO5, hg5, h5, h6⟩
       have oB1 := Own.far HO1.out hg5 (fun k hk => by injection hk with hk; omega)
       have oB2 := Own.far HO9.out hg5 (fun k hk => by injection hk with hk; omega)
       have hg6 := grown_trans HG3.out hg5
       clear LI
       cases ok with
       | false =>
        have F := hid (show AnsLink w Q p lb A n c v o a u (some ⟨bX, oX, none⟩) xn xc lc sg nums nums' Inn ra ru lk rt P x y (.returned (.bool false)) w5 from ⟨false, lk5, rfl, hO5, hg6, fun h => (by cases h), fun _ => h6 rfl⟩)
        clear hO5 hg5 h5 h6 oB1 oB2 hg6
        go_wp2
        try rw [Exit.noGoto_ret]
        go_ret
        exact F.out
       | true =>
        obtain ⟨rt5, rk5, hL5, hS5, hC5, hj5, hc5, hr5⟩ := h5 rfl
        have F := hid (show HeadLk w Q p lb A n c v o a u (some ⟨bX, oX, none⟩) xn xc lc sg nums nums' Inn ra ru (roots (lk.set b1 a1)) (rt2 rt a1 b1) P a1 b1 (some ⟨g1, o1, none⟩) y1 z1 (some ⟨g2, o2, none⟩) y2 z2 (.int .i64 ((k : Int) + 1)) w5 from
         ⟨k + 1, lk5, rt5, rk5, by simp, hlt, hO5, hL5, hS5, hC5.next (by rw [HCA.out, HCB.out]; exact hj5), fun i j e => hc5 i j (HCO.out i j e), by have := HRO.out; omega, hg6, oB1, oB2⟩)
        clear hO5 hg5 h5 h6 oB1 oB2 hg6 hL5 hS5 hC5 hj5 hc5 hr5
        go_wp2
        go_roundw
        case rel => exact F.out
        case measure => simp [intOf]; omega
      ·have hky : k = y2 := by omega
       have i1 : ¬ (k : Int) < (y2 : Int) := by omega
       have F := hid (show AnsLink w Q p lb A n c v o a u (some ⟨bX, oX, none⟩) xn xc lc sg nums nums' Inn ra ru lk rt P x y (.returned (.bool true)) wr from
        ⟨true, lk3, rfl, hO3, hg3, fun _ => ⟨rt3, rk3, hL3, hS3, hC3.done (by rw [← HY2.out, hky]; exact Nat.le_refl _), HJ.out rt3 (fun i j e => hco i j (rt2_coarse e)) (hco _ _ (rt2_joins ra1 rb1 hne)), fun i j e => hco i j (rt2_coarse e), by have := HROOT.out; omega⟩, fun h => by cases h⟩)
       clear hO3 hL3 hS3 hC3 hco hro hg3 oA1 oA2 hky
       go_wp2
       go_ret
       exact F.out
    ·have e2 : (za != zb) = true := by simp [hzz]
     have F := hid (show ∀ dd, AnsLink w Q p lb A n c v o a u (some ⟨bX, oX, none⟩) xn xc lc sg nums nums' Inn ra ru lk rt P x y (.returned (.bool false)) (W2.drewN dd) from fun dd => ⟨false, lk.set b1 a1, rfl, HO2.out.drewN dd, grown_drewN HG2.out dd, fun h => (by cases h), fun _ θ hθ => hN.gr.clash ha hb (by show 0 ≤ nums.getD a1 0; rw [HZA.out]; exact hza0) (by show 0 ≤ nums.getD b1 0; rw [HZB.out]; exact Int.not_lt.1 hzb0) (by show nums.getD a1 0 ≠ nums.getD b1 0; rw [HZA.out, HZB.out]; exact hzz) (HVV.out θ hθ)⟩)
     go_enter Try.func68, Try.ntmps68
     go_wp2_with fail
     refine LF1.out.mono ?_
     rintro e w1 ⟨rfl, hw1⟩
     rw [hw1]
     clear hw1
     go_wp2_with fail
     refine LF2.out.mono ?_
     rintro e w2 ⟨rfl, hw2⟩
     rw [hw2]
     clear hw2
     go_wp2_with fail
     rw [← HW2.out]
     go_quiet (fail)
     go_wp2
     go_ret
     exact F.out _
end linkImpl
end
section
namespace ovStart
open sig term termOk termFacts args fillMath renMath matchMath unifMath forest triMath nodes ufMath linkImpl
set_option maxRecDepth 100000
theorem idx_le : ∀ {l : List Int} {k : Nat}, k < l.length → idx l (l.getD k 0) ≤ k
 | y :: r, 0, _ => by simp [idx]
 | y :: r, k + 1, h => by
  rw [idx]
  split
  ·omega
  ·have := idx_le (l := r) (k := k) (by simpa using h)
   simpa using this
theorem get_mem {l : List Int} {k : Nat} (hk : k < l.length) : l.getD k 0 ∈ l := by
 rw [List.getD_eq_getElem?_getD, List.getElem?_eq_getElem hk]
 exact List.getElem_mem _
def fi (l : List Int) (k : Nat) : Nat := if l.getD k 0 < 0 then idx l (l.getD k 0) else k
theorem fi_le {l : List Int} {k : Nat} (hk : k < l.length) : fi l k ≤ k := by
 unfold fi
 split
 ·exact idx_le hk
 ·exact Nat.le_refl _
theorem fi_val {l : List Int} {k : Nat} (hk : k < l.length) : l.getD (fi l k) 0 = l.getD k 0 := by
 unfold fi
 split
 ·exact idx_get (get_mem hk)
 ·rfl
theorem fi_same {l : List Int} {j k : Nat} (h0 : l.getD k 0 < 0) (e : l.getD j 0 = l.getD k 0) : fi l j = fi l k := by
 unfold fi
 rw [e, if_pos h0, if_pos h0]
theorem fi_fi {l : List Int} {k : Nat} (hk : k < l.length) : fi l (fi l k) = fi l k := by
 by_cases h0 : l.getD k 0 < 0
 ·exact fi_same h0 (fi_val hk)
 ·have e : fi l k = k := by
   unfold fi
   rw [if_neg h0]
  rw [e, e]
theorem fi_sym {l : List Int} {k : Nat} (h0 : 0 ≤ l.getD k 0) : fi l k = k := by
 unfold fi
 rw [if_neg (by omega)]
def lk0 (lo lu : List Int) : List Nat := (List.range lo.length).map (fi lo) ++ (List.range lu.length).map fun k => lo.length + fi lu k
theorem lk_len (lo lu : List Int) : (lk0 lo lu).length = lo.length + lu.length := by simp [lk0]
theorem lk_lo {lo lu : List Int} {i : Nat} (hi : i < lo.length) : (lk0 lo lu).getD i 0 = fi lo i := by
 unfold lk0
 rw [List.getD_eq_getElem?_getD, List.getElem?_append_left (by simpa using hi)]
 simp [hi]
theorem lk_lu {lo lu : List Int} {k : Nat} (hk : k < lu.length) : (lk0 lo lu).getD (lo.length + k) 0 = lo.length + fi lu k := by
 unfold lk0
 rw [List.getD_eq_getElem?_getD, List.getElem?_append_right (by simp)]
 simp [hk]
theorem two {p q i : Nat} (h : i < p + q) : i < p ∨ ∃ k, k < q ∧ i = p + k := by
 by_cases e : i < p
 ·exact .inl e
 ·exact .inr ⟨i - p, by omega, by omega⟩
theorem get_lo {lo r : List Int} {i : Nat} (hi : i < lo.length) : (lo ++ r).getD i 0 = lo.getD i 0 := by
 rw [List.getD_eq_getElem?_getD, List.getElem?_append_left hi, List.getD_eq_getElem?_getD]
theorem get_lu {lo r : List Int} {k : Nat} : (lo ++ r).getD (lo.length + k) 0 = r.getD k 0 := by
 rw [List.getD_eq_getElem?_getD, List.getElem?_append_right (by omega), List.getD_eq_getElem?_getD]
 simp
theorem get_sh {l : List Int} {k : Nat} (hk : k < l.length) : (shiftL 24 l).getD k 0 = sh 24 (l.getD k 0) := by
 unfold shiftL
 simp [List.getD_eq_getElem?_getD, hk]
section
variable {sg lo lu : List Int}
theorem lk_facts {i : Nat} (hi : i < lo.length + lu.length) : (lk0 lo lu).getD i 0 ≤ i ∧ (lk0 lo lu).getD ((lk0 lo lu).getD i 0) 0 = (lk0 lo lu).getD i 0 ∧ (lo ++ lu).getD ((lk0 lo lu).getD i 0) 0 = (lo ++ lu).getD i 0 ∧ (lo ++ shiftL 24 lu).getD ((lk0 lo lu).getD i 0) 0 = (lo ++ shiftL 24 lu).getD i 0 ∧ (0 ≤ (lo ++ lu).getD i 0 → (lk0 lo lu).getD i 0 = i) := by
 rcases two hi with h | ⟨k, h, rfl⟩
 ·have h1 : fi lo i < lo.length := Nat.lt_of_le_of_lt (fi_le h) h
  rw [lk_lo h, lk_lo h1, get_lo h1, get_lo h, get_lo h1, get_lo h]
  exact ⟨fi_le h, fi_fi h, fi_val h, fi_val h, fun h0 => fi_sym h0⟩
 ·have h1 : fi lu k < lu.length := Nat.lt_of_le_of_lt (fi_le h) h
  rw [lk_lu h, lk_lu h1, get_lu, get_lu, get_lu, get_lu, get_sh h1, get_sh h]
  exact ⟨Nat.add_le_add_left (fi_le h) _, by rw [fi_fi h], fi_val h, by rw [fi_val h], fun h0 => by rw [fi_sym h0]⟩
theorem twin (lo lu : List Int) : nodes.Twin (lo ++ lu) (lo ++ shiftL 24 lu) := by
 refine ⟨by simp [shift_len], fun i h0 => ?_, fun i h0 => ?_⟩
 ·by_cases hi : i < lo.length + lu.length
  ·rcases two hi with h | ⟨k, h, rfl⟩
   ·rw [get_lo h, get_lo h]
   ·rw [get_lu] at h0
    rw [get_lu, get_lu, get_sh h]
    unfold sh
    rw [if_neg (by omega)]
  ·rw [List.getD_eq_getElem?_getD, List.getD_eq_getElem?_getD, List.getElem?_eq_none (by simp [shift_len]; omega), List.getElem?_eq_none (by simp; omega)]
 ·by_cases hi : i < lo.length + lu.length
  ·rcases two hi with h | ⟨k, h, rfl⟩
   ·rw [get_lo h] at h0 ⊢
    exact h0
   ·rw [get_lu] at h0
    rw [get_lu, get_sh h]
    unfold sh
    rw [if_pos h0]
    omega
  ·rw [List.getD_eq_getElem?_getD, List.getElem?_eq_none (by simp; omega)] at h0
   exact absurd h0 (by simp)
theorem sc_lo (ho : scan sg 1 lo = some lo.length) {i : Nat} (hi : i < lo.length) : ∃ j, scan sg 1 ((lo ++ lu).drop i) = some j ∧ scan sg 1 (lo.drop i) = some j ∧ 1 ≤ j ∧ i + j ≤ lo.length := by
 obtain ⟨j, h1, h2, h3⟩ := scan_at ho hi
 refine ⟨j, ?_, h1, h2, h3⟩
 rw [List.drop_append_of_le_length (by omega)]
 exact termMath.scan_append h1
theorem drop_lu {l : List Int} (k : Nat) : (lo ++ l).drop (lo.length + k) = l.drop k := by
 rw [← List.drop_drop, List.drop_left]
theorem sc_all (ho : scan sg 1 lo = some lo.length) (hu : scan sg 1 lu = some lu.length) {i : Nat} (hi : i < lo.length + lu.length) : ∃ j, scan sg 1 ((lo ++ lu).drop i) = some j := by
 rcases two hi with h | ⟨k, h, rfl⟩
 ·obtain ⟨j, h1, -⟩ := sc_lo (lu := lu) ho h
  exact ⟨j, h1⟩
 ·obtain ⟨j, h1, -⟩ := scan_at hu h
  exact ⟨j, by rw [drop_lu]; exact h1⟩
theorem len_lo (ho : scan sg 1 lo = some lo.length) {i : Nat} (hi : i < lo.length) : len1 sg (lo ++ lu) i = len1 sg lo i := by
 obtain ⟨j, h1, h2, -⟩ := sc_lo (lu := lu) ho hi
 rw [len1_eq h1, len1_eq h2]
theorem nd_lo (ho : scan sg 1 lo = some lo.length) {a : Nat} (ha : a < lo.length) : nodes.nd sg (lo ++ lu) (lo ++ shiftL 24 lu) a = (lo.drop a).take (len1 sg lo a) := by
 unfold nodes.nd
 obtain ⟨j, h1, h2, h3, h4⟩ := sc_lo (lu := lu) ho ha
 rw [len_lo ho ha, len1_eq h2, List.drop_append_of_le_length (by omega), List.take_append_of_le_length (by simp; omega)]
theorem nd_lu (hu : scan sg 1 lu = some lu.length) : nodes.nd sg (lo ++ lu) (lo ++ shiftL 24 lu) lo.length = shiftL 24 lu := by
 unfold nodes.nd
 have h1 : scan sg 1 ((lo ++ lu).drop lo.length) = some lu.length := by rw [List.drop_left]; exact hu
 rw [len1_eq h1, List.drop_left]
 exact List.take_of_length_le (by rw [shift_len]; exact Nat.le_refl _)
def inn (sg lo : List Int) (a i : Nat) : Prop := (a ≤ i ∧ i < a + len1 sg lo a) ∨ lo.length ≤ i
theorem len_in {t : List Int} {a i j : Nat} (h : scan sg 1 (t.drop a) = some j) (h1 : a ≤ i) (h2 : i < a + j) : i + len1 sg t i ≤ a + j := by
 obtain ⟨q, hq⟩ := scan_tail (a := i - a) h (by omega)
 rw [List.drop_drop, show a + (i - a) = i by omega] at hq
 obtain ⟨k, hk1, hk2, hk3, -⟩ := scan_first hq
 rw [len1_eq hk1]
 omega
theorem gr0 (ho : scan sg 1 lo = some lo.length) (hu : scan sg 1 lu = some lu.length) (hv : ∀ x ∈ lo, -24 ≤ x) {a : Nat} (ha : a < lo.length) : Nd sg (lo ++ lu) (lo ++ shiftL 24 lu) (lo.length + lu.length) (inn sg lo a) a lo.length := by
 have hT := twin lo lu
 have hall := fun {i : Nat} (hi : i < lo.length + lu.length) => sc_all (sg := sg) ho hu hi
 have hu1 : 1 ≤ lu.length := scan_pos hu
 refine ⟨⟨fun i hi => ?_, fun i hi h0 => ?_, fun i hi h0 c hc => ?_, fun i hi h0 => ?_, fun i hi h0 hI c hc => ?_, ?_, ?_⟩, fun i hi => hall hi, by simp⟩
 ·obtain ⟨j, hj⟩ := hall hi
  exact (nd_all hT _ i j hj (Nat.le_refl _)).1
 ·obtain ⟨j, hj⟩ := hall hi
  exact (nd_all hT _ i j hj (Nat.le_refl _)).2.1 h0
 ·obtain ⟨j, hj⟩ := hall hi
  have := (ch_in hj c hc).2.2.1
  simpa using this
 ·obtain ⟨j, hj⟩ := hall hi
  exact ⟨_, hT.var i h0, (nd_all hT _ i j hj (Nat.le_refl _)).2.2 h0⟩
 ·obtain ⟨j, hj⟩ := hall hi
  obtain ⟨c1, c2, c3, c4⟩ := ch_in hj c hc
  have c5 := scan_pos c4
  rcases hI with ⟨h1, h2⟩ | h1
  ·left
   obtain ⟨ja, g1, g2, g3, g4⟩ := sc_lo (lu := lu) ho ha
   have g5 := len1_eq g2
   have := len_in g1 h1 (by omega)
   rw [len1_eq hj] at this
   omega
  ·right
   omega
 ·obtain ⟨ja, g1, g2, g3, g4⟩ := sc_lo (lu := lu) ho ha
  have := len1_eq g2
  exact ⟨.inl ⟨Nat.le_refl _, by omega⟩, by omega⟩
 ·exact ⟨.inr (Nat.le_refl _), by omega⟩
theorem lk0_ok (ho : scan sg 1 lo = some lo.length) (hu : scan sg 1 lu = some lu.length) (hv : ∀ x ∈ lo, -24 ≤ x) (a : Nat) : Lk (lo.length + lu.length) (fun i => (lo ++ lu).getD i 0) (nodes.nd sg (lo ++ lu) (lo ++ shiftL 24 lu)) (inn sg lo a) (lk0 lo lu) (fun i => (lk0 lo lu).getD i 0) (fun i => i) := by
 have hT := twin lo lu
 have hall := fun {i : Nat} (hi : i < lo.length + lu.length) => sc_all (sg := sg) ho hu hi
 refine ⟨lk_len _ _, fun i hi => ?_, fun i hi => ?_, fun i hi => ?_, fun i hi h => h, fun i hi h => ?_, fun i hi h0 => ?_, fun i j hi hj h0 e => ?_, fun i hi h0 _ j hj e => ?_⟩
 ·have := (lk_facts hi).1
  exact ⟨by omega, by show (lk0 lo lu).getD i 0 < _; omega⟩
 ·exact ⟨(lk_facts hi).2.1, (lk_facts hi).2.1⟩
 ·exact (lk_facts hi).2.1
 ·have := (lk_facts hi).1
  show (lk0 lo lu).getD i 0 < i
  omega
 ·show 0 ≤ (lo ++ lu).getD ((lk0 lo lu).getD i 0) 0
  rw [(lk_facts hi).2.2.1]
  exact h0
 ·obtain ⟨ji, hji⟩ := hall hi
  obtain ⟨jj, hjj⟩ := hall hj
  have e1 := (nd_all hT _ i ji hji (Nat.le_refl _)).2.2 h0
  have h1 := hT.var i h0
  have h2 : (lo ++ lu).getD j 0 < 0 := by
   by_cases hn : (lo ++ lu).getD j 0 < 0
   ·exact hn
   ·have := ((nd_all hT _ j jj hjj (Nat.le_refl _)).2.1 (by omega)).2
    rw [← e, e1] at this
    simp only [List.getD_cons_zero] at this
    omega
  have e2 := (nd_all hT _ j jj hjj (Nat.le_refl _)).2.2 h2
  rw [e1, e2] at e
  injection e with e _
  show (lk0 lo lu).getD i 0 = (lk0 lo lu).getD j 0
  rcases two hi with hi' | ⟨k, hi', rfl⟩ <;> rcases two hj with hj' | ⟨k', hj', rfl⟩
  ·rw [get_lo hi', get_lo hj'] at e
   rw [get_lo hj'] at h2
   rw [lk_lo hi', lk_lo hj', fi_same h2 e]
  ·exfalso
   rw [get_lo hi', get_lu, get_sh hj'] at e
   rw [get_lu] at h2
   have := hv _ (get_mem hi')
   unfold sh at e
   rw [if_pos h2] at e
   omega
  ·exfalso
   rw [get_lo hj', get_lu, get_sh hi'] at e
   rw [get_lu] at h0
   have := hv _ (get_mem hj')
   unfold sh at e
   rw [if_pos h0] at e
   omega
  ·rw [get_lu, get_lu, get_sh hi', get_sh hj'] at e
   rw [get_lu] at h0 h2
   unfold sh at e
   rw [if_pos h2, if_pos h0] at e
   rw [lk_lu hi', lk_lu hj', fi_same h2 (by omega)]
 ·have e' : (lk0 lo lu).getD j 0 = (lk0 lo lu).getD i 0 := e
  have h3 := (lk_facts hi).2.2.2.2 h0
  have h4 := (lk_facts hj).2.2.1
  rw [e', h3] at h4
  rw [(lk_facts hj).2.2.2.2 (by rw [← h4]; exact h0), h3] at e'
  exact e'
theorem snd0 (ho : scan sg 1 lo = some lo.length) (hu : scan sg 1 lu = some lu.length) (a u : Nat) : Snd sg (lo.length + lu.length) (nodes.nd sg (lo ++ lu) (lo ++ shiftL 24 lu)) a u fun i => (lk0 lo lu).getD i 0 := by
 intro θ _ i hi
 have hT := twin lo lu
 show fillL θ (nodes.nd sg (lo ++ lu) (lo ++ shiftL 24 lu) i) = fillL θ (nodes.nd sg (lo ++ lu) (lo ++ shiftL 24 lu) ((lk0 lo lu).getD i 0))
 by_cases h0 : 0 ≤ (lo ++ lu).getD i 0
 ·rw [(lk_facts hi).2.2.2.2 h0]
 ·obtain ⟨f1, f2, f3, f4, f5⟩ := lk_facts hi
  obtain ⟨ji, hji⟩ := sc_all (sg := sg) ho hu hi
  obtain ⟨jj, hjj⟩ := sc_all (sg := sg) ho hu (show (lk0 lo lu).getD i 0 < lo.length + lu.length by omega)
  rw [(nd_all hT _ i ji hji (Nat.le_refl _)).2.2 (by omega), (nd_all hT _ _ jj hjj (Nat.le_refl _)).2.2 (by rw [f3]; omega), f4]
theorem clo0 (P : Nat → Nat → Prop) : Clo (lo.length + lu.length) (fun i => (lo ++ lu).getD i 0) (chN sg (lo ++ lu)) (fun i => (lk0 lo lu).getD i 0) P := by
 intro i hi h0
 have e := (lk_facts hi).2.2.2.2 h0
 refine ⟨by show (lo ++ lu).getD ((lk0 lo lu).getD i 0) 0 = (lo ++ lu).getD i 0; rw [e], fun k hk => ?_⟩
 show Eqc _ P ((chN sg (lo ++ lu) i).getD k 0) ((chN sg (lo ++ lu) ((lk0 lo lu).getD i 0)).getD k 0)
 rw [e]
 exact .same _ _ rfl
def lkT (s : Nat) (l : List Int) (k : Nat) : List Nat := (List.range k).map fun i => s + fi l i
theorem lkT_next (s : Nat) (l : List Int) (k : Nat) : lkT s l (k + 1) = lkT s l k ++ [s + fi l k] := by
 unfold lkT
 rw [List.range_succ, List.map_append]
 rfl
theorem lkT_all (lo lu : List Int) : lkT 0 lo lo.length ++ lkT lo.length lu lu.length = lk0 lo lu := by
 unfold lkT lk0
 congr 1
 exact List.map_congr_left fun i _ => by simp
theorem cover {sg t : List Int} : ∀ {q p k i : Nat}, scan sg q (t.drop p) = some k → p ≤ i → i < p + k → ∃ c, c ∈ (places sg t q p).map Int.toNat ∧ c ≤ i ∧ i < c + len1 sg t c
 | 0, p, k, i, h, h1, h2 => by
  rw [scan_zero] at h
  injection h with h
  omega
 | q + 1, p, k, i, h, h1, h2 => by
  obtain ⟨j, g1, g2, g3, g4⟩ := scan_first h
  have ej := len1_eq g1
  by_cases e : i < p + j
  ·exact ⟨p, by simp [places], h1, by omega⟩
  ·obtain ⟨c, c1, c2, c3⟩ := cover (i := i) g4 (by omega) (by omega)
   refine ⟨c, ?_, c2, c3⟩
   rw [places, List.map_cons, ej]
   exact List.mem_cons_of_mem _ c1
theorem getD_mem {l : List Nat} {k : Nat} (hk : k < l.length) : l.getD k 0 ∈ l := by
 rw [List.getD_eq_getElem?_getD, List.getElem?_eq_getElem hk]
 exact List.getElem_mem _
theorem down {sg nums nums' : List Int} {n a u : Nat} {Inn : Nat → Prop} {lk : List Nat} {rt rk : Nat → Nat} {D : List Nat} (hN : Nd sg nums nums' n Inn a u) (hL : Lk n (fun i => nums.getD i 0) (nodes.nd sg nums nums') Inn lk rt rk) (hC : Clo n (fun i => nums.getD i 0) (chN sg nums) rt fun _ _ => False)
  (hD : ufMath.Good n (fun i => nums.getD i 0) (chN sg nums) rt D) : ∀ (m i : Nat), i < n → len1 sg nums i ≤ m → rt i ∈ D → ∀ i', i ≤ i' → i' < i + len1 sg nums i → rt i' ∈ D
 | 0, i, hi, hm, hr, i', h1, h2 => by omega
 | m + 1, i, hi, hm, hr, i', h1, h2 => by
  by_cases e : i' = i
  ·rw [e]; exact hr
  obtain ⟨j, hj⟩ := hN.sc i hi
  have ej := len1_eq hj
  obtain ⟨i0, e0, g1, g2, g3⟩ := scan_args hj
  by_cases h0 : nums.getD i 0 < 0
  ·exfalso
   have har : ar sg (nums.getD i 0) = 0 := by
    by_cases hb : -24 ≤ nums.getD i 0
    ·exact ar_var ⟨hb, by omega⟩
    ·exact absurd (ar_no (sg := sg) (x := nums.getD i 0) (by omega) (by omega)) (by omega)
   rw [har] at g3
   have : scan sg (Int.toNat 0) (nums.drop (i + 1)) = some 0 := scan_zero _ _
   rw [g3] at this
   injection this with this
   omega
  ·obtain ⟨c, c1, c2, c3⟩ := cover (i := i') g3 (by omega) (by omega)
   have hc : c ∈ chN sg nums i := c1
   obtain ⟨d1, d2, d3, d4⟩ := ch_in hj c hc
   obtain ⟨k, hk, ek⟩ := List.getElem_of_mem hc
   have ek' : (chN sg nums i).getD k 0 = c := by rw [List.getD_eq_getElem?_getD, List.getElem?_eq_getElem hk, ek]; rfl
   obtain ⟨f1, f2⟩ := hC i hi (show 0 ≤ nums.getD i 0 by omega)
   have f3 := Eqc.none (f2 k hk)
   have hri := (hL.lt i hi).2
   replace f1 : nums.getD (rt i) 0 = nums.getD i 0 := f1
   have hl1 := hN.gr.chl (i := i) hi (show 0 ≤ nums.getD i 0 by omega)
   have hl2 := hN.gr.chl (i := rt i) hri (by rw [f1]; show 0 ≤ nums.getD i 0; omega)
   rw [f1] at hl2
   have hk2 : k < (chN sg nums (rt i)).length := by rw [hl2, ← hl1]; exact hk
   obtain ⟨jx, hjx, ejx⟩ := mem_at.1 hr
   obtain ⟨-, -, hcl⟩ := hD jx hjx
   rw [ejx] at hcl
   obtain ⟨ix, hix, eix⟩ := hcl (by show 0 ≤ nums.getD (rt i) 0; rw [f1]; omega) _ (getD_mem hk2)
   have hrc : rt c ∈ D := by
    rw [← ek', f3, ← eix]
    exact mem_at.2 ⟨ix, by omega, rfl⟩
   exact down hN hL hC hD m c (by rw [← hN.len]; exact d3) (by omega) hrc i' c2 c3
theorem whole_of {sg lo lu : List Int} (ho : scan sg 1 lo = some lo.length) (hu : scan sg 1 lu = some lu.length) (hv : ∀ x ∈ lo, -24 ≤ x) {a : Nat} (ha : a < lo.length) {lk : List Nat} {rt rk : Nat → Nat} {D : List Nat}
  (hL : Lk (lo.length + lu.length) (fun i => (lo ++ lu).getD i 0) (nodes.nd sg (lo ++ lu) (lo ++ shiftL 24 lu)) (inn sg lo a) lk rt rk) (hS : Snd sg (lo.length + lu.length) (nodes.nd sg (lo ++ lu) (lo ++ shiftL 24 lu)) a lo.length rt) (hC : Clo (lo.length + lu.length) (fun i => (lo ++ lu).getD i 0) (chN sg (lo ++ lu)) rt fun _ _ => False)
  (he : rt a = rt lo.length) (hD : ufMath.Good (lo.length + lu.length) (fun i => (lo ++ lu).getD i 0) (chN sg (lo ++ lu)) rt D) (hr : rt a ∈ D) :
  Whole sg (lo.length + lu.length) (fun i => (lo ++ lu).getD i 0) (nodes.nd sg (lo ++ lu) (lo ++ shiftL 24 lu)) (chN sg (lo ++ lu)) (inn sg lo a) a lo.length lk rt rk D := by
 have hN := gr0 (lu := lu) ho hu hv ha
 have hu1 := scan_pos hu
 refine ⟨hN.gr, hL, hS, hC, he, hD, fun i hi hI => ?_⟩
 rcases hI with ⟨h1, h2⟩ | h1
 ·exact down hN hL hC hD _ a (by omega) (Nat.le_refl _) hr i h1 (by rw [len_lo ho ha]; exact h2)
 ·refine down hN hL hC hD _ lo.length (by omega) (Nat.le_refl _) (he ▸ hr) i h1 ?_
  have h3 : scan sg 1 ((lo ++ lu).drop lo.length) = some lu.length := by rw [List.drop_left]; exact hu
  rw [len1_eq h3]
  exact hi
end
end ovStart
end
section
namespace renImpl
open Go.RowKit base ints sig cursor term termOk marks app appAt sym segs termFacts varsMath fillMath Go.Proofs.Ytfmjhfodjhkmlaa.look renMath rename
set_option maxRecDepth 100000
def vn (n : Int) : Int := -1 - n
structure Side (p : Nat) (r : Option Nat) (a b : World) : Prop where
 os : b.os = a.os
 tape : b.tape = a.tape
 output : b.output = a.output
 size : a.heap.size ≤ b.heap.size
 block : ∀ k, k < a.heap.size → k ≠ p → some k ≠ r → b.heap[k]? = a.heap[k]?
section
variable {p : Nat} {r : Option Nat} {a b c : World}
theorem Side.trans (h : Side p r a b) (k : Side p r b c) : Side p r a c :=
 ⟨k.os.trans h.os, k.tape.trans h.tape, k.output.trans h.output, Nat.le_trans h.size k.size, fun i hi hp hr => (k.block i (Nat.lt_of_lt_of_le hi h.size) hp hr).trans (h.block i hi hp hr)⟩
theorem Own.side {base n cc : Nat} {O : Option Addr} {xs : List Int} {cs : Array Value} (h : Own a base (.slice O n cc) xs) (hs : Side p r a b) (hv : Row a p 22 cs) (hne : blk O = none ∨ blk O ≠ r) : Own b base (.slice O n cc) xs := by
 obtain ⟨q1, q2⟩ := h
 refine ⟨q1, ?_⟩
 rcases q2 with q2 | ⟨g, cap, cur, e, hg, hh, rest⟩
 ·exact .inl q2
 ·refine .inr ⟨g, cap, cur, e, hg, ?_, rest⟩
  have hlt : g < a.heap.size := (Array.getElem?_eq_some_iff.1 hh).1
  have hb : blk O = some g := by rw [← blk_own O n cc, e]; rfl
  have hgp : g ≠ p := Row.ne_ (t := 2) (t' := 22) hh hv (by decide)
  exact (hs.block g hlt hgp (by rw [hb] at hne; rcases hne with h | h; cases h; exact h)).trans hh
end
theorem one_seg (w : World) (y : Int) : Seg (w.alloc (.cells #[.int .i64 y] 2)) (w.alloc (.cells #[.int .i64 y] 2)).heap.size (some ⟨w.heap.size, 0, none⟩) 1 [y] :=
 (Row.new w 2 #[.int .i64 y]).seg rfl (by simp) (fun j hj => by
  have e : j = 0 := by omega
  subst e
  rfl)
theorem Side.on {B : Nat} {r r' : Option Nat} {a b c : World} (h : Side B r a b) (hr : r' = r ∨ ∃ k, r' = some k ∧ a.heap.size ≤ k) (k : Side B r' b c) : Side B r a c :=
 ⟨k.os.trans h.os, k.tape.trans h.tape, k.output.trans h.output, Nat.le_trans h.size k.size, fun i hi hp hne => (k.block i (Nat.lt_of_lt_of_le hi h.size) hp (fun e => by
  rcases hr with e2 | ⟨q, e2, hq⟩
  ·exact hne (by rw [e, e2])
  ·rw [e2] at e; injection e with e; omega)).trans (h.block i hi hp hne)⟩
end renImpl
end
section
open Go.Lib (hid)
namespace ovAdd
open Go.RowKit base ints sig term sym varsOf marks app appAt segs renMath rename renImpl pathSpec ovStart
set_option maxRecDepth 100000
def castL (l : List Nat) : List Int := l.map fun c : Nat => (c : Int)
theorem castL_app (a b : List Nat) : castL (a ++ b) = castL a ++ castL b := by simp [castL]
theorem castL_len (l : List Nat) : (castL l).length = l.length := by simp [castL]
def Apart2 (X K : Option Addr) : Prop := ∀ k, blk X = some k → blk K ≠ some k
theorem Apart2.or {X K : Option Addr} (h : Apart2 X K) : blk X = none ∨ blk X ≠ blk K := by
 cases e : blk X with
 | none => exact .inl rfl
 | some k => exact .inr fun e' => h k e e'.symm
theorem Apart2.ro {X K : Option Addr} (h : Apart2 X K) : blk K = none ∨ blk K ≠ blk X := by
 cases e : blk K with
 | none => exact .inl rfl
 | some k => exact .inr fun e' => h k e'.symm e
def HeadAdd (w : World) (p : Nat) (T0 T1 T2 T3 T4 : Value) (X : Option Addr) (xn xc : Nat) (nums lks side : List Int) (m : Nat) (i : Value) (wr : World) : Prop :=
 ∃ (k : Nat) (K : Option Addr) (kc : Nat), i = .int .i64 (k : Int) ∧ k ≤ m ∧ Row wr p 73 #[T0, T1, T2, T3, T4, .slice X xn xc, .slice K (xn + k) kc] ∧ Own wr (p + 1) (.slice X xn xc) nums ∧ Own wr (p + 1) (.slice K (xn + k) kc) (lks ++ castL (lkT xn side k)) ∧ Apart2 X K ∧ Below p w wr
def AnsAdd (w : World) (p : Nat) (T0 T1 T2 T3 T4 : Value) (xn m : Nat) (nums lks side : List Int) (e : Ending) (w' : World) : Prop :=
 (∃ v, e = .returned v) ∧ ∃ (X : Option Addr) (xc : Nat) (K : Option Addr) (kc : Nat), Row w' p 73 #[T0, T1, T2, T3, T4, .slice X (xn + m) xc, .slice K (xn + m) kc] ∧ Own w' (p + 1) (.slice X (xn + m) xc) (nums ++ side) ∧ Own w' (p + 1) (.slice K (xn + m) kc) (lks ++ castL (lkT xn side m)) ∧ Apart2 X K ∧ Below p w w'
theorem put_below {w w' : World} {p i : Nat} {v : Value} (h : Below p w w') : Below p w (w'.setCell ⟨p, i, none⟩ v) :=
 ⟨h.os, h.tape, h.output, by have := h.size; simp; omega, fun k hk => (Below.heap_setCell w' _ _ k (fun e => by simp at e; omega)).trans (h.block k hk)⟩
theorem own_put9 {w : World} {p i : Nat} {v : Value} {A : Option Addr} {n c : Nat} {xs : List Int} (h : Own w (p + 1) (.slice A n c) xs) : Own (w.setCell ⟨p, i, none⟩ v) (p + 1) (.slice A n c) xs :=
 Own.far h (cursor.grown_put (World.grownBy.refl _ _) _ _) fun k hk => by injection hk; omega
theorem add_step {w wr w2 : World} {p : Nat} {T0 T1 T2 T3 T4 : Value} {X : Option Addr} {xn xc : Nat} {nums lks side : List Int} {m k : Nat} {K K' : Option Addr} {kc kc' : Nat} {y : Int} {cs : Array Value} (hk : k < m) (hr : Row wr p 73 #[T0, T1, T2, T3, T4, .slice X xn xc, .slice K (xn + k) kc])
  (hX : Own wr (p + 1) (.slice X xn xc) nums) (hs : Apart2 X K) (hb : Below p w wr) (hK : Own wr (p + 1) (.slice K (xn + k) kc) (lks ++ castL (lkT xn side k))) (hy : y = ((xn + fi side k : Nat) : Int))
  (ho2 : Own w2 (p + 1) (.slice K' (xn + k + 1) kc') (lks ++ castL (lkT xn side k) ++ [y])) (hg : (wr.alloc (.cells cs 2)).grownBy w2 (blk K)) (hat : blk K' = blk K ∨ blk K' = some (wr.alloc (.cells cs 2)).heap.size) :
  HeadAdd w p T0 T1 T2 T3 T4 X xn xc nums lks side m (.int .i64 ((k : Int) + 1)) (w2.setCell ⟨p, 6, none⟩ (.slice K' (xn + k + 1) kc')) := by
 have hlt := hr.lt
 have hp : blk K ≠ some p := fun e => by have := (own_lt hK p e).1; omega
 have r2 := Row.away (hr.alloc (.cells cs 2)) hg hp
 have x2 := Own.kept (Own.alloc hX (.cells cs 2)) hg hs.or
 refine ⟨k + 1, K', kc', by simp, hk, ?_, own_put9 x2, ?_, ?_, put_below ?_⟩
 ·have := r2.put 6 (.slice K' (xn + k + 1) kc')
  exact this
 ·rw [lkT_next, castL_app, ← List.append_assoc]
  have e : castL [xn + fi side k] = [y] := by rw [hy]; rfl
  rw [e]
  exact own_put9 ho2
 ·intro z hz e
  rcases hat with h | h
  ·exact hs z hz (h ▸ e)
  ·rw [h] at e
   injection e with e
   have := (own_lt hX z hz).2
   simp at e
   omega
 ·have h1 : Below p wr (wr.alloc (.cells cs 2)) := (Below.refl p wr).alloc (by omega) _
  have h2 : Below p (wr.alloc (.cells cs 2)) w2 := (Below.refl p _).grown hg (by simp; omega) (fun k hk => by have := (own_lt hK k hk).1; omega)
  exact (hb.trans h1).trans h2
set_option maxHeartbeats 2000000 in
theorem ovAdd (p : Nat) (T0 T1 T2 T3 T4 : Value) (X K S : Option Addr) (xn xc kc m sc : Nat) (nums lks side : List Int) (w : World) (hr : Row w p 73 #[T0, T1, T2, T3, T4, .slice X xn xc, .slice K xn kc]) (hX : Own w (p + 1) (.slice X xn xc) nums) (hK : Own w (p + 1) (.slice K xn kc) lks) (hs : Apart2 X K)
  (h : Seg w p S m side) (hxn : xn ≤ 1000) (hm : m ≤ 1000) (hm1 : 1 ≤ m) :
  Calls Try.prog 67 #[.pointer (some ⟨p, 0, none⟩), .slice S m sc] w (AnsAdd w p T0 T1 T2 T3 T4 xn m nums lks side) := by
 have hlt := hr.lt
 have c5 : w.cell? ⟨p, 5, none⟩ = some (.slice X xn xc) := hr.cell 5
 have S0 : HeadAdd w p T0 T1 T2 T3 T4 X xn xc nums lks side m (.int .i64 0) w := ⟨0, K, kc, rfl, Nat.zero_le _, hr, hX, by simpa [castL, lkT] using hK, hs, Below.refl _ _⟩
 have HS0 := hid S0
 have HL := hid h.1
 clear S0 hr hX hK hs
 go_enter Try.func67, Try.ntmps67
 go_wp2
 go_loopw [14] (fun i wr => HeadAdd w p T0 T1 T2 T3 T4 X xn xc nums lks side m i wr) (fun i _ => m - (intOf i).toNat)
 case atStart => exact HS0.out
 case round =>
  obtain ⟨k, K, kc, rfl, hk, hr, hX, hK, hs, hb⟩ := hrel
  clear HS0
  have hpl := hr.lt
  have c5 : wr.cell? ⟨p, 5, none⟩ = some (.slice X xn xc) := hr.cell 5
  have c6 : wr.cell? ⟨p, 6, none⟩ = some (.slice K (xn + k) kc) := hr.cell 6
  have hp : blk K ≠ some p := fun e => by have := (own_lt hK p e).1; omega
  by_cases hltk : k < m
  ·obtain ⟨b, off, x, rfl, hbb, hx, ex⟩ := h.spot hltk
   have hx1 : wr.cell? ⟨b, off + k, none⟩ = some (.int .i64 x) := (hb.cell (p := ⟨b, off + k, none⟩) hbb).trans hx
   have hsw : Seg wr wr.heap.size (some ⟨b, off, none⟩) m side := Seg.more (h.below hb) (by omega)
   have hkl : k < side.length := by rw [HL.out]; exact hltk
   have hfi := fi_le hkl
   obtain ⟨q, hq⟩ : ∃ q, fi side k = q := ⟨_, rfl⟩
   rw [hq] at hfi
   have hi1 : (k : Int) < (m : Int) := by omega
   have hi0 : (0 : Int) ≤ (k : Int) := by omega
   have hr1 := hid (hr.alloc (.cells #[.int .i64 ((xn : Int) + (q : Int))] 2))
   have hK1 := hid (Own.alloc hK (.cells #[.int .i64 ((xn : Int) + (q : Int))] 2))
   have STEP := hid (fun w2 K' kc' => @add_step w wr w2 p T0 T1 T2 T3 T4 X xn xc nums lks side m k K K' kc kc' ((xn : Int) + (q : Int)) #[.int .i64 ((xn : Int) + (q : Int))] hltk hr hX hs hb hK (by rw [hq]; push_cast; rfl))
   have HP := hid hp
   have LI := hid (indexOf (some ⟨b, off, none⟩) m sc side x wr hsw (by omega))
   have EX := hid ex.out
   have HQ := hid hq
   clear hx ex hsw hr hX hs hb hK hp hq
   by_cases hx0 : x < 0
   ·have EI := hid (show indexI side x = (q : Int) by
     have e := EX.out
     unfold indexI
     rw [← HQ.out]
     unfold fi
     rw [e, if_pos hx0, if_pos]
     rw [← e]
     exact get_mem hkl)
    clear hbb hkl
    go_wp2_with fail
    refine LI.out.mono ?_
    rintro e w1 ⟨rfl, he⟩
    rw [EI.out] at he
    subst he
    go_wp2_with (at_builtin; refine appAllAt rfl _ _ rfl (p + 1) K (xn + k) kc _ rfl hK1.out (some ⟨wr.heap.size, 0, none⟩) 1 1 (wr.heap.size + 1) [(xn : Int) + (q : Int)] rfl (by simpa using one_seg wr ((xn : Int) + (q : Int))) (by omega) (by omega) (by omega) (by simp; omega) ?_; intro K' kc' w2 ho2 hg hat; have r2 := Row.away hr1.out hg HP.out; have cB2 : w2.cell? ⟨p, 6, none⟩ = some (.slice K (xn + k) kc) := r2.cell 6; have fB2 : w2.frozen? ⟨p, 6, none⟩ = false := r2.free 6)
    have F := hid (STEP.out w2 K' kc' ho2 hg hat)
    clear ho2 hg hat r2 cB2 fB2 LI hr1 hK1 STEP
    go_wp2
    go_roundw
    case rel => exact F.out
    case measure => simp [intOf]; omega
   ·have EI := hid (show q = k by
     have e := EX.out
     rw [← HQ.out]
     exact fi_sym (by rw [e]; omega))
    clear hbb hkl LI
    obtain rfl := EI.out
    go_wp2_with (at_builtin; refine appAllAt rfl _ _ rfl (p + 1) K (xn + q) kc _ rfl hK1.out (some ⟨wr.heap.size, 0, none⟩) 1 1 (wr.heap.size + 1) [(xn : Int) + (q : Int)] rfl (by simpa using one_seg wr ((xn : Int) + (q : Int))) (by omega) (by omega) (by omega) (by simp; omega) ?_; intro K' kc' w2 ho2 hg hat; have r2 := Row.away hr1.out hg HP.out; have cB2 : w2.cell? ⟨p, 6, none⟩ = some (.slice K (xn + q) kc) := r2.cell 6; have fB2 : w2.frozen? ⟨p, 6, none⟩ = false := r2.free 6)
    have F := hid (STEP.out w2 K' kc' ho2 hg hat)
    clear ho2 hg hat r2 cB2 fB2 hr1 hK1 STEP
    go_wp2
    go_roundw
    case rel => exact F.out
    case measure => simp [intOf]; omega
  ·obtain rfl : k = m := by omega
   have hseg := Seg.more (h.below hb) (show p ≤ wr.heap.size by omega)
   have hpX : blk X ≠ some p := fun e => by have := (own_lt hX p e).1; omega
   have HR := hid hr
   have HX := hid hX
   have HK := hid hK
   have HS := hid hs
   have HB := hid hb
   clear hr hX hK hs hb h
   go_wp2_with (at_builtin; refine appAllAt rfl _ _ rfl (p + 1) X xn xc nums rfl HX.out S k sc wr.heap.size side rfl hseg (by omega) (by omega) (by omega) (by omega) ?_; intro X' xc' w2 ho2 hg hat; have r2 := Row.away HR.out hg hpX; have cB2 : w2.cell? ⟨p, 5, none⟩ = some (.slice X xn xc) := r2.cell 5; have fB2 : w2.frozen? ⟨p, 5, none⟩ = false := r2.free 5)
   have o3 := own_put9 (i := 5) (v := .slice X' (xn + k) xc') ho2
   have k3 := own_put9 (i := 5) (v := .slice X' (xn + k) xc') (Own.kept HK.out hg HS.out.ro)
   have r3 := r2.put 5 (.slice X' (xn + k) xc')
   have F := hid (show AnsAdd w p T0 T1 T2 T3 T4 xn k nums lks side (.returned (.tuple #[])) (w2.setCell ⟨p, 5, none⟩ (.slice X' (xn + k) xc')) from
    ⟨⟨_, rfl⟩, X', xc', K, kc, r3, o3, k3, fun z hz e => by
      rcases hat with h | h
      ·exact HS.out z (h ▸ hz) e
      ·rw [h] at hz
       injection hz with hz
       have := (own_lt HK.out z e).2
       omega, put_below (HB.out.trans ((Below.refl p wr).grown hg (by omega) (fun k hk => by have := (own_lt HX.out k hk).1; omega)))⟩)
   clear ho2 hg hat r2 cB2 fB2 o3 k3 r3 HR HX HK HS HB
   go_wp2
   go_end0
   exact F.out
end ovAdd
end
section
namespace finMath
open sig term fillMath unifMath forest triMath ufMath
theorem count_one {p q : Nat → Bool} {r : Nat} (hp : p r = true) (hq : q r = false) (h : ∀ i, i ≠ r → q i = p i) : ∀ n, r < n → (List.range n).countP q + 1 = (List.range n).countP p
 | 0, hr => absurd hr (Nat.not_lt_zero _)
 | n + 1, hr => by
  rw [List.range_succ, List.countP_append, List.countP_append]
  by_cases e : r = n
  ·subst e
   have h1 : (List.range r).countP q = (List.range r).countP p := by
    refine List.countP_congr fun i hi => ?_
    rw [h i (by have := List.mem_range.1 hi; omega)]
   simp [hp, hq, h1]
  ·have h1 := count_one hp hq h n (by omega)
   have h2 : [n].countP q = [n].countP p := by rw [List.countP_cons, List.countP_cons, h n (fun e2 => e e2.symm)]; rfl
   omega
theorem count_same {p q : Nat → Bool} (n : Nat) (h : ∀ i, i < n → q i = p i) : (List.range n).countP q = (List.range n).countP p :=
 List.countP_congr fun i hi => by rw [h i (List.mem_range.1 hi)]
def Ct (n : Nat) (rt : Nat → Nat) (F : Int → Option Bool) : Nat := (List.range n).countP fun i => decide (rt i = i) && (F (i : Int)).isNone
def putF (F : Int → Option Bool) (y : Int) (z : Bool) (u : Int) : Option Bool := if u = y then some z else F u
theorem ct_new {n : Nat} {rt : Nat → Nat} {F : Int → Option Bool} {r : Nat} (hr : r < n) (h1 : rt r = r) (h2 : F (r : Int) = none) (z : Bool) : Ct n rt (putF F (r : Int) z) + 1 = Ct n rt F := by
 unfold Ct
 refine count_one (r := r) ?_ ?_ (fun i hi => ?_) n hr
 ·simp [h1, h2]
 ·simp [putF]
 ·have : ¬ (i : Int) = (r : Int) := by omega
  simp [putF, this]
theorem ct_old {n : Nat} {rt : Nat → Nat} {F : Int → Option Bool} {r : Nat} (h2 : (F (r : Int)).isSome = true) (z : Bool) : Ct n rt (putF F (r : Int) z) = Ct n rt F := by
 unfold Ct
 refine count_same n fun i _ => ?_
 by_cases e : (i : Int) = (r : Int)
 ·have e : i = r := by omega
  subst e
  cases hF : F (i : Int) with
  | none => rw [hF] at h2; cases h2
  | some v => simp [putF, hF]
 ·simp [putF, e]
structure Mk (n : Nat) (F : Int → Option Bool) (D S : List Nat) : Prop where
 t : ∀ i : Nat, i < n → (F (i : Int) = some true ↔ i ∈ D)
 f : ∀ i : Nat, i < n → (F (i : Int) = some false ↔ i ∈ S)
theorem Mk.start {n : Nat} : Mk n (fun _ => none) [] [] := ⟨fun i _ => by simp, fun i _ => by simp⟩
theorem Mk.open_ {n : Nat} {F : Int → Option Bool} {D S : List Nat} (h : Mk n F D S) {r : Nat} (hr : r < n) (h2 : F (r : Int) = none) : Mk n (putF F (r : Int) false) D (r :: S) := by
 refine ⟨fun i hi => ?_, fun i hi => ?_⟩
 ·by_cases e : i = r
  ·subst e
   have h3 : i ∉ D := fun h4 => by have := (h.t i hi).2 h4; rw [h2] at this; cases this
   simp [putF, h3]
  ·have e2 : ¬ (i : Int) = (r : Int) := by omega
   simp only [putF, if_neg e2]
   exact h.t i hi
 ·by_cases e : i = r
  ·subst e; simp [putF]
  ·have e2 : ¬ (i : Int) = (r : Int) := by omega
   simp only [putF, if_neg e2, List.mem_cons, e, false_or]
   exact h.f i hi
theorem Mk.close_ {n : Nat} {F : Int → Option Bool} {D S : List Nat} {r : Nat} (h : Mk n F D (r :: S)) (hr : r < n) (hS : r ∉ S) : Mk n (putF F (r : Int) true) (D ++ [r]) S := by
 refine ⟨fun i hi => ?_, fun i hi => ?_⟩
 ·by_cases e : i = r
  ·subst e; simp [putF]
  ·have e2 : ¬ (i : Int) = (r : Int) := by omega
   simp only [putF, if_neg e2, List.mem_append, List.mem_singleton, e, or_false]
   exact h.t i hi
 ·by_cases e : i = r
  ·subst e; simp [putF, hS]
  ·have e2 : ¬ (i : Int) = (r : Int) := by omega
   simp only [putF, if_neg e2]
   rw [h.f i hi, List.mem_cons]
   simp [e]
theorem Mk.none {n : Nat} {F : Int → Option Bool} {D S : List Nat} (h : Mk n F D S) {i : Nat} (hi : i < n) (h2 : F (i : Int) = Option.none) : i ∉ D ∧ i ∉ S :=
 ⟨fun h3 => (by have := (h.t i hi).2 h3; rw [h2] at this; exact absurd this (by simp)), fun h3 => (by have := (h.f i hi).2 h3; rw [h2] at this; exact absurd this (by simp))⟩
end finMath
end
section
namespace doneMap
open Go.RowKit Go.Maps Go.WideMaps base ints marks app sym
set_option maxRecDepth 100000
def ilit (x : Int) : Lit := .int .i64 x
def In64 (x : Int) : Prop := -9223372036854775808 ≤ x ∧ x ≤ 9223372036854775807
theorem ilit_inj {x y : Int} (h : ilit x = ilit y) : x = y := by unfold ilit at h; injection h
theorem ilit_key (x : Int) : WideAt.IsKeyLit (ilit x) := by unfold ilit; simp [WideAt.IsKeyLit]
def Says (D : DataW Unit) (x : Int) : Option Bool → Prop
 | none => Maps.has D (ilit x) = false
 | some v => Maps.has D (ilit x) = true ∧ D.atKey (ilit x) (.lit (.bool false)) = .lit (.bool v)
def Dn (w : World) (b n : Nat) (F : Int → Option Bool) : Prop := ∃ D : DataW Unit, w.ownsMap Try.prog 2 (plainElem Try.prog 4) b n D ∧ ∀ x, Says D x (F x)
section
variable {w w' : World} {b n : Nat} {F : Int → Option Bool} {row : Option Nat}
theorem Dn.kept (h : Dn w b n F) (hg : w.grownBy w' row) (hne : some b ≠ row) : Dn w' b n F := by
 obtain ⟨D, h1, h2⟩ := h
 exact ⟨D, h1.kept hg hne, h2⟩
theorem Dn.lt (h : Dn w b n F) : b < w.heap.size := by
 obtain ⟨D, h1, h2⟩ := h
 exact h1.lt
theorem Dn.below (h : Dn w b n F) (hb : Below w.heap.size w w') : Dn w' b n F := h.kept (row := none) ⟨hb.os, hb.tape, hb.output, hb.size, fun k hk _ => hb.block k hk⟩ (fun e => by cases e)
theorem dn_made (w : World) : Dn (w.alloc (.map #[] 0)) w.heap.size 0 fun _ => none := ⟨.map [], World.ownsMap_made _ _ _ _, fun _ => by show Maps.has _ _ = false; simp [Maps.has]⟩
theorem says_put {D : DataW Unit} (hD : Maps.IsMap D) (h : ∀ x, Says D x (F x)) (y : Int) (z : Bool) : ∀ x, Says (D.put (ilit y) (.lit (.bool z))) x (if x = y then some z else F x) := by
 intro x
 by_cases e : x = y
 ·subst e
  rw [if_pos rfl]
  exact ⟨Maps.has_put_same hD (ilit_key _) _, Maps.atKey_put_same hD (ilit_key _) _ _⟩
 ·rw [if_neg e]
  have hne : ilit x ≠ ilit y := fun h => e (ilit_inj h)
  have h1 := h x
  cases hF : F x with
  | none =>
   rw [hF] at h1
   show Maps.has _ _ = false
   rw [Maps.has_put_other hne]
   exact h1
  | some v =>
   rw [hF] at h1
   exact ⟨by rw [Maps.has_put_other hne]; exact h1.1, by rw [Maps.atKey_put_other hne]; exact h1.2⟩
end
theorem key_int {x : Int} (h : In64 x) : keyOf Try.prog 2 (.int .i64 x) = some (ilit x) := keyOf_int_mk Try.underlying2 (WalkArith.wf_i64 h)
theorem zero_bool (w : World) : (zeroValue 4).run Try.prog w = .ok (.bool false) w := by kernel_rfl
theorem plain_inv {v : Value} {z : DataW Unit × List MemPlace} (h : plainElem Try.prog 4 v = some z) : ∃ a, v = .bool a ∧ z = (.lit (.bool a), []) := by
 unfold plainElem at h
 rw [Try.underlying4] at h
 cases v <;> simp at h
 exact ⟨_, rfl, h.symm⟩
section
variable {w : World} {ops : Array Oper} {rest : List Oper} {o : Oper} {a : Act} {Q : Exit → Act → World → Prop}
theorem dn_look (hg : o.guard = none) (m x : Operand) (ho : o.op = Op.lookup 102 m x true) (b n : Nat) (F : Int → Option Bool) (hm : a.eval m = .map (some b)) (h : Dn w b n F) (y : Int) (hy : In64 y) (hx : a.eval x = .int .i64 y)
  (K : wpList Try.prog ops Q rest (a.put o.dst (.tuple #[.bool ((F y).getD false), .bool (F y).isSome])) w) : wpList Try.prog ops Q (o :: rest) a w := by
 obtain ⟨D, hown, hs⟩ := h
 refine wpList_lookup_own_ok w hg m x 102 ho 2 4 (int_keyed Try.underlying2) Try.underlying102 _ (zero_bool w) (.lit (.bool false)) [] (plainElem_bool Try.underlying4 false) b n D hm hown _ (ilit y) hx (key_int hy) ?_
 intro v ps hv
 obtain ⟨c, rfl, e⟩ := plain_inv hv
 injection e with e1 e2
 have h1 := hs y
 cases hF : F y with
 | none =>
  rw [hF] at h1 K
  have h1 : Maps.has D (ilit y) = false := h1
  rw [h1]
  have e3 : D.atKey (ilit y) (.lit (.bool false)) = .lit (.bool false) := Maps.atKey_of_not_has h1 _
  rw [e3] at e1
  injection e1 with e1
  injection e1 with e1
  rw [← e1]
  exact K
 | some u =>
  rw [hF] at h1 K
  rw [h1.1]
  rw [h1.2] at e1
  injection e1 with e1
  injection e1 with e1
  rw [← e1]
  exact K
theorem dn_put (hg : o.guard = none) (m x v : Operand) (ho : o.op = Op.mapUpdate 102 m x v) (b n : Nat) (F : Int → Option Bool) (hm : a.eval m = .map (some b)) (h : Dn w b n F) (hn : n ≤ 1048576) (y : Int) (hy : In64 y) (z : Bool) (hx : a.eval x = .int .i64 y) (hv : a.eval v = .bool z)
  (K : ∀ w', Dn w' b (n + 1) (fun u => if u = y then some z else F u) → w.grownBy w' (some b) → wpList Try.prog ops Q rest (a.put o.dst undef) w') : wpList Try.prog ops Q (o :: rest) a w := by
 obtain ⟨D, hown, hs⟩ := h
 refine wpList_mapUpdate_own w hg m x v 102 ho 2 4 (int_keyed Try.underlying2) Try.underlying102 _ b n D hm hown (by unfold maxLen; omega) _ _ (ilit y) hx hv (key_int hy) _ [] (plainElem_bool Try.underlying4 z) ?_
 intro w' how hgr
 exact K w' ⟨_, how, says_put hown.isMap hs y z⟩ hgr
end
end doneMap
end
end Go.Proofs.Ytfmjhfodjhkmlaa
