/-
  MERGED: my texts RuleImplB, StepImplB, StepImplC, WalkImpl, WalkX, WWalkOk, OpenX, one behind the other, as they are. By an AI agent.
-/
import Derived.Test.YtfdejhhnochomaaMFnExactWalkOk4
import Derived.Deep.RegionHeld3
import Derived.ProofKit
import Derived.OpenShut
import Derived.Lib.SmallJoins
import Derived.Deep.Slices
import Derived.Deep.Fields
namespace Go.Proofs.Ytfdejhhnochomaa
section
open Go.Lib (hid)
namespace ruleImpl
open Go.RowKit base ints sig term termOk marks app sym segs termFacts varsMath varsOf rename same count linear shape kindsR ruleMath ruleSpec anyR
set_option maxRecDepth 100000
def sysV (a v : Value) (ok : Bool) : Value := if ok = true then .agg #[a, v] else .agg #[.slice none 0 0, .slice none 0 0]
def AnsSys (w : World) (a v : Value) (ok : Bool) (e : Ending) (w' : World) : Prop := e = .returned (.tuple #[sysV a v ok, .bool ok]) ∧ Below w.heap.size w w'
def HeadSO (w : World) (T T' : TypeId) (cs cs' : Array Value) (n : Nat) (f : Rl → Bool) (rs : List Rl) (i : Value) (wr : World) : Prop :=
 ∃ k : Nat, k ≤ n ∧ i = .int .i64 k ∧ (∀ j, j < k → f (rs.getD j ([], [])) = true) ∧ Row wr w.heap.size T cs ∧ Row wr (w.heap.size + 1) T' cs' ∧ Below w.heap.size w wr
theorem headSO_step {w wr : World} {T T' : TypeId} {cs cs' : Array Value} {n k : Nat} {f : Rl → Bool} {rs : List Rl} {x : Rl} (hk : k < n) (hlow : ∀ j, j < k → f (rs.getD j ([], [])) = true) (ex : Hid (rs.getD k ([], []) = x)) (h : f x = true) (hr : Row wr w.heap.size T cs) (hr' : Row wr (w.heap.size + 1) T' cs') (hb : Below w.heap.size w wr) : HeadSO w T T' cs cs' n f rs (.int .i64 ((k : Int) + 1)) wr :=
 ⟨k + 1, hk, by simp, fun j hj => by
  by_cases e : j = k
  ·subst e; rw [ex.out]; exact h
  ·exact hlow j (by omega), hr, hr', hb⟩
set_option maxHeartbeats 8000000 in
theorem systemOf (a v : Value) (d : Dat sSystem) (w : World) (h : Rd w w.heap.size sSystem [a, v] d) (hz : sz sSystem d ≤ 1048576) :
  Calls Try.prog 63 #[.agg #[a, v]] w (AnsSys w a v (sysOkB d.1 d.2)) := by
 have hzs := hid (sys_szs hz)
 obtain ⟨A, n, c, V, m, cv, rfl, rfl, hs, hc, hcv, hm, hn, hm1, hrs, hsg, hE⟩ := rd_sys h hz
 obtain ⟨W, hW, rA, rR, bel⟩ := box2 w 42 93 #[.slice A n c, .slice V m cv] #[.slice none 0 0, .slice none 0 0]
 have HW := hid hW
 have HM := hid hm
 have HE := hid hE
 have HR := hid hrs
 have L1 := hid (implSigOk A n c d.1 W (hs.next bel) hn)
 have LR := hid (fun (w1 : World) (l r : Value) (x : Dat sRule) (bb : Below w.heap.size w w1) (hx : Rd w1 w1.heap.size sRule [l, r] x) (hzx : sz sRule x ≤ 1048576) => implRuleOk (.slice A n c) l r d.1 x w1 (hsg.next bb) hx hzs.out.1 hzx)
 clear hW h hz hs hc hcv hm hE hrs hsg
 cases ok1 : sigOkB d.1 with
 | false =>
  have HS := hid ok1
  clear ok1
  go_enter Try.func63, Try.ntmps63
  go_wp2_with fail
  rw [← HW.out]
  refine L1.out.mono ?_
  rintro e w1 ⟨he, bb⟩
  rw [HS.out] at he
  subst he
  replace rR := rR.next bb
  replace bel := next_trans bel bb
  have y0 : w1.cell? ⟨w.heap.size + 1, 0, none⟩ = some (.slice none 0 0) := rR.cell 0
  have y1 : w1.cell? ⟨w.heap.size + 1, 1, none⟩ = some (.slice none 0 0) := rR.cell 1
  have f0 := rR.free 0
  have f1 := rR.free 1
  have r1 := rR.put 0 (.slice none 0 0)
  have y2 : (w1.setCell ⟨w.heap.size + 1, 0, none⟩ (.slice none 0 0)).cell? ⟨w.heap.size + 1, 1, none⟩ = some (.slice none 0 0) := r1.cell 1
  have f2 := r1.free 1
  have r2 := r1.put 1 (.slice none 0 0)
  have u0 : ((w1.setCell ⟨w.heap.size + 1, 0, none⟩ (.slice none 0 0)).setCell ⟨w.heap.size + 1, 1, none⟩ (.slice none 0 0)).cell? ⟨w.heap.size + 1, 0, none⟩ = some (.slice none 0 0) := r2.cell 0
  have u1 : ((w1.setCell ⟨w.heap.size + 1, 0, none⟩ (.slice none 0 0)).setCell ⟨w.heap.size + 1, 1, none⟩ (.slice none 0 0)).cell? ⟨w.heap.size + 1, 1, none⟩ = some (.slice none 0 0) := r2.cell 1
  have F : AnsSys w (.slice A n c) (.slice V m cv) (sysOkB d.1 d.2) (.returned (.tuple #[.agg #[.slice none 0 0, .slice none 0 0], .bool false])) ((w1.setCell ⟨w.heap.size + 1, 0, none⟩ (.slice none 0 0)).setCell ⟨w.heap.size + 1, 1, none⟩ (.slice none 0 0)) :=
   ⟨by rw [sys_sig HS.out]; rfl, (bel.setCell (by simp) _).setCell (by simp) _⟩
  have HF := hid F
  clear F bel rA rR bb r1 r2 LR
  go_wp2
  exact bodyPost_ret (v := .tuple #[.agg #[.slice none 0 0, .slice none 0 0], .bool false]) (by simp [results, Try.results63, go_sem, u0, u1]) rfl HF.out
 | true =>
  have HS := hid ok1
  clear ok1
  go_enter Try.func63, Try.ntmps63
  go_wp2_with fail
  rw [← HW.out]
  refine L1.out.mono ?_
  rintro e w1 ⟨he, bb⟩
  rw [HS.out] at he
  subst he
  replace rA := rA.next bb
  replace rR := rR.next bb
  replace bel := next_trans bel bb
  have cR : w1.cell? ⟨w.heap.size, 1, none⟩ = some (.slice V m cv) := rA.cell 1
  clear bb L1
  by_cases h12 : m ≤ 12
  ·have H0 : Hid (HeadSO w 42 93 #[.slice A n c, .slice V m cv] #[.slice none 0 0, .slice none 0 0] m (ruleOkB d.1) d.2 (.int .i64 0) w1) := hid ⟨0, Nat.zero_le _, rfl, fun j hj => absurd hj (Nat.not_lt_zero _), rA, rR, bel⟩
   clear rA rR bel
   go_wp2_with fail
   go_loopw [20] (fun i wr => HeadSO w 42 93 #[.slice A n c, .slice V m cv] #[.slice none 0 0, .slice none 0 0] m (ruleOkB d.1) d.2 i wr) (fun i _ => m - (intOf i).toNat)
   case atStart => exact H0.out
   case round =>
    obtain ⟨k, hk, rfl, hlow, rr, rs, hb⟩ := hrel
    have HLOW := hid hlow
    clear hlow H0 cR
    have cA0 : wr.cell? ⟨w.heap.size, 0, none⟩ = some (.slice A n c) := rr.cell 0
    have cA1 : wr.cell? ⟨w.heap.size, 1, none⟩ = some (.slice V m cv) := rr.cell 1
    by_cases hlt : k < m
    ·obtain ⟨b, off, l, r, x, rfl, hbB, ex, hc0, hc1, hx⟩ := rd_at HR.out hb HM.out hlt
     have hzx : sz sRule x ≤ 1048576 := by have := HE.out k hlt; rw [ex.out] at this; exact this
     obtain ⟨A1, n1, c1, A2, n2, c2, rfl, rfl, s1, k1, s2, k2, hn1, hn2⟩ := rd_rule hx hzx
     obtain ⟨w2, hw2⟩ : ∃ x, x = wr.alloc (.cells #[.slice A1 n1 c1, .slice A2 n2 c2] 90) := ⟨_, rfl⟩
     have bb : Below wr.heap.size wr w2 := by rw [hw2]; exact (Below.refl _ _).alloc (Nat.le_refl _) _
     have rx : Row w2 wr.heap.size 90 #[.slice A1 n1 c1, .slice A2 n2 c2] := by rw [hw2]; exact Row.new wr 90 #[.slice A1 n1 c1, .slice A2 n2 c2]
     have rr2 := rr.next bb
     have rs2 := rs.next bb
     have hb2 := next_trans hb bb
     have L := hid (LR.out w2 (.slice A1 n1 c1) (.slice A2 n2 c2) x hb2 ((hx.more hb.size).next bb) hzx)
     have x0 : w2.cell? ⟨wr.heap.size, 0, none⟩ = some (.slice A1 n1 c1) := rx.cell 0
     have x1 : w2.cell? ⟨wr.heap.size, 1, none⟩ = some (.slice A2 n2 c2) := rx.cell 1
     have x2 : w2.cell? ⟨w.heap.size, 0, none⟩ = some (.slice A n c) := rr2.cell 0
     have X0 := x0
     have X1 := x1
     have X2 := x2
     rw [hw2] at X0 X1 X2
     have HW2 := hid hw2
     have i0 : (0 : Int) ≤ (k : Int) := by omega
     have i1 : (k : Int) < (m : Int) := by omega
     clear hx hzx s1 s2 k1 k2 rr rs hb bb rx hw2
     go_wp2_with fail
     rw [← HW2.out]
     refine L.out.mono ?_
     cases ok : ruleOkB d.1 x with
     | false =>
      have HO := hid ok
      clear ok
      rintro e w3 ⟨he, bb⟩
      subst he
      have rR := rs2.next bb
      have bel := next_trans hb2 bb
      have y0 : w3.cell? ⟨w.heap.size + 1, 0, none⟩ = some (.slice none 0 0) := rR.cell 0
      have y1 : w3.cell? ⟨w.heap.size + 1, 1, none⟩ = some (.slice none 0 0) := rR.cell 1
      have f0 := rR.free 0
      have f1 := rR.free 1
      have r1 := rR.put 0 (.slice none 0 0)
      have y2 : (w3.setCell ⟨w.heap.size + 1, 0, none⟩ (.slice none 0 0)).cell? ⟨w.heap.size + 1, 1, none⟩ = some (.slice none 0 0) := r1.cell 1
      have f2 := r1.free 1
      have r2 := r1.put 1 (.slice none 0 0)
      have u0 : ((w3.setCell ⟨w.heap.size + 1, 0, none⟩ (.slice none 0 0)).setCell ⟨w.heap.size + 1, 1, none⟩ (.slice none 0 0)).cell? ⟨w.heap.size + 1, 0, none⟩ = some (.slice none 0 0) := r2.cell 0
      have u1 : ((w3.setCell ⟨w.heap.size + 1, 0, none⟩ (.slice none 0 0)).setCell ⟨w.heap.size + 1, 1, none⟩ (.slice none 0 0)).cell? ⟨w.heap.size + 1, 1, none⟩ = some (.slice none 0 0) := r2.cell 1
      have F : AnsSys w (.slice A n c) (.slice (some ⟨b, off, none⟩) m cv) (sysOkB d.1 d.2) (.returned (.tuple #[.agg #[.slice none 0 0, .slice none 0 0], .bool false])) ((w3.setCell ⟨w.heap.size + 1, 0, none⟩ (.slice none 0 0)).setCell ⟨w.heap.size + 1, 1, none⟩ (.slice none 0 0)) :=
       ⟨by rw [sys_bad (k := k) (by rw [HM.out]; exact hlt) (by rw [ex.out]; exact HO.out)]; rfl, (bel.setCell (by simp) _).setCell (by simp) _⟩
      have HF := hid F
      clear F bel rR bb r1 r2 LR rr2 rs2 hb2 x0 x1 x2 X0 X1 X2 cA0 cA1 hc0 hc1 L
      go_wp2
      exact bodyPost_ret (v := .tuple #[.agg #[.slice none 0 0, .slice none 0 0], .bool false]) (by simp [results, Try.results63, go_sem, u0, u1]) rfl HF.out
     | true =>
      have HO := hid ok
      clear ok
      rintro e w3 ⟨he, bb⟩
      subst he
      have F := hid (headSO_step (f := ruleOkB d.1) (w := w) hlt HLOW.out ex HO.out (rr2.next bb) (rs2.next bb) (next_trans hb2 bb))
      clear bb rr2 rs2 hb2 L x0 x1 x2 X0 X1 X2 cA0 cA1 hc0 hc1
      go_wp2
      go_roundw
      case rel => exact F.out
      case measure => simp [intOf]; omega
    ·have OK := hid (show sysOkB d.1 d.2 = true from sys_good HS.out (by rw [HM.out]; exact h12) (fun j hj => HLOW.out j (by rw [HM.out] at hj; omega)))
     have y0 : wr.cell? ⟨w.heap.size + 1, 0, none⟩ = some (.slice none 0 0) := rs.cell 0
     have f0 := rs.free 0
     have r1 := rs.put 0 (.slice A n c)
     have y2 : (wr.setCell ⟨w.heap.size + 1, 0, none⟩ (.slice A n c)).cell? ⟨w.heap.size + 1, 1, none⟩ = some (.slice none 0 0) := r1.cell 1
     have f2 := r1.free 1
     have r2 := r1.put 1 (.slice V m cv)
     have u0 : ((wr.setCell ⟨w.heap.size + 1, 0, none⟩ (.slice A n c)).setCell ⟨w.heap.size + 1, 1, none⟩ (.slice V m cv)).cell? ⟨w.heap.size + 1, 0, none⟩ = some (.slice A n c) := r2.cell 0
     have u1 : ((wr.setCell ⟨w.heap.size + 1, 0, none⟩ (.slice A n c)).setCell ⟨w.heap.size + 1, 1, none⟩ (.slice V m cv)).cell? ⟨w.heap.size + 1, 1, none⟩ = some (.slice V m cv) := r2.cell 1
     have F : AnsSys w (.slice A n c) (.slice V m cv) (sysOkB d.1 d.2) (.returned (.tuple #[.agg #[.slice A n c, .slice V m cv], .bool true])) ((wr.setCell ⟨w.heap.size + 1, 0, none⟩ (.slice A n c)).setCell ⟨w.heap.size + 1, 1, none⟩ (.slice V m cv)) :=
      ⟨by rw [OK.out]; rfl, (hb.setCell (by simp) _).setCell (by simp) _⟩
     have HF := hid F
     clear F hb rr rs r1 r2 LR
     go_wp2
     exact bodyPost_ret (v := .tuple #[.agg #[.slice A n c, .slice V m cv], .bool true]) (by simp [results, Try.results63, go_sem, u0, u1]) rfl HF.out
  ·have i1 : (12 : Int) < (m : Int) := by omega
   have y0 : w1.cell? ⟨w.heap.size + 1, 0, none⟩ = some (.slice none 0 0) := rR.cell 0
   have y1 : w1.cell? ⟨w.heap.size + 1, 1, none⟩ = some (.slice none 0 0) := rR.cell 1
   have f0 := rR.free 0
   have f1 := rR.free 1
   have r1 := rR.put 0 (.slice none 0 0)
   have y2 : (w1.setCell ⟨w.heap.size + 1, 0, none⟩ (.slice none 0 0)).cell? ⟨w.heap.size + 1, 1, none⟩ = some (.slice none 0 0) := r1.cell 1
   have f2 := r1.free 1
   have r2 := r1.put 1 (.slice none 0 0)
   have u0 : ((w1.setCell ⟨w.heap.size + 1, 0, none⟩ (.slice none 0 0)).setCell ⟨w.heap.size + 1, 1, none⟩ (.slice none 0 0)).cell? ⟨w.heap.size + 1, 0, none⟩ = some (.slice none 0 0) := r2.cell 0
   have u1 : ((w1.setCell ⟨w.heap.size + 1, 0, none⟩ (.slice none 0 0)).setCell ⟨w.heap.size + 1, 1, none⟩ (.slice none 0 0)).cell? ⟨w.heap.size + 1, 1, none⟩ = some (.slice none 0 0) := r2.cell 1
   have F : AnsSys w (.slice A n c) (.slice V m cv) (sysOkB d.1 d.2) (.returned (.tuple #[.agg #[.slice none 0 0, .slice none 0 0], .bool false])) ((w1.setCell ⟨w.heap.size + 1, 0, none⟩ (.slice none 0 0)).setCell ⟨w.heap.size + 1, 1, none⟩ (.slice none 0 0)) :=
    ⟨by rw [sys_long HM.out h12]; rfl, (bel.setCell (by simp) _).setCell (by simp) _⟩
   have HF := hid F
   clear F bel rA rR r1 r2 LR
   go_wp2
   exact bodyPost_ret (v := .tuple #[.agg #[.slice none 0 0, .slice none 0 0], .bool false]) (by simp [results, Try.results63, go_sem, u0, u1]) rfl HF.out
end ruleImpl
end
section
open Go.Lib (hid)
open List (setIfInBounds_toArray set_cons_zero set_cons_succ getElem_toArray getElem_cons_zero getElem_cons_succ)
namespace stepImpl
open Go.RowKit base ints sig term termOk endAt inside marks app sym sub segs segsHelp kinds termFacts termMath posMath plainMath gives Go.Proofs.Ytfdejhhnochomaa.look fillMath matchMath matchSpec whole takeMath take extended varsOf shape kindsR ruleMath ruleSpec ruleImpl stepMath walkMath stepSpec heldT
set_option maxRecDepth 100000
theorem step_by {sg : List Int} {x : Rl} {t : List Int} {a : Nat} {L : Nat → List Int} (hx : ruleOkB sg x = true) (ht : termOkB sg t = true) (ha : a < t.length) (hL : Turns sg x.1 (subL sg t a) L) :
  stepO sg x t a = if (fillL L x.2).length ≤ 60 ∧ (putAt sg t (fillL L x.2) a).length ≤ 60 then some (putAt sg t (fillL L x.2) a) else none := by
 obtain ⟨h1, h2, h3, h4⟩ := rule_parts hx
 have hs := sub_ok ht ha
 obtain ⟨ss, hm, hg⟩ := turns_match h1 hs hL
 rw [match_yes h1 hs] at hm
 have g := gives_of h1 hs hm
 have e : fillL (givesL ss) x.2 = fillL L x.2 := fill_ext (fun y hy h0 => by
  have hy1 := h4 y hy h0
  show givesL ss (vr y) = L (vr y)
  rw [g.2 y hy1 h0]
  exact hg y hy1 h0)
 unfold stepO
 rw [hm]
 dsimp only
 rw [e]
theorem at_turns {sg p t : List Int} {k : Nat} {s : List (List Int)} (h1 : termOkB sg p = true) (h2 : termOkB sg t = true) (h : mst sg t p k s0 = some s) : Turns sg p (subL sg t k) (givesL s) := by
 have hx : ∀ x ∈ p, -24 ≤ x := fun x hx => (term_mem h1 hx).1
 obtain ⟨⟨rest, e⟩, hv⟩ := mst_sound h2 h (by rfl) hx
 have hg : ∀ x ∈ p, x < 0 → givesL s (vr x) = s.getD (vr x) [] := fun x hx h0 => by
  have this : scan sg 1 (s.getD (vr x) []) = some (s.getD (vr x) []).length := hv x hx h0
  unfold givesL
  rw [if_neg ?_]
  intro e0
  have e1 : s.getD (vr x) [] = [] := List.length_eq_zero_iff.1 e0
  rw [e1] at this
  exact absurd this (by simp [scan])
 have ef : fillL (givesL s) p = fillL (fun i => s.getD i []) p := fill_ext fun x hx h0 => hg x hx h0
 refine ⟨?_, fun x hx h0 => by rw [hg x hx h0]; exact hv x hx h0⟩
 rw [ef]
 have a := scan_append (r := rest) (scan_fill (L := fun i => s.getD i []) (term_parts h1).2.2 hv)
 rw [← e] at a
 unfold subL
 rw [len1_eq a, e, List.take_left' rfl]
theorem reduce_by {sg : List Int} {x : Rl} {t : List Int} {a : Nat} {s : List (List Int)} (hx : ruleOkB sg x = true) (ht : termOkB sg t = true) (ha : a < t.length) (h : mst sg t x.1 a s0 = some s) :
  (stepO sg x t a).getD [] = put.putR sg t (fillL (givesL s) x.2) (a : Int) ∧ (stepO sg x t a).isSome = put.putB sg t (fillL (givesL s) x.2) (a : Int) := by
 obtain ⟨h1, h2, h3, h4⟩ := rule_parts hx
 obtain ⟨s1, s2, s3⟩ := term_parts ht
 have hT := at_turns h1 ht h
 have hth : thereB sg t (a : Int) = true := there_yes ht (by omega) (by omega)
 have hterm : termOkB sg (fillL (givesL s) x.2) = decide ((fillL (givesL s) x.2).length ≤ 60) := by
  by_cases hl : (fillL (givesL s) x.2).length ≤ 60
  ·rw [decide_eq_true hl]
   exact term_mk s1 hl (scan_fill (term_parts h2).2.2 (fun y hy h0 => hT.2 y (h4 y hy h0) h0))
  ·rw [decide_eq_false hl]
   cases e : termOkB sg (fillL (givesL s) x.2) with
   | false => rfl
   | true => exact absurd (term_len e).2 hl
 rw [step_by hx ht ha hT]
 unfold put.putR put.putB
 rw [hth, hterm, Bool.true_and, Int.toNat_natCast]
 unfold put.fitB
 have e1 : put.putI sg t (fillL (givesL s) x.2) a = putAt sg t (fillL (givesL s) x.2) a := rfl
 rw [e1]
 by_cases hl : (fillL (givesL s) x.2).length ≤ 60
 ·by_cases hh : (putAt sg t (fillL (givesL s) x.2) a).length ≤ 60
  ·rw [if_pos ⟨hl, hh⟩, decide_eq_true hl, decide_eq_true hh]; exact ⟨rfl, rfl⟩
  ·rw [if_neg (fun h => hh h.2), decide_eq_true hl, decide_eq_false hh]; exact ⟨rfl, rfl⟩
 ·rw [if_neg (fun h => hl h.1), decide_eq_false hl]; exact ⟨rfl, rfl⟩
theorem red_at {sg : List Int} {x : Rl} {t : List Int} {a : Nat} (hx : ruleOkB sg x = true) (ht : termOkB sg t = true) (ha : a < t.length) : (mst sg t x.1 a s0).isSome = redB sg x t a := by
 obtain ⟨h1, _⟩ := rule_parts hx
 rw [mst_at h1 ht ha]
 unfold redB instB
 rw [match_yes h1 (sub_ok ht ha)]
set_option maxHeartbeats 1000000 in
theorem lookB (cs : Array Value) (s : List (List Int)) (w : World) (htab : TabR w w.heap.size cs s) :
  Calls Try.prog 128 #[.agg cs] w fun e w' => ∃ g, e = .returned (.func (.func 136) #[] #[.pointer (some ⟨g, 0, none⟩)]) ∧ Row w' g 86 #[.slice (some ⟨w.heap.size, 0, none⟩) 24 24] ∧ Segs w' w'.heap.size (some ⟨w.heap.size, 0, none⟩) 24 s ∧ Below w.heap.size w w' ∧ w.heap.size ≤ g := by
 obtain ⟨W, hW⟩ : ∃ W, W = w.alloc (.cells cs 136) := ⟨_, rfl⟩
 have b0 : Below w.heap.size w W := by rw [hW]; exact (Below.refl _ _).alloc (Nat.le_refl _) _
 have r0 : Row W w.heap.size 136 cs := by rw [hW]; exact Row.new w _ _
 have s1 : Segs W W.heap.size (some ⟨w.heap.size, 0, none⟩) 24 s := (htab.below b0).segs r0 b0.size
 have HW := hid hW
 clear hW htab r0
 go_enter Try.func128, Try.ntmps128
 go_wp2_with (first
  | (refine rowBox rfl 136 _ rfl cs rfl ?_))
 rw [← HW.out]
 refine (lookupIn (some ⟨w.heap.size, 0, none⟩) 24 24 W).mono ?_
 rintro e w3 ⟨rfl, hw3⟩
 have b3 : Below W.heap.size W w3 := by rw [hw3]; exact (Below.refl _ _).alloc (Nat.le_refl _) _
 have r3 : Row w3 W.heap.size 86 #[.slice (some ⟨w.heap.size, 0, none⟩) 24 24] := by rw [hw3]; exact Row.new _ _ _
 have F := hid (show ∃ g, Ending.returned (.func (.func 136) #[] #[.pointer (some ⟨W.heap.size, 0, none⟩)]) = .returned (.func (.func 136) #[] #[.pointer (some ⟨g, 0, none⟩)]) ∧ Row w3 g 86 #[.slice (some ⟨w.heap.size, 0, none⟩) 24 24] ∧ Segs w3 w3.heap.size (some ⟨w.heap.size, 0, none⟩) 24 s ∧ Below w.heap.size w w3 ∧ w.heap.size ≤ g from ⟨_, rfl, r3, s1.next b3, next_trans b0 b3, b0.size⟩)
 clear hw3 b3 r3 s1 b0
 go_wp2
 go_ret
 exact F.out
theorem run_loadRow {P : Program} {o : Oper} {a : Act} {w : World} (ty : TypeId) (x : Operand) (ho : o.op = .load ty x) (g : Nat) (hx : a.eval x = .pointer (some ⟨g, 0, none⟩)) (t : TypeId) (cs : Array Value) (fz : Nat × Nat) (d : TypeDesc) (hg : w.heap[g]? = some (.cells cs t fz)) (hu : P.underlying ty = some d) (hd : (match d with | .struct _ | .array _ _ => true | _ => false) = true) (hi : (P.info? ty).map (·.size) = some cs.size) :
  (execOp a.eval o).run P w = .ok (.value (.agg cs)) w := by
 unfold execOp
 simp [ho, hx, Instr.loadAt, Instr.sureAddr, Sem.run_bind, Result.andThen_ok, run_loadVar_row w g t ty cs fz d hg hu hd hi]
set_option maxHeartbeats 4000000 in
theorem reduced (a v u : Value) (d : Dat sSystem) (t : List Int) (x k : Nat) (w : World) (h : Rd w w.heap.size sSystem [a, v] d) (ht : Rd w w.heap.size sI [u] t) (hz : sz sSystem d ≤ 1048576) (hok : rightB d.1 d.2 t = true) (hx : x < t.length) (hk : k < d.2.length) (hred : redB d.1 (d.2.getD k ([], [])) t x = true) :
  Calls Try.prog 109 #[.agg #[a, v], u, .int .i64 (x : Int), .int .i64 (k : Int)] w (AnsStep w (stepO d.1 (d.2.getD k ([], [])) t x)) := by
 obtain ⟨oks, okt⟩ := right_parts hok
 have h0 := h
 have ht0 := ht
 have hk0 := hk
 obtain ⟨T, m, c, rfl, hT, hcT⟩ := rd_ints.1 ht
 have hm : m ≤ 60 := by have := (term_len okt).2; have := hT.1; omega
 obtain ⟨A, n, cs, V, q, cv, rfl, rfl, hs, hc, hcv, hq, hn, hq1, hrs, hsg, hE⟩ := rd_sys h hz
 rw [hq] at hk
 obtain ⟨b, off, l, rr, y, rfl, hb, ey, cl, cr, hry⟩ := rd_at hrs (Below.refl _ _) hq hk
 have hzy : sz sRule y ≤ 1048576 := by rw [← ey.out]; exact hE k hk
 have okr : ruleOkB d.1 y = true := by rw [← ey.out]; exact sys_rule oks (by rw [hq]; exact hk)
 obtain ⟨P, pn, pc, P', pn', pc', rfl, rfl, sP, kP, sP', kP', hpn, hpn'⟩ := rd_rule hry hzy
 rw [ey.out] at hred ⊢
 obtain ⟨W, hW, rA, bel⟩ := box1 w 93 #[.slice A n cs, .slice (some ⟨b, off, none⟩) q cv]
 have HW := hid hW
 have okR := (rule_parts okr).2.1
 have hpn60 : pn' ≤ 60 := by have := (term_len okR).2; have := sP'.1; omega
 have LM := hid (matchAt _ _ _ d t x k W (h0.next bel) (ht0.next bel) hz hok hx hk0)
 rw [ey.out] at LM
 obtain ⟨s, hs0⟩ := Option.isSome_iff_exists.1 (show (mst d.1 t y.1 x s0).isSome = true by rw [red_at okr okt hx]; exact hred)
 rw [hs0] at LM
 have HRB := hid (reduce_by okr okt hx hs0)
 have zA0 : w.heap.size < W.heap.size := rA.lt
 have SS := hid (show Seg w w.heap.size A n d.1 ∧ Seg w w.heap.size T m t ∧ Seg w w.heap.size P' pn' y.2 ∧ m ≤ c ∧ c ≤ 9223372036854775807 from ⟨hs, hT, sP', hcT.1, hcT.2.1⟩)
 have HVS := hid (fun z (hz : z ∈ y.2) => (term_mem okR hz).1)
 have HFL := hid (fun (hM : ∀ i, (givesL s i).length ≤ 60) => (show (fillL (givesL s) y.2).length ≤ 1048576 by
  have h1 := fill_bound (L := givesL s) (t := y.2) (m := pn') (k := pn') (fun i => Nat.le_trans (hM i) (by omega)) sP'.1 hpn60
  rw [List.take_of_length_le (by rw [sP'.1]; exact Nat.le_refl _)] at h1
  omega))
 have K2w : w.cell? ⟨b, off + k * 2 + 1, none⟩ = some (.slice P' pn' pc') := cr
 have i0 : (0 : Int) ≤ (k : Int) := by omega
 have i1 : (k : Int) < (q : Int) := by omega
 have x1 : -9223372036854775808 ≤ (x : Int) := by omega
 have x2 : (x : Int) ≤ 9223372036854775807 := by have := hT.1; omega
 have BEL := hid bel
 have RA := hid rA
 clear hW h h0 ht ht0 hk0 hs hc hcv hq hrs hsg hE hT hcT oks okt okr okR sP kP sP' kP' hry hzy hx hok hz ey rA bel cl cr hs0 hpn hpn' hq1 hred
 go_enter Try.func109, Try.ntmps109
 go_wp2_with fail
 rw [← HW.out]
 refine LM.out.mono ?_
 rintro e w1 ⟨rs, rfl, tab, hsz, bb⟩
 have tab : TabR w1 W.heap.size rs s := tab
 have hsz : ∀ j, (s.getD j []).length ≤ 60 := hsz
 have h24 := hid tab.1
 have one := hid tab.one
 have HGV := hid (fun i => (show (givesL s i).length ≤ 60 by
  unfold givesL
  split
  ·simp [vt]
  ·exact hsz i))
 have TAB := hid tab
 have HB1 := hid bb
 clear LM tab hsz bb
 go_upto_region 2 with (first
  | (refine rowAlloc rfl 136 rfl z24 zero_b ?_)
  | (refine rowStore rfl 136 _ _ rfl w1.heap.size rs z24 136 rfl rfl (heap_alloc_new w1 _) (by rw [h24.out]; exact size_b) (by rw [h24.out]; rfl) one.out ?_; rw [World.setRow_alloc_new]))
 obtain ⟨w2, hw2⟩ : ∃ w2, w2 = w1.alloc (.cells rs 136) := ⟨_, rfl⟩
 rw [← hw2]
 have b12 : Below w1.heap.size w1 w2 := by rw [hw2]; exact (Below.refl _ _).alloc (Nat.le_refl _) _
 have b2 := next_trans HB1.out b12
 have zA : w.heap.size < w2.heap.size := Nat.lt_of_lt_of_le zA0 b2.size
 have zB : b < w2.heap.size := by omega
 have zC : w1.heap.size < w2.heap.size := by rw [hw2]; simp
 have rA2 := RA.out.next b2
 have bel2 := BEL.out.trans (b2.mono BEL.out.size)
 have K0 : w2.cell? ⟨w.heap.size, 0, none⟩ = some (.slice A n cs) := rA2.cell 0
 have K1 : w2.cell? ⟨w.heap.size, 1, none⟩ = some (.slice (some ⟨b, off, none⟩) q cv) := rA2.cell 1
 have K2 : w2.cell? ⟨b, off + k * 2 + 1, none⟩ = some (.slice P' pn' pc') := (bel2.cell (p := ⟨b, off + k * 2 + 1, none⟩) hb).trans K2w
 have K3 : w2.heap[w1.heap.size]? = some (.cells rs 136 (0, 0)) := by rw [hw2]; exact heap_alloc_new w1 _
 have LK := hid (lookB rs s w2.drew ((TAB.out.below (b12.mono HB1.out.size)).more (Nat.le_trans HB1.out.size b12.size)))
 have LFILL := hid (fun g (w3 : World) rg sg (bx : Below w2.drew.heap.size w2.drew w3) => fill 136 #[.pointer (some ⟨g, 0, none⟩)] (enters_of Try.func136 (by kernel_rfl) rfl) P' pn' pc' y.2 (givesL s) w3 (lookSubst g (some ⟨w2.heap.size, 0, none⟩) 24 24 s w3 rg sg (by omega)) (SS.out.2.2.1.next (bel2.drew.trans (bx.mono bel2.size))) hpn60 HVS.out (fun i => Nat.le_trans (HGV.out i) (by omega)))
 have LPUT := hid (fun O on oc (w4 : World) (bx : Below w2.drew.heap.size w2.drew w4) {lo : Nat} (oO : Own w4 lo (.slice O on oc) (fillL (givesL s) y.2)) => put.implPutAt A T O n cs m c on oc d.1 t (x : Int) (fillL (givesL s) y.2) w4 (SS.out.1.next (bel2.drew.trans (bx.mono bel2.size))) (SS.out.2.1.next (bel2.drew.trans (bx.mono bel2.size))) (Own.seg oO) hn (by omega) (by rw [Own.len oO]; exact HFL.out HGV.out) x1 x2 (own_cap oO) SS.out.2.2.2.1 SS.out.2.2.2.2)
 have BEL2 := hid bel2
 clear hw2 b12 b2 rA2 bel2 TAB BEL RA zA0
 refine AnyT.start (S := (fun w' => w'.cell? ⟨w.heap.size, 0, none⟩ = some (.slice A n cs) ∧ w'.cell? ⟨w.heap.size, 1, none⟩ = some (.slice (some ⟨b, off, none⟩) q cv) ∧ w'.cell? ⟨b, off + k * 2 + 1, none⟩ = some (.slice P' pn' pc') ∧ w'.heap[w1.heap.size]? = some (.cells rs 136 (0, 0)))) (fun _ => false) (by kernel_rfl) ⟨K0, K1, K2, K3⟩ (fun hHeld => ?_)
 refine AnyT.takeA (i := 0) (v := ?_) rfl (by kernel_rfl) (by kernel_rfl) (by kernel_rfl) (fun _ _ _ h => h) (Or.inl ⟨by rfl, ?_⟩) ?_
 rotate_left 1
 ·(intro w0 _; go_simp; try with_reducible rfl)
 try simp only [Act.put, setIfInBounds_toArray, set_cons_zero, set_cons_succ, getElem_toArray, getElem_cons_zero, getElem_cons_succ]
 refine AnyT.take (i := 1) (v := ?_) rfl (by kernel_rfl) (by kernel_rfl) (by kernel_rfl) (by kernel_rfl) (fun _ _ _ h => h) (Or.inl ⟨by rfl, ?_⟩) (by assumption) ?_
 rotate_left 1
 ·(intro w0 hSw; (try dsimp only at hSw); go_simp; try with_reducible rfl)
 try simp only [Act.put, setIfInBounds_toArray, set_cons_zero, set_cons_succ, getElem_toArray, getElem_cons_zero, getElem_cons_succ]
 refine AnyT.takeA (i := 2) (v := ?_) rfl (by kernel_rfl) (by kernel_rfl) (by kernel_rfl) (fun _ _ _ h => h) (Or.inl ⟨by rfl, ?_⟩) ?_
 rotate_left 1
 ·(intro w0 _; go_simp; try with_reducible rfl)
 try simp only [Act.put, setIfInBounds_toArray, set_cons_zero, set_cons_succ, getElem_toArray, getElem_cons_zero, getElem_cons_succ]
 refine AnyT.takeA (i := 3) (v := ?_) rfl (by kernel_rfl) (by kernel_rfl) (by kernel_rfl) (fun _ _ _ h => h) (Or.inl ⟨by rfl, ?_⟩) ?_
 rotate_left 1
 ·(intro w0 _; go_simp; try with_reducible rfl)
 try simp only [Act.put, setIfInBounds_toArray, set_cons_zero, set_cons_succ, getElem_toArray, getElem_cons_zero, getElem_cons_succ]
 refine AnyT.take (i := 4) (v := .agg rs) rfl (by kernel_rfl) (by kernel_rfl) (by kernel_rfl) (by kernel_rfl) (fun _ _ _ h => h) (Or.inl ⟨by rfl, ?_⟩) (by assumption) ?_
 ·(intro w0 hSw; exact run_loadRow 136 _ rfl w1.heap.size rfl 136 rs (0, 0) _ hSw.2.2.2 Try.underlying136 rfl (by rw [h24.out]; exact size_b))
 try simp only [Act.put, setIfInBounds_toArray, set_cons_zero, set_cons_succ, getElem_toArray, getElem_cons_zero, getElem_cons_succ]
 refine AnyT.takeA (i := 6) (v := ?_) rfl (by kernel_rfl) (by kernel_rfl) (by kernel_rfl) (fun _ _ _ h => h) (Or.inl ⟨by rfl, ?_⟩) ?_
 rotate_left 1
 ·(intro w0 _; go_simp; try with_reducible rfl)
 try simp only [Act.put, setIfInBounds_toArray, set_cons_zero, set_cons_succ, getElem_toArray, getElem_cons_zero, getElem_cons_succ]
 refine AnyT.take (i := 7) (v := ?_) rfl (by kernel_rfl) (by kernel_rfl) (by kernel_rfl) (by kernel_rfl) (fun _ _ _ h => h) (Or.inl ⟨by rfl, ?_⟩) (by assumption) ?_
 rotate_left 1
 ·(intro w0 hSw; (try dsimp only at hSw); go_simp; try with_reducible rfl)
 try simp only [Act.put, setIfInBounds_toArray, set_cons_zero, set_cons_succ, getElem_toArray, getElem_cons_zero, getElem_cons_succ]
 refine AnyT.takeA (i := 8) (v := ?_) rfl (by kernel_rfl) (by kernel_rfl) (by kernel_rfl) (fun _ _ _ h => h) (Or.inl ⟨by rfl, ?_⟩) ?_
 rotate_left 1
 ·(intro w0 _; go_simp; try with_reducible rfl)
 try simp only [Act.put, setIfInBounds_toArray, set_cons_zero, set_cons_succ, getElem_toArray, getElem_cons_zero, getElem_cons_succ]
 refine AnyT.takeA (i := 9) (v := ?_) rfl (by kernel_rfl) (by kernel_rfl) (by kernel_rfl) (fun _ _ _ h => h) (Or.inl ⟨by rfl, ?_⟩) ?_
 rotate_left 1
 ·(intro w0 _; go_simp; try with_reducible rfl)
 try simp only [Act.put, setIfInBounds_toArray, set_cons_zero, set_cons_succ, getElem_toArray, getElem_cons_zero, getElem_cons_succ]
 refine AnyT.takeA (i := 10) (v := ?_) rfl (by kernel_rfl) (by kernel_rfl) (by kernel_rfl) (fun _ _ _ h => h) (Or.inl ⟨by rfl, ?_⟩) ?_
 rotate_left 1
 ·(intro w0 _; go_simp; try with_reducible rfl)
 try simp only [Act.put, setIfInBounds_toArray, set_cons_zero, set_cons_succ, getElem_toArray, getElem_cons_zero, getElem_cons_succ]
 refine AnyT.take (i := 11) (v := ?_) rfl (by kernel_rfl) (by kernel_rfl) (by kernel_rfl) (by kernel_rfl) (fun _ _ _ h => h) (Or.inl ⟨by rfl, ?_⟩) (by assumption) ?_
 rotate_left 1
 ·(intro w0 hSw; (try dsimp only at hSw); go_simp; try with_reducible rfl)
 try simp only [Act.put, setIfInBounds_toArray, set_cons_zero, set_cons_succ, getElem_toArray, getElem_cons_zero, getElem_cons_succ]
 refine AnyT.call (i := 5) (by kernel_rfl) rfl (fun K hK => ?_)
 try simp only [Act.put, setIfInBounds_toArray, set_cons_zero, set_cons_succ, getElem_toArray, getElem_cons_zero, getElem_cons_succ]
 rw [if_pos (by rfl)]
 go_simp
 (go_at_call 128; refine LK.out.mono ?_; rintro e w3 ⟨g, rfl, rg, sg, bx, zg⟩; have B1 := bx; have K01 : w3.cell? ⟨w.heap.size, 0, none⟩ = some (.slice A n cs) := (B1.cell (p := ⟨w.heap.size, 0, none⟩) zA).trans K0; have K11 : w3.cell? ⟨w.heap.size, 1, none⟩ = some (.slice (some ⟨b, off, none⟩) q cv) := (B1.cell (p := ⟨w.heap.size, 1, none⟩) zA).trans K1; have K21 : w3.cell? ⟨b, off + k * 2 + 1, none⟩ = some (.slice P' pn' pc') := (B1.cell (p := ⟨b, off + k * 2 + 1, none⟩) zB).trans K2; have K31 : w3.heap[w1.heap.size]? = some (.cells rs 136 (0, 0)) := (B1.block _ zC).trans K3; have LFI := hid (LFILL.out g w3 rg sg B1); go_wp2_with fail)
 refine hK.out _ _ (fun _ _ => ?_) (fun hKeep => ?_)
 ·exact ⟨K01, K11, K21, K31⟩
 replace hHeld := hKeep (by first | rfl | trivial) hHeld
 clear hK K hKeep
 try simp only [Act.put, setIfInBounds_toArray, set_cons_zero, set_cons_succ, getElem_toArray, getElem_cons_zero, getElem_cons_succ]
 refine AnyT.call (i := 12) (by kernel_rfl) rfl (fun K hK => ?_)
 try simp only [Act.put, setIfInBounds_toArray, set_cons_zero, set_cons_succ, getElem_toArray, getElem_cons_zero, getElem_cons_succ]
 rw [if_pos (by rfl)]
 go_simp
 (go_at_call 129; refine LFI.out.mono ?_; rintro e w4 ⟨O, on, oc, rfl, oO, by4⟩; have B2 := next_trans B1 by4; have K02 : w4.cell? ⟨w.heap.size, 0, none⟩ = some (.slice A n cs) := (B2.cell (p := ⟨w.heap.size, 0, none⟩) zA).trans K0; have K12 : w4.cell? ⟨w.heap.size, 1, none⟩ = some (.slice (some ⟨b, off, none⟩) q cv) := (B2.cell (p := ⟨w.heap.size, 1, none⟩) zA).trans K1; have K22 : w4.cell? ⟨b, off + k * 2 + 1, none⟩ = some (.slice P' pn' pc') := (B2.cell (p := ⟨b, off + k * 2 + 1, none⟩) zB).trans K2; have K32 : w4.heap[w1.heap.size]? = some (.cells rs 136 (0, 0)) := (B2.block _ zC).trans K3; have LPU := hid (LPUT.out O on oc w4 B2 oO); go_wp2_with fail)
 refine hK.out _ _ (fun _ _ => ?_) (fun hKeep => ?_)
 ·exact ⟨K02, K12, K22, K32⟩
 replace hHeld := hKeep (by first | rfl | trivial) hHeld
 clear hK K hKeep
 try simp only [Act.put, setIfInBounds_toArray, set_cons_zero, set_cons_succ, getElem_toArray, getElem_cons_zero, getElem_cons_succ]
 refine AnyT.call (i := 13) (by kernel_rfl) rfl (fun K hK => ?_)
 try simp only [Act.put, setIfInBounds_toArray, set_cons_zero, set_cons_succ, getElem_toArray, getElem_cons_zero, getElem_cons_succ]
 rw [if_pos (by rfl)]
 go_simp
 (go_at_call 80; refine LPU.out.mono ?_; rintro e w5 ⟨X, xn, xc, rfl, oX, by5⟩; have B3 := next_trans B2 by5; have K03 : w5.cell? ⟨w.heap.size, 0, none⟩ = some (.slice A n cs) := (B3.cell (p := ⟨w.heap.size, 0, none⟩) zA).trans K0; have K13 : w5.cell? ⟨w.heap.size, 1, none⟩ = some (.slice (some ⟨b, off, none⟩) q cv) := (B3.cell (p := ⟨w.heap.size, 1, none⟩) zA).trans K1; have K23 : w5.cell? ⟨b, off + k * 2 + 1, none⟩ = some (.slice P' pn' pc') := (B3.cell (p := ⟨b, off + k * 2 + 1, none⟩) zB).trans K2; have K33 : w5.heap[w1.heap.size]? = some (.cells rs 136 (0, 0)) := (B3.block _ zC).trans K3; go_wp2_with fail)
 refine hK.out _ _ (fun _ _ => ?_) (fun hKeep => ?_)
 ·exact ⟨K03, K13, K23, K33⟩
 replace hHeld := hKeep (by first | rfl | trivial) hHeld
 clear hK K hKeep
 try simp only [Act.put, setIfInBounds_toArray, set_cons_zero, set_cons_succ, getElem_toArray, getElem_cons_zero, getElem_cons_succ]
 refine AnyT.takeA (i := 14) (v := ?_) rfl (by kernel_rfl) (by kernel_rfl) (by kernel_rfl) (fun _ _ _ h => h) (Or.inl ⟨by rfl, ?_⟩) ?_
 rotate_left 1
 ·(intro w0 _; go_simp; try with_reducible rfl)
 try simp only [Act.put, setIfInBounds_toArray, set_cons_zero, set_cons_succ, getElem_toArray, getElem_cons_zero, getElem_cons_succ]
 refine AnyT.takeA (i := 15) (v := ?_) rfl (by kernel_rfl) (by kernel_rfl) (by kernel_rfl) (fun _ _ _ h => h) (Or.inl ⟨by rfl, ?_⟩) ?_
 rotate_left 1
 ·(intro w0 _; go_simp; try with_reducible rfl)
 try simp only [Act.put, setIfInBounds_toArray, set_cons_zero, set_cons_succ, getElem_toArray, getElem_cons_zero, getElem_cons_succ]
 refine AnyT.takeA (i := 16) (v := ?_) rfl (by kernel_rfl) (by kernel_rfl) (by kernel_rfl) (fun _ _ _ h => h) (Or.inl ⟨by rfl, ?_⟩) ?_
 rotate_left 1
 ·(intro w0 _; go_simp; try with_reducible rfl)
 try simp only [Act.put, setIfInBounds_toArray, set_cons_zero, set_cons_succ, getElem_toArray, getElem_cons_zero, getElem_cons_succ]
 refine AnyT.takeA (i := 17) (v := ?_) rfl (by kernel_rfl) (by kernel_rfl) (by kernel_rfl) (fun _ _ _ h => h) (Or.inl ⟨by rfl, ?_⟩) ?_
 rotate_left 1
 ·(intro w0 _; go_simp; try with_reducible rfl)
 try simp only [Act.put, setIfInBounds_toArray, set_cons_zero, set_cons_succ, getElem_toArray, getElem_cons_zero, getElem_cons_succ]
 refine AnyT.done (by kernel_rfl) ?_ _
 have F : AnsStep w (stepO d.1 y t x) (.returned (.tuple #[.slice X xn xc, .bool (put.putB d.1 t (fillL (givesL s) y.2) (x : Int))])) w5 := ⟨X, xn, xc, by rw [HRB.out.2], by rw [HRB.out.1]; exact Own.lower oX (Nat.le_trans BEL2.out.size B2.size), BEL2.out.drew.trans (B3.mono BEL2.out.size)⟩
 have HF := hid F
 clear F oX by5 B1 B2 B3 LK LFILL LPUT LFI LPU oO by4
 generalize put.putB d.1 t (fillL (givesL s) y.2) (x : Int) = bz at *
 go_wp2
 go_ret2
 exact HF.out
end stepImpl
end
section
open Go.Lib (hid)
namespace stepImpl
open Go.RowKit base ints sig term termOk endAt inside marks app sym sub segs segsHelp kinds termFacts matchMath whole takeMath take extended varsOf shape kindsR ruleMath ruleSpec ruleImpl stepMath walkMath stepSpec
set_option maxRecDepth 100000
theorem right_of {sg : List Int} {rs : List Rl} {t : List Int} (h : sysOkB sg rs = true) : rightB sg rs t = termOkB sg t := by unfold rightB; rw [h]; rfl
theorem there_eq {sg : List Int} {rs : List Rl} {t : List Int} {a r : Int} (h : sysOkB sg rs = true) : thereR sg rs t a r = (thereB sg t a && walkMath.inB r rs.length) := by
 unfold thereR thereB walkMath.inB endAt.inB
 rw [right_of h, Bool.and_assoc]
theorem hasRule (a : Value) (V : Option Addr) (q cv : Nat) (r : Int) (w : World) (hq : q ≤ 1048576) :
  Calls Try.prog 105 #[.agg #[a, .slice V q cv], .int .i64 r] w (AnsB w (walkMath.inB r q)) := by
 obtain ⟨W, hW, rA, bel⟩ := box1 w 93 #[a, .slice V q cv]
 have HW := hid hW
 have R := hid rA
 have FF := hid (fun (b : Bool) (h : walkMath.inB r q = b) => (ansB (b := walkMath.inB r q) (a := b) h.symm bel))
 clear hW rA bel
 by_cases h0 : r < 0
 ·have F := hid (FF.out false (by unfold walkMath.inB; exact decide_eq_false (by omega)))
  go_enter Try.func105, Try.ntmps105
  go_wp2_with fail
  try rw [← HW.out]
  go_wp2
  go_ret
  exact F.out
 ·by_cases h1 : r < (q : Int)
  ·have F := hid (FF.out true (by unfold walkMath.inB; exact decide_eq_true (by omega)))
   have h0' : (0 : Int) ≤ r := by omega
   have K1 : (w.alloc (.cells #[a, .slice V q cv] 93)).cell? ⟨w.heap.size, 1, none⟩ = some (.slice V q cv) := by rw [← HW.out]; exact R.out.cell 1
   go_enter Try.func105, Try.ntmps105
   go_wp2
   rw [← HW.out]
   go_ret
   exact F.out
  ·have F := hid (FF.out false (by unfold walkMath.inB; exact decide_eq_false (by omega)))
   have h0' : (0 : Int) ≤ r := by omega
   have K1 : (w.alloc (.cells #[a, .slice V q cv] 93)).cell? ⟨w.heap.size, 1, none⟩ = some (.slice V q cv) := by rw [← HW.out]; exact R.out.cell 1
   go_enter Try.func105, Try.ntmps105
   go_wp2
   rw [← HW.out]
   go_ret
   exact F.out
set_option maxHeartbeats 4000000 in
theorem hasRedex (a v u : Value) (d : Dat sSystem) (t : List Int) (x r : Int) (w : World) (h : Rd w w.heap.size sSystem [a, v] d) (ht : Rd w w.heap.size sI [u] t) (hz : sz sSystem d ≤ 1048576) (hz' : sz sI t ≤ 1048576) (oks : sysOkB d.1 d.2 = true) :
  Calls Try.prog 64 #[.agg #[a, v], u, .int .i64 x, .int .i64 r] w (AnsB w (redexB d.1 d.2 t x r)) := by
 have h0 := h
 have ht0 := ht
 obtain ⟨T, m, c, rfl, hT, hcT⟩ := rd_ints.1 ht
 have hm := len_ints hT.1 hz'
 obtain ⟨A, n, cs, V, q, cv, rfl, rfl, hs, hc, hcv, hq, hn, hq1, hrs, hsg, hE⟩ := rd_sys h hz
 obtain ⟨W, hW, rA, bel⟩ := box1 w 93 #[.slice A n cs, .slice V q cv]
 have HW := hid hW
 have LP := hid (placeIn A T n cs m c d.1 t x W (hs.next bel) (hT.next bel) hn hm)
 have HQ := hid hq
 have LHR := hid (fun (w1 : World) => hasRule (.slice A n cs) V q cv r w1 hq1)
 have LMA := hid (fun (w1 : World) (bb : Below w.heap.size w w1) (x k : Nat) hok hx hk => matchAt _ _ _ d t x k w1 (h0.next bb) (ht0.next bb) hz hok hx hk)
 have OKS := hid oks
 clear hW h h0 ht ht0 hz hz' hs hc hcv hq hrs hsg hE hT hcT oks
 obtain ⟨bp, hbp⟩ : ∃ bp, thereB d.1 t x = bp := ⟨_, rfl⟩
 have HP := hid hbp
 have HTH := hid (show thereR d.1 d.2 t x r = (bp && walkMath.inB r d.2.length) by rw [there_eq OKS.out, hbp])
 rw [hbp] at LP
 clear hbp
 cases bp with
 | false =>
  go_enter Try.func64, Try.ntmps64
  go_wp2_with fail
  rw [← HW.out]
  refine LP.out.mono ?_
  rintro e w1 ⟨rfl, bb⟩
  have F := hid (ansB (b := redexB d.1 d.2 t x r) (a := false) (by rw [redex_no (by rw [HTH.out]; rfl)]) (next_trans bel bb))
  clear bb bel rA LMA
  go_wp2
  go_ret
  exact F.out
 | true =>
  go_enter Try.func64, Try.ntmps64
  go_wp2_with fail
  rw [← HW.out]
  refine LP.out.mono ?_
  rintro e w1 ⟨rfl, bb⟩
  replace rA := rA.next bb
  replace bel := next_trans bel bb
  have K0 : w1.cell? ⟨w.heap.size, 0, none⟩ = some (.slice A n cs) := rA.cell 0
  have K1 : w1.cell? ⟨w.heap.size, 1, none⟩ = some (.slice V q cv) := rA.cell 1
  have LH1 := hid (LHR.out w1)
  clear bb LP LHR
  obtain ⟨bi, hbi⟩ : ∃ bi, walkMath.inB r q = bi := ⟨_, rfl⟩
  have HBI := hid hbi
  rw [hbi] at LH1
  clear hbi
  go_wp2_with fail
  refine LH1.out.mono ?_
  rintro e w2 ⟨rfl, bb⟩
  cases bi with
  | false =>
   have F := hid (ansB (b := redexB d.1 d.2 t x r) (a := false) (by rw [redex_no (by rw [HTH.out, HQ.out, HBI.out]; rfl)]) (next_trans bel bb))
   clear bb bel rA LMA K0 K1 LH1
   go_wp2
   go_ret
   exact F.out
  | true =>
   have hkk : 0 ≤ r ∧ r < (q : Int) := of_decide_eq_true HBI.out
   obtain ⟨k, rfl⟩ := Int.eq_ofNat_of_zero_le hkk.1
   have hkq : k < q := by omega
   have hx := endAt.there_parts HP.out
   obtain ⟨i, rfl⟩ := Int.eq_ofNat_of_zero_le hx.2.1
   have hix : i < t.length := by omega
   have okR : rightB d.1 d.2 t = true := by rw [right_of OKS.out]; exact hx.1
   have hkl : k < d.2.length := by rw [HQ.out]; exact hkq
   have HRE := hid (show redexB d.1 d.2 t (i : Int) (k : Int) = (mst d.1 t (d.2.getD k ([], [])).1 i s0).isSome by
    rw [redex_yes (by rw [HTH.out]; unfold walkMath.inB; rw [decide_eq_true (by omega)]; rfl), red_at (sys_rule OKS.out hkl) hx.1 hix]
    unfold rl
    rw [Int.toNat_natCast, Int.toNat_natCast])
   replace rA := rA.next bb
   replace bel := next_trans bel bb
   have LM1 := hid (LMA.out w2 bel i k okR hix hkl)
   clear K0 K1
   have K0 : w2.cell? ⟨w.heap.size, 0, none⟩ = some (.slice A n cs) := rA.cell 0
   have K1 : w2.cell? ⟨w.heap.size, 1, none⟩ = some (.slice V q cv) := rA.cell 1
   clear hx okR LMA HTH hkk hix hkl bb rA LH1
   obtain ⟨R, hR⟩ : ∃ R, mst d.1 t (d.2.getD k ([], [])).1 i s0 = R := ⟨_, rfl⟩
   rw [hR] at LM1 HRE
   clear hR
   go_wp2_with fail
   refine LM1.out.mono ?_
   rintro e w3 ⟨rs, rfl, tab, hsz, bb⟩
   have one := hid tab.one
   have h24 := hid tab.1
   obtain ⟨bo, hbo⟩ : ∃ bo, R.isSome = bo := ⟨_, rfl⟩
   rw [hbo]
   have F := hid (show AnsB w (redexB d.1 d.2 t (i : Int) (k : Int)) (.returned (.bool bo)) (w3.alloc (.cells rs 136)) from ⟨by rw [HRE.out, hbo], (next_trans bel bb).alloc (next_trans bel bb).size _⟩)
   clear tab hsz bb bel K0 K1 hbo LM1 HRE
   go_wp2_with (first
    | (refine rowAlloc rfl 136 rfl z24 zero_b ?_)
    | (refine rowStore rfl 136 _ _ rfl w3.heap.size rs z24 136 rfl rfl (heap_alloc_new w3 _) (by rw [h24.out]; exact size_b) (by rw [h24.out]; rfl) one.out ?_; rw [World.setRow_alloc_new]))
   go_ret
   exact F.out
set_option maxHeartbeats 4000000 in
theorem stepAt (a v u : Value) (d : Dat sSystem) (t : List Int) (x r : Int) (w : World) (h : Rd w w.heap.size sSystem [a, v] d) (ht : Rd w w.heap.size sI [u] t) (hz : sz sSystem d ≤ 1048576) (hz' : sz sI t ≤ 1048576) (oks : sysOkB d.1 d.2 = true) :
  Calls Try.prog 67 #[.agg #[a, v], u, .int .i64 x, .int .i64 r] w (AnsStep w (stepAtO d.1 d.2 t x r)) := by
 obtain ⟨W, hW, rA, bel⟩ := box1 w 93 #[a, v]
 have HW := hid hW
 have LH := hid (hasRedex a v u d t x r W (h.next bel) (ht.next bel) hz hz' oks)
 have LR := hid (fun (w1 : World) (bb : Below w.heap.size w w1) (x k : Nat) hok hx hk hred => reduced a v u d t x k w1 (h.next bb) (ht.next bb) hz hok hx hk hred)
 clear hW h ht hz hz'
 obtain ⟨bp, hbp⟩ : ∃ bp, redexB d.1 d.2 t x r = bp := ⟨_, rfl⟩
 rw [hbp] at LH
 cases bp with
 | false =>
  have HN := hid (show stepAtO d.1 d.2 t x r = none by
   cases e : stepAtO d.1 d.2 t x r with
   | none => rfl
   | some y => rw [stepAt_redex e] at hbp; cases hbp)
  clear hbp
  go_enter Try.func67, Try.ntmps67
  go_wp2_with fail
  rw [← HW.out]
  refine LH.out.mono ?_
  rintro e w1 ⟨rfl, bb⟩
  have F := hid (ansStep_nil (o := stepAtO d.1 d.2 t x r) HN.out (next_trans bel bb))
  clear bb bel rA LR
  go_wp2
  go_ret2
  exact F.out
 | true =>
  have hth : thereR d.1 d.2 t x r = true := by
   unfold redexB at hbp
   rw [Bool.and_eq_true] at hbp
   exact hbp.1
  obtain ⟨p1, p2, p3, p4⟩ := walkMath.there_parts hth
  obtain ⟨i, rfl⟩ := Int.eq_ofNat_of_zero_le p3.1
  obtain ⟨k, rfl⟩ := Int.eq_ofNat_of_zero_le p4.1
  rw [redex_yes hth] at hbp
  unfold rl at hbp
  rw [Int.toNat_natCast, Int.toNat_natCast] at hbp
  have LR1 := hid (fun w1 bb => LR.out w1 bb i k (right_yes p1 p2) (by omega) (by omega) hbp)
  have HE := hid (show stepAtO d.1 d.2 t (i : Int) (k : Int) = stepO d.1 (d.2.getD k ([], [])) t i by rw [at_yes hth]; unfold rl; rw [Int.toNat_natCast, Int.toNat_natCast])
  clear hth p1 p2 p3 p4 hbp LR oks
  go_enter Try.func67, Try.ntmps67
  go_wp2_with fail
  rw [← HW.out]
  refine LH.out.mono ?_
  rintro e w1 ⟨rfl, bb⟩
  replace rA := rA.next bb
  replace bel := next_trans bel bb
  have K0 : w1.cell? ⟨w.heap.size, 0, none⟩ = some a := rA.cell 0
  have K1 : w1.cell? ⟨w.heap.size, 1, none⟩ = some v := rA.cell 1
  have LR2 := hid (LR1.out w1 bel)
  clear bb LH LR1 rA
  go_wp2_with fail
  refine LR2.out.mono ?_
  rintro e w2 ⟨X, xn, xc, rfl, oX, bb⟩
  have F : AnsStep w (stepAtO d.1 d.2 t (i : Int) (k : Int)) (.returned (.tuple #[.slice X xn xc, .bool (stepO d.1 (d.2.getD k ([], [])) t i).isSome])) w2 := ⟨X, xn, xc, by rw [HE.out], by rw [HE.out]; exact Own.lower oX bel.size, next_trans bel bb⟩
  have HF := hid F
  clear F oX bb bel K0 K1 LR2
  generalize (stepO d.1 (d.2.getD k ([], [])) t i).isSome = bz at *
  go_wp2
  go_ret2
  exact HF.out
end stepImpl
end
section
open Go.Lib (hid)
namespace walkImpl
open Go.RowKit base ints sig term termOk endAt endOf marks app sym sub segs segsHelp kinds termFacts same shifted shape kindsR kindsW varsOf ruleMath ruleSpec ruleImpl stepMath walkMath stepSpec stepImpl walkSpec
set_option maxRecDepth 100000
structure Wm (w : World) (a v f s : Value) (d : Dat sSystem) (k : Dat sWalk) (i : Nat) (now : Value) (wr : World) : Prop where
 r : Row wr w.heap.size 93 #[a, v]
 q : Row wr (w.heap.size + 1) 56 #[f, s]
 b : Below w.heap.size w wr
 n : ∃ N nn nc, now = .slice N nn nc
 t : ∃ t, Rd wr wr.heap.size sI [now] t ∧ sz sI t ≤ 1048576 ∧ goOn d.1 d.2 k.1 k.2 = goOn d.1 d.2 t (k.2.drop i)
set_option maxHeartbeats 4000000 in
theorem leads (a v u : Value) (U : Option Addr) (un uc : Nat) (d : Dat sSystem) (t y : List Int) (x r : Int) (w : World) (h : Rd w w.heap.size sSystem [a, v] d) (ht : Rd w w.heap.size sI [u] t) (hU : Seg w w.heap.size U un y) (hz : sz sSystem d ≤ 1048576) (hz' : sz sI t ≤ 1048576) (hun : un ≤ 1048576) (oks : sysOkB d.1 d.2 = true) :
  Calls Try.prog 112 #[.agg #[a, v], u, .agg #[.int .i64 x, .int .i64 r, .slice U un uc]] w (AnsB w (decide (stepAtO d.1 d.2 t x r = some y))) := by
 obtain ⟨W, hW, rA, rX, bel⟩ := box2 w 93 102 #[a, v] #[.int .i64 x, .int .i64 r, .slice U un uc]
 have HW := hid hW
 have LS := hid (stepAt a v u d t x r W (h.next bel) (ht.next bel) hz hz' oks)
 have HU := hid (hU.next bel)
 have K0 : ((w.alloc (.cells #[a, v] 93)).alloc (.cells #[.int .i64 x, .int .i64 r, .slice U un uc] 102)).cell? ⟨w.heap.size, 0, none⟩ = some a := by rw [← hW]; exact rA.cell 0
 have K1 : ((w.alloc (.cells #[a, v] 93)).alloc (.cells #[.int .i64 x, .int .i64 r, .slice U un uc] 102)).cell? ⟨w.heap.size, 1, none⟩ = some v := by rw [← hW]; exact rA.cell 1
 clear hW h ht hU hz hz'
 obtain ⟨o, ho⟩ : ∃ o, stepAtO d.1 d.2 t x r = o := ⟨_, rfl⟩
 rw [ho] at LS
 rw [ho]
 have HL := hid (show ∀ z, o = some z → z.length ≤ 60 from fun z hz => by subst hz; exact step_len (stepAt_parts ho).2)
 clear ho
 go_enter Try.func112, Try.ntmps112
 go_wp2_with fail
 rw [← HW.out]
 refine LS.out.mono ?_
 rintro e w2 ⟨X, xn, xc, rfl, oX, bb⟩
 replace rX := rX.next bb
 have b2 := next_trans bel bb
 have k2 : w2.cell? ⟨w.heap.size + 1, 2, none⟩ = some (.slice U un uc) := rX.cell 2
 cases o with
 | none =>
  have F := hid (show AnsB w (decide ((none : Option (List Int)) = some y)) (.returned (.bool false)) w2 from ⟨rfl, b2⟩)
  clear oX bb rA rX bel b2 HL HU LS K0 K1 k2
  go_wp2
  go_ret
  exact F.out
 | some z =>
  have oY : Own w2 W.heap.size (.slice X xn xc) z := oX
  have hxn : xn ≤ 1048576 := by have := HL.out z rfl; have := Own.len oY; omega
  have LE := hid (implSame X U xn un xc uc z y w2 (Own.seg oY) (HU.out.next bb) hxn hun)
  clear oX oY HU bb rX rA bel LS K0 K1 HL
  go_wp2_with fail
  refine LE.out.mono ?_
  rintro e w3 ⟨rfl, dd, rfl⟩
  have F := hid (show AnsB w (decide (some z = some y)) (.returned (.bool (decide (z = y)))) (w2.drewN dd) from ⟨by congr 2; simp, below_drewN b2 dd⟩)
  clear b2 k2 LE
  generalize decide (z = y) = bz at *
  go_wp2
  go_ret
  exact F.out
set_option maxHeartbeats 4000000 in
theorem makes (a v f s : Value) (d : Dat sSystem) (k : Dat sWalk) (w : World) (h : Rd w w.heap.size sSystem [a, v] d) (h' : Rd w w.heap.size sWalk [f, s] k) (hz : sz sSystem d ≤ 1048576) (hz' : sz sWalk k ≤ 1048576) (oks : sysOkB d.1 d.2 = true) :
  Calls Try.prog 72 #[.agg #[a, v], .agg #[f, s]] w (AnsB w (goOn d.1 d.2 k.1 k.2).isSome) := by
 obtain ⟨F, fn, fc, S, sn, sc, rfl, rfl, hF, hcF, hfn, hsn, hsn1, hcS, hrF, hrS, hzF, hzS⟩ := rd_walk h' hz'
 obtain ⟨W, hW, rA, rW, bel⟩ := box2 w 93 56 #[a, v] #[.slice F fn fc, .slice S sn sc]
 have HW := hid hW
 have LST := hid (fun (w1 : World) (bb : Below w.heap.size w w1) (u : Value) (U : Option Addr) (un uc : Nat) (t y : List Int) (x r : Int) ht hU hzt hun => leads a v u U un uc d t y x r w1 (h.next bb) ht hU hz hzt hun oks)
 have HRS := hid hrS
 have HSN := hid hsn
 have HZS := hid hzS
 have H0 := hid (show Wm w a v (.slice F fn fc) (.slice S sn sc) d k 0 (.slice F fn fc) W from ⟨rA, rW, bel, ⟨_, _, _, rfl⟩, k.1, hrF.next bel, hzF, rfl⟩)
 clear hW h h' hz hz' hF hcF hsn hcS hrF hrS hzF hzS rA rW bel oks
 go_enter Try.func72, Try.ntmps72
 go_wp2_with fail
 rw [← HW.out]
 clear HW
 go_loopg [5, 13] sn (fun g now i_ wr => ∃ i : Nat, i_ = .int .i64 i ∧ i + g = sn ∧ Wm w a v (.slice F fn fc) (.slice S sn sc) d k i now wr)
 case atStart => exact ⟨0, rfl, by omega, H0.out⟩
 case round =>
  clear H0
  obtain ⟨i, rfl, hg, T⟩ := hrel
  obtain ⟨N, nn, nc, rfl⟩ := T.n
  obtain ⟨t, ht, hzt, hgo⟩ := T.t
  have HG := hid hg
  have HGO := hid hgo
  clear hg hgo
  by_cases hi : i < sn
  ·obtain ⟨b, off, u, x, hA, hb, ex, c0, c1, c2, hx2⟩ := rd_step HRS.out T.b HSN.out hi
   subst hA
   obtain ⟨U, un, uc, rfl, hU, hcU⟩ := rd_ints.1 hx2
   have hzx : sz sI x.2.2 ≤ 1048576 := by rw [← ex.out]; exact HZS.out i hi
   have hun : un ≤ 1048576 := len_ints hU.1 hzx
   obtain ⟨xa, hxa⟩ : ∃ z, x.1 = z := ⟨_, rfl⟩
   obtain ⟨xr, hxr⟩ : ∃ z, x.2.1 = z := ⟨_, rfl⟩
   rw [hxa] at c0
   rw [hxr] at c1
   have b1 : Below wr.heap.size wr (wr.alloc (.cells #[.int .i64 xa, .int .i64 xr, .slice U un uc] 102)) := (Below.refl _ _).alloc (Nat.le_refl _) _
   have K0 : wr.cell? ⟨w.heap.size, 0, none⟩ = some a := T.r.cell 0
   have K1 : wr.cell? ⟨w.heap.size, 1, none⟩ = some v := T.r.cell 1
   obtain ⟨w1, hw1⟩ : ∃ w1, w1 = wr.alloc (.cells #[.int .i64 xa, .int .i64 xr, .slice U un uc] 102) := ⟨_, rfl⟩
   rw [← hw1] at b1
   have r1 := T.r.next b1
   have q1 := T.q.next b1
   have bel1 := T.b.trans (b1.mono T.b.size)
   have rX : Row w1 wr.heap.size 102 #[.int .i64 xa, .int .i64 xr, .slice U un uc] := by rw [hw1]; exact Row.new _ _ _
   have hU1 := (hU.more T.b.size).next b1
   have hx3 := (hx2.more T.b.size).next b1
   have LS := hid (LST.out w1 bel1 (.slice N nn nc) U un uc t x.2.2 xa xr (ht.next b1) hU1 hzt hun)
   obtain ⟨o, ho⟩ : ∃ o, stepAtO d.1 d.2 t xa xr = o := ⟨_, rfl⟩
   rw [ho] at LS
   have HO := hid (show stepAtO d.1 d.2 t x.1 x.2.1 = o by rw [hxa, hxr]; exact ho)
   have hil : i < k.2.length := by rw [HSN.out]; exact hi
   have EX := hid (show k.2.getD i (0, 0, []) = x from ex.out)
   have i0 : (0 : Int) ≤ (i : Int) := by omega
   have i1 : (i : Int) < (sn : Int) := by omega
   have R0 : (wr.alloc (.cells #[.int .i64 xa, .int .i64 xr, .slice U un uc] 102)).cell? ⟨w.heap.size, 0, none⟩ = some a := by rw [← hw1]; exact r1.cell 0
   have R1 : (wr.alloc (.cells #[.int .i64 xa, .int .i64 xr, .slice U un uc] 102)).cell? ⟨w.heap.size, 1, none⟩ = some v := by rw [← hw1]; exact r1.cell 1
   have X0 : (wr.alloc (.cells #[.int .i64 xa, .int .i64 xr, .slice U un uc] 102)).cell? ⟨wr.heap.size, 0, none⟩ = some (.int .i64 xa) := by rw [← hw1]; exact rX.cell 0
   have X1 : (wr.alloc (.cells #[.int .i64 xa, .int .i64 xr, .slice U un uc] 102)).cell? ⟨wr.heap.size, 1, none⟩ = some (.int .i64 xr) := by rw [← hw1]; exact rX.cell 1
   have X2 : (wr.alloc (.cells #[.int .i64 xa, .int .i64 xr, .slice U un uc] 102)).cell? ⟨wr.heap.size, 2, none⟩ = some (.slice U un uc) := by rw [← hw1]; exact rX.cell 2
   have HW1 := hid hw1
   clear ho hxa hxr hx2 hU hcU T ht hzt ex b1 hw1 hU1
   go_wp2_with fail
   rw [← HW1.out]
   refine LS.out.mono ?_
   rintro e w2 ⟨rfl, bb⟩
   have r2 := r1.next bb
   have q2 := q1.next bb
   have b2 := next_trans bel1 bb
   have rX2 := rX.next bb
   have RY := hid (hx3.next bb)
   have k2 : w2.cell? ⟨wr.heap.size, 2, none⟩ = some (.slice U un uc) := rX2.cell 2
   clear r1 q1 bel1 rX hx3 c0 c1 c2 K0 K1 R0 R1 X0 X1 X2 LS HW1
   by_cases hoy : o = some x.2.2
   ·have HGN := hid (go_step hil EX.out (HO.out.trans hoy) rfl)
    have F := hid (show Wm w a v (.slice F fn fc) (.slice (some ⟨b, off, none⟩) sn sc) d k (i + 1) (.slice U un uc) w2 from ⟨r2, q2, b2, ⟨_, _, _, rfl⟩, x.2.2, RY.out, hzx, by rw [HGO.out, HGN.out]⟩)
    rw [decide_eq_true hoy]
    clear r2 q2 b2 bb rX2 RY HO hoy
    go_wp2
    go_roundg (gk - 1)
    case measure => have := HG.out; omega
    case rel => exact ⟨i + 1, by simp, by have := HG.out; omega, F.out⟩
   ·have F := hid (ansB (b := (goOn d.1 d.2 k.1 k.2).isSome) (a := false) (by
     rw [HGO.out]
     cases o with
     | none => rw [go_none hil EX.out HO.out]; rfl
     | some y => rw [go_differ hil EX.out HO.out (fun q => hoy (by rw [q]))]; rfl) b2)
    rw [decide_eq_false hoy]
    clear r2 q2 b2 bb rX2 RY HO hoy k2
    go_wp2
    go_ret
    exact F.out
  ·have F := hid (ansB (b := (goOn d.1 d.2 k.1 k.2).isSome) (a := true) (by rw [HGO.out, go_all (by rw [HSN.out]; have := HG.out; omega)]; rfl) T.b)
   clear T ht hzt
   go_wp2
   go_ret
   exact F.out
theorem walk_sys {sg : List Int} {rs : List Rl} {k : Wk} (h : sysOkB sg rs = false) : walkB sg rs k = false := walk_noR (right_sys h)
theorem walk_term {sg : List Int} {rs : List Rl} {k : Wk} (h : termOkB sg k.1 = false) : walkB sg rs k = false := walk_noR (right_term h)
set_option maxHeartbeats 4000000 in
theorem implWalkOk (a v f s : Value) (d : Dat sSystem) (k : Dat sWalk) (w : World) (h : Rd w w.heap.size sSystem [a, v] d) (h' : Rd w w.heap.size sWalk [f, s] k) (hz : sz sSystem d ≤ 1048576) (hz' : sz sWalk k ≤ 1048576) :
  Calls Try.prog 32 #[.agg #[a, v], .agg #[f, s]] w (AnsB w (walkB d.1 d.2 k)) := by
 obtain ⟨F, fn, fc, S, sn, sc, rfl, rfl, hF, hcF, hfn, hsn, hsn1, hcS, hrF, hrS, hzF, hzS⟩ := rd_walk h' hz'
 have h0 := h
 obtain ⟨A, n, cs, V, q, cv, rfl, rfl, hs, hc, hcv, hq, hn, hq1, hrs, hsg, hE⟩ := rd_sys h hz
 obtain ⟨W, hW, rA, rW, bel⟩ := box2 w 42 56 #[.slice A n cs, .slice V q cv] #[.slice F fn fc, .slice S sn sc]
 have HW := hid hW
 have LS := hid (systemOf _ _ d W (h0.next bel) hz)
 have LT := hid (fun (w1 : World) (bb : Below w.heap.size w w1) => implTermOk A F n cs fn fc d.1 k.1 w1 (hs.next bb) (hF.next bb) hn hfn)
 have LM := hid (fun (w1 : World) (bb : Below w.heap.size w w1) oks => makes _ _ _ _ d k w1 (h0.next bb) (h'.next bb) hz hz' oks)
 have HSN := hid hsn
 clear hW h h0 h' hz hz' hs hc hcv hq hrs hsg hE hF hcF hsn hcS hrF hrS hzF hzS
 cases ok : sysOkB d.1 d.2 with
 | false =>
  have HS := hid ok
  clear ok
  go_enter Try.func32, Try.ntmps32
  go_wp2_with fail
  rw [← HW.out]
  refine LS.out.mono ?_
  rintro e w1 ⟨he, bb⟩
  rw [HS.out] at he
  have he : e = .returned (.tuple #[.agg #[.slice none 0 0, .slice none 0 0], .bool false]) := he
  subst he
  have F := hid (fun o => ansB (b := walkB d.1 d.2 k) (a := false) (by rw [walk_sys HS.out]) ((next_trans bel bb).alloc (next_trans bel bb).size o))
  clear bb bel rA rW LT LM
  go_wp2
  go_ret
  exact F.out _
 | true =>
  have HS := hid ok
  clear ok
  cases okt : termOkB d.1 k.1 with
  | false =>
   have HT := hid okt
   clear okt
   go_enter Try.func32, Try.ntmps32
   go_wp2_with fail
   rw [← HW.out]
   refine LS.out.mono ?_
   rintro e w1 ⟨he, bb⟩
   rw [HS.out] at he
   have he : e = .returned (.tuple #[.agg #[.slice A n cs, .slice V q cv], .bool true]) := he
   subst he
   have b2 := (Below.refl w1.heap.size w1).alloc (Nat.le_refl _) (.cells #[.slice A n cs, .slice V q cv] 93)
   have r2 := (rW.next bb).next b2
   have bel2 := next_trans (next_trans bel bb) b2
   have k0 : (w1.alloc (.cells #[.slice A n cs, .slice V q cv] 93)).cell? ⟨w.heap.size + 1, 0, none⟩ = some (.slice F fn fc) := r2.cell 0
   have LT1 := hid (LT.out _ bel2)
   have B2 := hid bel2
   clear bb bel rA rW LT LM b2 r2 bel2
   go_wp2_with fail
   refine LT1.out.mono ?_
   rintro e w3 ⟨he, bb⟩
   rw [HT.out] at he
   subst he
   have F := hid (ansB (b := walkB d.1 d.2 k) (a := false) (by rw [walk_term HT.out]) (next_trans B2.out bb))
   clear bb k0 LT1 B2
   go_wp2
   go_ret
   exact F.out
  | true =>
   have HT := hid okt
   clear okt
   by_cases h60 : sn ≤ 60
   ·have HYES := hid (walk_yes (k := k) (right_yes HS.out HT.out) HSN.out h60)
    have hle : (sn : Int) ≤ 60 := by omega
    go_enter Try.func32, Try.ntmps32
    go_wp2_with fail
    rw [← HW.out]
    refine LS.out.mono ?_
    rintro e w1 ⟨he, bb⟩
    rw [HS.out] at he
    have he : e = .returned (.tuple #[.agg #[.slice A n cs, .slice V q cv], .bool true]) := he
    subst he
    obtain ⟨w2, hw2⟩ : ∃ w2, w2 = w1.alloc (.cells #[.slice A n cs, .slice V q cv] 93) := ⟨_, rfl⟩
    have b2 : Below w1.heap.size w1 w2 := by rw [hw2]; exact (Below.refl w1.heap.size w1).alloc (Nat.le_refl _) (.cells #[.slice A n cs, .slice V q cv] 93)
    have r2 := (rW.next bb).next b2
    have rS : Row w2 w1.heap.size 93 #[.slice A n cs, .slice V q cv] := by rw [hw2]; exact Row.new _ _ _
    have bel2 := next_trans (next_trans bel bb) b2
    have k0 : (w1.alloc (.cells #[.slice A n cs, .slice V q cv] 93)).cell? ⟨w.heap.size + 1, 0, none⟩ = some (.slice F fn fc) := by rw [← hw2]; exact r2.cell 0
    have LT1 := hid (LT.out _ bel2)
    have HW2 := hid hw2
    clear bb bel rA rW LT b2 hw2
    go_wp2_with fail
    rw [← HW2.out]
    refine LT1.out.mono ?_
    rintro e w3 ⟨he, bb⟩
    rw [HT.out] at he
    subst he
    replace r2 := r2.next bb
    replace rS := rS.next bb
    replace bel2 := next_trans bel2 bb
    have k1 : w3.cell? ⟨w.heap.size + 1, 1, none⟩ = some (.slice S sn sc) := r2.cell 1
    have k2 : w3.cell? ⟨w.heap.size + 1, 0, none⟩ = some (.slice F fn fc) := r2.cell 0
    have k3 : w3.cell? ⟨w1.heap.size, 0, none⟩ = some (.slice A n cs) := rS.cell 0
    have k4 : w3.cell? ⟨w1.heap.size, 1, none⟩ = some (.slice V q cv) := rS.cell 1
    have LM1 := hid (LM.out w3 bel2 HS.out)
    clear bb k0 LT1 HW2 LM r2 rS
    go_wp2_with fail
    refine LM1.out.mono ?_
    rintro e w4 ⟨rfl, bb⟩
    have F := hid (show AnsB w (walkB d.1 d.2 k) (.returned (.bool (goOn d.1 d.2 k.1 k.2).isSome)) w4 from ⟨by rw [HYES.out], next_trans bel2 bb⟩)
    clear bb bel2 k1 k2 k3 k4 LM1 HYES
    generalize (goOn d.1 d.2 k.1 k.2).isSome = bz at *
    go_wp2
    go_ret
    exact F.out
   ·have hle : ¬ (sn : Int) ≤ 60 := by omega
    go_enter Try.func32, Try.ntmps32
    go_wp2_with fail
    rw [← HW.out]
    refine LS.out.mono ?_
    rintro e w1 ⟨he, bb⟩
    rw [HS.out] at he
    have he : e = .returned (.tuple #[.agg #[.slice A n cs, .slice V q cv], .bool true]) := he
    subst he
    have b2 := (Below.refl w1.heap.size w1).alloc (Nat.le_refl _) (.cells #[.slice A n cs, .slice V q cv] 93)
    have r2 := (rW.next bb).next b2
    have bel2 := next_trans (next_trans bel bb) b2
    have k0 : (w1.alloc (.cells #[.slice A n cs, .slice V q cv] 93)).cell? ⟨w.heap.size + 1, 0, none⟩ = some (.slice F fn fc) := r2.cell 0
    have LT1 := hid (LT.out _ bel2)
    have B2 := hid bel2
    have R2 := hid r2
    clear bb bel rA rW LT LM b2 r2 bel2
    go_wp2_with fail
    refine LT1.out.mono ?_
    rintro e w3 ⟨he, bb⟩
    rw [HT.out] at he
    subst he
    have k1 : w3.cell? ⟨w.heap.size + 1, 1, none⟩ = some (.slice S sn sc) := (R2.out.next bb).cell 1
    have F := hid (ansB (b := walkB d.1 d.2 k) (a := false) (by rw [walk_long HSN.out h60]) (next_trans B2.out bb))
    clear bb k0 LT1 B2
    go_wp2
    go_ret
    exact F.out
end walkImpl
end
section
namespace walkX
open Go.RowKit base ints sig term marks app sym varsOf shape kindsR kindsW ruleMath walkMath walkSpec walkImpl
end walkX
end
section
open Go.Lib (hid)
namespace wWalkOk
open Go.RowKit base ints sig cursor marks app sym appAt segs segsHelp segsMark kinds shape varsOf kindsR kindsW ruleMath stepMath walkMath stepSpec walkSpec walkImpl walkX
set_option maxRecDepth 100000
set_option maxHeartbeats 8000000 in
theorem law (v0_0 v0_1 : Value) (d0 : Dat sSystem) (v1_0 v1_1 : Value) (d1 : Dat sWalk) (w : World) (s0 : Rd w w.heap.size sSystem [v0_0, v0_1] d0) (s1 : Rd w w.heap.size sWalk [v1_0, v1_1] d1) :
  Calls Try.prog 6 #[.agg #[v0_0, v0_1], .agg #[v1_0, v1_1]] w (Fine w) := by
 obtain ⟨W, hW⟩ : ∃ W, W = (w.alloc (.cells #[v0_0, v0_1] 37)).alloc (.cells #[v1_0, v1_1] 51) := ⟨_, rfl⟩
 have rA0 : Row W (w.heap.size) 37 #[v0_0, v0_1] := by rw [hW]; have := (Row.new (w) 37 #[v0_0, v0_1]).alloc (.cells #[v1_0, v1_1] 51); simpa using this
 have rA1 : Row W (w.heap.size + 1) 51 #[v1_0, v1_1] := by rw [hW]; have := Row.new (w.alloc (.cells #[v0_0, v0_1] 37)) 51 #[v1_0, v1_1]; simpa using this
 have bW : Below w.heap.size w W := by rw [hW]; exact ((Below.refl w.heap.size w).alloc (by simp) (.cells #[v0_0, v0_1] 37)).alloc (by simp) (.cells #[v1_0, v1_1] 51)
 have zA0 := rA0.lt
 have zA1 := rA1.lt
 replace s0 := s0.next bW
 replace s1 := s1.next bW
 have HW := hid hW
 clear hW
 obtain ⟨t0, ht0⟩ : ∃ z, sz sSystem d0 = z := ⟨_, rfl⟩
 have HT0 := hid ht0
 clear ht0
 obtain ⟨t1, ht1⟩ : ∃ z, sz sWalk d1 = z := ⟨_, rfl⟩
 have HT1 := hid ht1
 clear ht1
 obtain ⟨v, hv⟩ : ∃ v, walkB d0.1 d0.2 d1 = v := ⟨_, rfl⟩
 have HV := hid hv
 clear hv
 have ev : (v != v) = false := by simp
 go_enter Try.func6, Try.ntmps6
 go_wp2_with fail
 rw [← HW.out]
 clear HW
 have bel := Below.refl W.heap.size W
 have cA0_0 : W.cell? ⟨w.heap.size, 0, none⟩ = some (v0_0) := (rA0.next bel).cell 0
 have cA0_1 : W.cell? ⟨w.heap.size, 1, none⟩ = some (v0_1) := (rA0.next bel).cell 1
 have cA1_0 : W.cell? ⟨w.heap.size + 1, 0, none⟩ = some (v1_0) := (rA1.next bel).cell 0
 have cA1_1 : W.cell? ⟨w.heap.size + 1, 1, none⟩ = some (v1_1) := (rA1.next bel).cell 1
 refine (szK_System _ _ d0 (1048576) _ (s0.next bel) (by omega) (by omega)).mono ?_
 rintro e w1 ⟨he, bb⟩
 rw [HT0.out] at he
 replace bel := next_trans bel bb
 have zw1 := bb.size
 clear bb
 by_cases q0 : t0 ≤ 1048576
 case neg =>
  rw [if_pos (by omega)] at he
  subst he
  have F := hid (bW.trans (bel.mono bW.size))
  clear bel bW cA0_0 cA0_1 cA1_0 cA1_1
  go_wp2
  go_ret
  exact ⟨rfl, F.out⟩
 rw [if_neg (by omega)] at he
 subst he
 have h0 : Hid (sz sSystem d0 ≤ 1048576) := hid (by rw [HT0.out]; omega)
 clear cA0_0 cA0_1 cA1_0 cA1_1
 have cA0_0 : w1.cell? ⟨w.heap.size, 0, none⟩ = some (v0_0) := (rA0.next bel).cell 0
 have cA0_1 : w1.cell? ⟨w.heap.size, 1, none⟩ = some (v0_1) := (rA0.next bel).cell 1
 have cA1_0 : w1.cell? ⟨w.heap.size + 1, 0, none⟩ = some (v1_0) := (rA1.next bel).cell 0
 have cA1_1 : w1.cell? ⟨w.heap.size + 1, 1, none⟩ = some (v1_1) := (rA1.next bel).cell 1
 go_wp2_with fail
 refine (szK_Walk _ _ d1 (1048576 - (t0 : Int)) _ (s1.next bel) (by omega) (by omega)).mono ?_
 rintro e w2 ⟨he, bb⟩
 rw [HT1.out] at he
 replace bel := next_trans bel bb
 have zw2 := bb.size
 clear bb
 by_cases q1 : t0 + t1 ≤ 1048576
 case neg =>
  rw [if_pos (by omega)] at he
  subst he
  have F := hid (bW.trans (bel.mono bW.size))
  clear bel bW cA0_0 cA0_1 cA1_0 cA1_1
  go_wp2
  go_ret
  exact ⟨rfl, F.out⟩
 rw [if_neg (by omega)] at he
 subst he
 have h1 : Hid (sz sWalk d1 ≤ 1048576) := hid (by rw [HT1.out]; omega)
 clear cA0_0 cA0_1 cA1_0 cA1_1
 have cA0_0 : w2.cell? ⟨w.heap.size, 0, none⟩ = some (v0_0) := (rA0.next bel).cell 0
 have cA0_1 : w2.cell? ⟨w.heap.size, 1, none⟩ = some (v0_1) := (rA0.next bel).cell 1
 have cA1_0 : w2.cell? ⟨w.heap.size + 1, 0, none⟩ = some (v1_0) := (rA1.next bel).cell 0
 have cA1_1 : w2.cell? ⟨w.heap.size + 1, 1, none⟩ = some (v1_1) := (rA1.next bel).cell 1
 go_wp2_with fail
 replace bel := bel.drew
 have zdw2 := (drew_below w2).size
 go_region_held3 (fun w' => w'.cell? ⟨w.heap.size, 0, none⟩ = some (v0_0) ∧ w'.cell? ⟨w.heap.size, 1, none⟩ = some (v0_1) ∧ w'.cell? ⟨w.heap.size + 1, 0, none⟩ = some (v1_0) ∧ w'.cell? ⟨w.heap.size + 1, 1, none⟩ = some (v1_1))
  (go_keep)
  (first
   | (go_at_call_of 23 (Value.agg #[v0_0, v0_1]); refine (toK_System _ _ d0 _ (s0.next bel) h0.out).mono ?_; rintro e w3 ⟨p0A0, p0n0, p0c0, p0A1, p0n1, p0c1, rfl, op0, bb⟩; replace bel := next_trans bel bb; have cA0_0w3 : w3.cell? ⟨w.heap.size, 0, none⟩ = some (v0_0) := (rA0.next bel).cell 0; have cA0_1w3 : w3.cell? ⟨w.heap.size, 1, none⟩ = some (v0_1) := (rA0.next bel).cell 1; have cA1_0w3 : w3.cell? ⟨w.heap.size + 1, 0, none⟩ = some (v1_0) := (rA1.next bel).cell 0; have cA1_1w3 : w3.cell? ⟨w.heap.size + 1, 1, none⟩ = some (v1_1) := (rA1.next bel).cell 1; have zqw3 := bb.size; clear bb)
   | (go_at_call_of 31 (Value.agg #[v1_0, v1_1]); refine (toK_Walk _ _ d1 _ (s1.next bel) h1.out).mono ?_; rintro e w4 ⟨p1A0, p1n0, p1c0, p1A1, p1n1, p1c1, rfl, op1, bb⟩; replace op0 := op0.next bb; replace bel := next_trans bel bb; have cA0_0w4 : w4.cell? ⟨w.heap.size, 0, none⟩ = some (v0_0) := (rA0.next bel).cell 0; have cA0_1w4 : w4.cell? ⟨w.heap.size, 1, none⟩ = some (v0_1) := (rA0.next bel).cell 1; have cA1_0w4 : w4.cell? ⟨w.heap.size + 1, 0, none⟩ = some (v1_0) := (rA1.next bel).cell 0; have cA1_1w4 : w4.cell? ⟨w.heap.size + 1, 1, none⟩ = some (v1_1) := (rA1.next bel).cell 1; have zqw4 := bb.size; clear bb)
   | (go_at_call 30; refine (specWalkOk _ _ _ _ d0 d1 _ op0.rd op1.rd h0.out h1.out).mono ?_; rintro e w5 ⟨he, bb⟩; rw [HV.out] at he; subst he; replace bel := next_trans bel bb; have cA0_0w5 : w5.cell? ⟨w.heap.size, 0, none⟩ = some (v0_0) := (rA0.next bel).cell 0; have cA0_1w5 : w5.cell? ⟨w.heap.size, 1, none⟩ = some (v0_1) := (rA0.next bel).cell 1; have cA1_0w5 : w5.cell? ⟨w.heap.size + 1, 0, none⟩ = some (v1_0) := (rA1.next bel).cell 0; have cA1_1w5 : w5.cell? ⟨w.heap.size + 1, 1, none⟩ = some (v1_1) := (rA1.next bel).cell 1; have zqw5 := bb.size; clear bb op0 op1))
 clear cA0_0 cA0_1 cA1_0 cA1_1 cA0_0w5 cA0_1w5 cA1_0w5 cA1_1w5
 have cA0_0 : w5.cell? ⟨w.heap.size, 0, none⟩ = some (v0_0) := (rA0.next bel).cell 0
 have cA0_1 : w5.cell? ⟨w.heap.size, 1, none⟩ = some (v0_1) := (rA0.next bel).cell 1
 have cA1_0 : w5.cell? ⟨w.heap.size + 1, 0, none⟩ = some (v1_0) := (rA1.next bel).cell 0
 have cA1_1 : w5.cell? ⟨w.heap.size + 1, 1, none⟩ = some (v1_1) := (rA1.next bel).cell 1
 go_wp2_with fail
 refine (toK_System _ _ d0 _ (s0.next bel) h0.out).mono ?_
 rintro e w6 ⟨x0A0, x0n0, x0c0, x0A1, x0n1, x0c1, rfl, ox0, bb⟩
 replace bel := next_trans bel bb
 have zw6 := bb.size
 clear bb
 clear cA0_0 cA0_1 cA1_0 cA1_1
 have cA0_0 : w6.cell? ⟨w.heap.size, 0, none⟩ = some (v0_0) := (rA0.next bel).cell 0
 have cA0_1 : w6.cell? ⟨w.heap.size, 1, none⟩ = some (v0_1) := (rA0.next bel).cell 1
 have cA1_0 : w6.cell? ⟨w.heap.size + 1, 0, none⟩ = some (v1_0) := (rA1.next bel).cell 0
 have cA1_1 : w6.cell? ⟨w.heap.size + 1, 1, none⟩ = some (v1_1) := (rA1.next bel).cell 1
 have dA0_0 : (w6.alloc (.cells #[.slice x0A0 x0n0 x0c0, .slice x0A1 x0n1 x0c1] 42)).cell? ⟨w.heap.size, 0, none⟩ = some (v0_0) := ((rA0.next bel).alloc _).cell 0
 have dA0_1 : (w6.alloc (.cells #[.slice x0A0 x0n0 x0c0, .slice x0A1 x0n1 x0c1] 42)).cell? ⟨w.heap.size, 1, none⟩ = some (v0_1) := ((rA0.next bel).alloc _).cell 1
 have dA1_0 : (w6.alloc (.cells #[.slice x0A0 x0n0 x0c0, .slice x0A1 x0n1 x0c1] 42)).cell? ⟨w.heap.size + 1, 0, none⟩ = some (v1_0) := ((rA1.next bel).alloc _).cell 0
 have dA1_1 : (w6.alloc (.cells #[.slice x0A0 x0n0 x0c0, .slice x0A1 x0n1 x0c1] 42)).cell? ⟨w.heap.size + 1, 1, none⟩ = some (v1_1) := ((rA1.next bel).alloc _).cell 1
 go_wp2_with fail
 obtain ⟨w7, hw⟩ : ∃ W, W = w6.alloc (.cells #[.slice x0A0 x0n0 x0c0, .slice x0A1 x0n1 x0c1] 42) := ⟨_, rfl⟩
 rw [← hw]
 have rx0 : Row w7 w6.heap.size 42 #[.slice x0A0 x0n0 x0c0, .slice x0A1 x0n1 x0c1] := by rw [hw]; exact Row.new _ _ _
 have bb : Below w6.heap.size w6 w7 := by rw [hw]; exact (Below.refl _ _).alloc (Nat.le_refl _) _
 have yrx0 : w6.heap.size < w7.heap.size := by rw [hw]; simp
 clear hw
 replace ox0 := ox0.next bb
 replace bel := next_trans bel bb
 have zw7 := bb.size
 clear bb
 clear dA0_0 dA0_1 dA1_0 dA1_1
 clear cA0_0 cA0_1 cA1_0 cA1_1
 have cA0_0 : w7.cell? ⟨w.heap.size, 0, none⟩ = some (v0_0) := (rA0.next bel).cell 0
 have cA0_1 : w7.cell? ⟨w.heap.size, 1, none⟩ = some (v0_1) := (rA0.next bel).cell 1
 have cA1_0 : w7.cell? ⟨w.heap.size + 1, 0, none⟩ = some (v1_0) := (rA1.next bel).cell 0
 have cA1_1 : w7.cell? ⟨w.heap.size + 1, 1, none⟩ = some (v1_1) := (rA1.next bel).cell 1
 have cx0_0 : w7.cell? ⟨w6.heap.size, 0, none⟩ = some (.slice x0A0 x0n0 x0c0) := (rx0).cell 0
 have cx0_1 : w7.cell? ⟨w6.heap.size, 1, none⟩ = some (.slice x0A1 x0n1 x0c1) := (rx0).cell 1
 refine (toK_Walk _ _ d1 _ (s1.next bel) h1.out).mono ?_
 rintro e w8 ⟨x1A0, x1n0, x1c0, x1A1, x1n1, x1c1, rfl, ox1, bb⟩
 replace ox0 := ox0.next bb
 replace rx0 := rx0.next bb
 replace bel := next_trans bel bb
 have zw8 := bb.size
 clear bb
 clear cA0_0 cA0_1 cA1_0 cA1_1 cx0_0 cx0_1
 have cA0_0 : w8.cell? ⟨w.heap.size, 0, none⟩ = some (v0_0) := (rA0.next bel).cell 0
 have cA0_1 : w8.cell? ⟨w.heap.size, 1, none⟩ = some (v0_1) := (rA0.next bel).cell 1
 have cA1_0 : w8.cell? ⟨w.heap.size + 1, 0, none⟩ = some (v1_0) := (rA1.next bel).cell 0
 have cA1_1 : w8.cell? ⟨w.heap.size + 1, 1, none⟩ = some (v1_1) := (rA1.next bel).cell 1
 have cx0_0 : w8.cell? ⟨w6.heap.size, 0, none⟩ = some (.slice x0A0 x0n0 x0c0) := (rx0).cell 0
 have cx0_1 : w8.cell? ⟨w6.heap.size, 1, none⟩ = some (.slice x0A1 x0n1 x0c1) := (rx0).cell 1
 have dA0_0 : (w8.alloc (.cells #[.slice x1A0 x1n0 x1c0, .slice x1A1 x1n1 x1c1] 56)).cell? ⟨w.heap.size, 0, none⟩ = some (v0_0) := ((rA0.next bel).alloc _).cell 0
 have dA0_1 : (w8.alloc (.cells #[.slice x1A0 x1n0 x1c0, .slice x1A1 x1n1 x1c1] 56)).cell? ⟨w.heap.size, 1, none⟩ = some (v0_1) := ((rA0.next bel).alloc _).cell 1
 have dA1_0 : (w8.alloc (.cells #[.slice x1A0 x1n0 x1c0, .slice x1A1 x1n1 x1c1] 56)).cell? ⟨w.heap.size + 1, 0, none⟩ = some (v1_0) := ((rA1.next bel).alloc _).cell 0
 have dA1_1 : (w8.alloc (.cells #[.slice x1A0 x1n0 x1c0, .slice x1A1 x1n1 x1c1] 56)).cell? ⟨w.heap.size + 1, 1, none⟩ = some (v1_1) := ((rA1.next bel).alloc _).cell 1
 have dx0_0 : (w8.alloc (.cells #[.slice x1A0 x1n0 x1c0, .slice x1A1 x1n1 x1c1] 56)).cell? ⟨w6.heap.size, 0, none⟩ = some (.slice x0A0 x0n0 x0c0) := ((rx0).alloc _).cell 0
 have dx0_1 : (w8.alloc (.cells #[.slice x1A0 x1n0 x1c0, .slice x1A1 x1n1 x1c1] 56)).cell? ⟨w6.heap.size, 1, none⟩ = some (.slice x0A1 x0n1 x0c1) := ((rx0).alloc _).cell 1
 go_wp2_with fail
 obtain ⟨w9, hw⟩ : ∃ W, W = w8.alloc (.cells #[.slice x1A0 x1n0 x1c0, .slice x1A1 x1n1 x1c1] 56) := ⟨_, rfl⟩
 rw [← hw]
 have rx1 : Row w9 w8.heap.size 56 #[.slice x1A0 x1n0 x1c0, .slice x1A1 x1n1 x1c1] := by rw [hw]; exact Row.new _ _ _
 have bb : Below w8.heap.size w8 w9 := by rw [hw]; exact (Below.refl _ _).alloc (Nat.le_refl _) _
 have yrx1 : w8.heap.size < w9.heap.size := by rw [hw]; simp
 clear hw
 replace ox0 := ox0.next bb
 replace rx0 := rx0.next bb
 replace ox1 := ox1.next bb
 replace bel := next_trans bel bb
 have zw9 := bb.size
 clear bb
 clear dA0_0 dA0_1 dA1_0 dA1_1 dx0_0 dx0_1
 clear cA0_0 cA0_1 cA1_0 cA1_1 cx0_0 cx0_1
 have cA0_0 : w9.cell? ⟨w.heap.size, 0, none⟩ = some (v0_0) := (rA0.next bel).cell 0
 have cA0_1 : w9.cell? ⟨w.heap.size, 1, none⟩ = some (v0_1) := (rA0.next bel).cell 1
 have cA1_0 : w9.cell? ⟨w.heap.size + 1, 0, none⟩ = some (v1_0) := (rA1.next bel).cell 0
 have cA1_1 : w9.cell? ⟨w.heap.size + 1, 1, none⟩ = some (v1_1) := (rA1.next bel).cell 1
 have cx0_0 : w9.cell? ⟨w6.heap.size, 0, none⟩ = some (.slice x0A0 x0n0 x0c0) := (rx0).cell 0
 have cx0_1 : w9.cell? ⟨w6.heap.size, 1, none⟩ = some (.slice x0A1 x0n1 x0c1) := (rx0).cell 1
 have cx1_0 : w9.cell? ⟨w8.heap.size, 0, none⟩ = some (.slice x1A0 x1n0 x1c0) := (rx1).cell 0
 have cx1_1 : w9.cell? ⟨w8.heap.size, 1, none⟩ = some (.slice x1A1 x1n1 x1c1) := (rx1).cell 1
 refine (implWalkOk _ _ _ _ d0 d1 _ ox0.rd ox1.rd h0.out h1.out).mono ?_
 rintro e w10 ⟨he, bb⟩
 rw [HV.out] at he
 subst he
 replace ox0 := ox0.next bb
 replace rx0 := rx0.next bb
 replace ox1 := ox1.next bb
 replace rx1 := rx1.next bb
 replace bel := next_trans bel bb
 have zw10 := bb.size
 clear bb
 clear cA0_0 cA0_1 cA1_0 cA1_1 cx0_0 cx0_1 cx1_0 cx1_1
 have cA0_0 : w10.cell? ⟨w.heap.size, 0, none⟩ = some (v0_0) := (rA0.next bel).cell 0
 have cA0_1 : w10.cell? ⟨w.heap.size, 1, none⟩ = some (v0_1) := (rA0.next bel).cell 1
 have cA1_0 : w10.cell? ⟨w.heap.size + 1, 0, none⟩ = some (v1_0) := (rA1.next bel).cell 0
 have cA1_1 : w10.cell? ⟨w.heap.size + 1, 1, none⟩ = some (v1_1) := (rA1.next bel).cell 1
 have cx0_0 : w10.cell? ⟨w6.heap.size, 0, none⟩ = some (.slice x0A0 x0n0 x0c0) := (rx0).cell 0
 have cx0_1 : w10.cell? ⟨w6.heap.size, 1, none⟩ = some (.slice x0A1 x0n1 x0c1) := (rx0).cell 1
 have cx1_0 : w10.cell? ⟨w8.heap.size, 0, none⟩ = some (.slice x1A0 x1n0 x1c0) := (rx1).cell 0
 have cx1_1 : w10.cell? ⟨w8.heap.size, 1, none⟩ = some (.slice x1A1 x1n1 x1c1) := (rx1).cell 1
 go_wp2_with fail
 replace ox0 := ox0.drew
 replace rx0 := rx0.drew
 replace ox1 := ox1.drew
 replace rx1 := rx1.drew
 replace bel := bel.drew
 have zdw10 := (drew_below w10).size
 go_region_held3 (fun w' => w'.cell? ⟨w6.heap.size, 0, none⟩ = some (.slice x0A0 x0n0 x0c0) ∧ w'.cell? ⟨w6.heap.size, 1, none⟩ = some (.slice x0A1 x0n1 x0c1) ∧ w'.cell? ⟨w.heap.size, 0, none⟩ = some (v0_0) ∧ w'.cell? ⟨w.heap.size, 1, none⟩ = some (v0_1))
  (go_keep)
  (first
   | (go_at_call 23; refine (toK_System _ _ d0 _ (s0.next bel) h0.out).mono ?_; rintro e w11 ⟨t0A0, t0n0, t0c0, t0A1, t0n1, t0c1, rfl, ot, bb⟩; replace ox0 := ox0.next bb; replace rx0 := rx0.next bb; replace ox1 := ox1.next bb; replace rx1 := rx1.next bb; replace bel := next_trans bel bb; have k0_0w11 : w11.cell? ⟨w.heap.size, 0, none⟩ = some (v0_0) := (rA0.next bel).cell 0; have k0_1w11 : w11.cell? ⟨w.heap.size, 1, none⟩ = some (v0_1) := (rA0.next bel).cell 1; have l0_0w11 : w11.cell? ⟨w6.heap.size, 0, none⟩ = some (.slice x0A0 x0n0 x0c0) := rx0.cell 0; have l0_1w11 : w11.cell? ⟨w6.heap.size, 1, none⟩ = some (.slice x0A1 x0n1 x0c1) := rx0.cell 1; have zqw11 := bb.size; clear bb)
   | (go_at_call 25; refine (eqK_System _ _ _ _ d0 _ ox0.rd ot.rd h0.out).mono ?_; rintro e w12 ⟨rfl, bb⟩; replace ox0 := ox0.next bb; replace rx0 := rx0.next bb; replace ox1 := ox1.next bb; replace rx1 := rx1.next bb; replace bel := next_trans bel bb; have k0_0w12 : w12.cell? ⟨w.heap.size, 0, none⟩ = some (v0_0) := (rA0.next bel).cell 0; have k0_1w12 : w12.cell? ⟨w.heap.size, 1, none⟩ = some (v0_1) := (rA0.next bel).cell 1; have l0_0w12 : w12.cell? ⟨w6.heap.size, 0, none⟩ = some (.slice x0A0 x0n0 x0c0) := rx0.cell 0; have l0_1w12 : w12.cell? ⟨w6.heap.size, 1, none⟩ = some (.slice x0A1 x0n1 x0c1) := rx0.cell 1; have zqw12 := bb.size; clear bb ot))
 clear k0_0w11 l0_0w11 k0_1w11 l0_1w11 k0_0w12 l0_0w12 k0_1w12 l0_1w12
 clear ox0 rx0
 clear cA0_0 cA0_1 cA1_0 cA1_1 cx0_0 cx0_1 cx1_0 cx1_1
 have cA0_0 : w12.cell? ⟨w.heap.size, 0, none⟩ = some (v0_0) := (rA0.next bel).cell 0
 have cA0_1 : w12.cell? ⟨w.heap.size, 1, none⟩ = some (v0_1) := (rA0.next bel).cell 1
 have cA1_0 : w12.cell? ⟨w.heap.size + 1, 0, none⟩ = some (v1_0) := (rA1.next bel).cell 0
 have cA1_1 : w12.cell? ⟨w.heap.size + 1, 1, none⟩ = some (v1_1) := (rA1.next bel).cell 1
 have cx1_0 : w12.cell? ⟨w8.heap.size, 0, none⟩ = some (.slice x1A0 x1n0 x1c0) := (rx1).cell 0
 have cx1_1 : w12.cell? ⟨w8.heap.size, 1, none⟩ = some (.slice x1A1 x1n1 x1c1) := (rx1).cell 1
 go_wp2_with fail
 replace ox1 := ox1.drew
 replace rx1 := rx1.drew
 replace bel := bel.drew
 have zdw12 := (drew_below w12).size
 go_region_held3 (fun w' => w'.cell? ⟨w8.heap.size, 0, none⟩ = some (.slice x1A0 x1n0 x1c0) ∧ w'.cell? ⟨w8.heap.size, 1, none⟩ = some (.slice x1A1 x1n1 x1c1) ∧ w'.cell? ⟨w.heap.size + 1, 0, none⟩ = some (v1_0) ∧ w'.cell? ⟨w.heap.size + 1, 1, none⟩ = some (v1_1))
  (go_keep)
  (first
   | (go_at_call 31; refine (toK_Walk _ _ d1 _ (s1.next bel) h1.out).mono ?_; rintro e w13 ⟨t1A0, t1n0, t1c0, t1A1, t1n1, t1c1, rfl, ot, bb⟩; replace ox1 := ox1.next bb; replace rx1 := rx1.next bb; replace bel := next_trans bel bb; have k1_0w13 : w13.cell? ⟨w.heap.size + 1, 0, none⟩ = some (v1_0) := (rA1.next bel).cell 0; have k1_1w13 : w13.cell? ⟨w.heap.size + 1, 1, none⟩ = some (v1_1) := (rA1.next bel).cell 1; have l1_0w13 : w13.cell? ⟨w8.heap.size, 0, none⟩ = some (.slice x1A0 x1n0 x1c0) := rx1.cell 0; have l1_1w13 : w13.cell? ⟨w8.heap.size, 1, none⟩ = some (.slice x1A1 x1n1 x1c1) := rx1.cell 1; have zqw13 := bb.size; clear bb)
   | (go_at_call 33; refine (eqK_Walk _ _ _ _ d1 _ ox1.rd ot.rd h1.out).mono ?_; rintro e w14 ⟨rfl, bb⟩; replace ox1 := ox1.next bb; replace rx1 := rx1.next bb; replace bel := next_trans bel bb; have k1_0w14 : w14.cell? ⟨w.heap.size + 1, 0, none⟩ = some (v1_0) := (rA1.next bel).cell 0; have k1_1w14 : w14.cell? ⟨w.heap.size + 1, 1, none⟩ = some (v1_1) := (rA1.next bel).cell 1; have l1_0w14 : w14.cell? ⟨w8.heap.size, 0, none⟩ = some (.slice x1A0 x1n0 x1c0) := rx1.cell 0; have l1_1w14 : w14.cell? ⟨w8.heap.size, 1, none⟩ = some (.slice x1A1 x1n1 x1c1) := rx1.cell 1; have zqw14 := bb.size; clear bb ot))
 clear k1_0w13 l1_0w13 k1_1w13 l1_1w13 k1_0w14 l1_0w14 k1_1w14 l1_1w14
 clear ox1 rx1
 clear cA0_0 cA0_1 cA1_0 cA1_1 cx1_0 cx1_1
 have cA0_0 : w14.cell? ⟨w.heap.size, 0, none⟩ = some (v0_0) := (rA0.next bel).cell 0
 have cA0_1 : w14.cell? ⟨w.heap.size, 1, none⟩ = some (v0_1) := (rA0.next bel).cell 1
 have cA1_0 : w14.cell? ⟨w.heap.size + 1, 0, none⟩ = some (v1_0) := (rA1.next bel).cell 0
 have cA1_1 : w14.cell? ⟨w.heap.size + 1, 1, none⟩ = some (v1_1) := (rA1.next bel).cell 1
 have F := hid (bW.trans (bel.mono bW.size))
 clear bel bW cA0_0 cA0_1 cA1_0 cA1_1
 go_wp2
 go_ret
 exact ⟨rfl, F.out⟩
end wWalkOk
end
section
namespace openX
open Go.ChangeShapes Go.WideShapes Go.ChangeAt Go.RowKit base segs shape
def Wf : (s : Sh) → Dat s → Prop
 | .num, (x : Int) => -9223372036854775808 ≤ x ∧ x ≤ 9223372036854775807
 | .bit, _ => True
 | .row _ s, (d : List (Dat s)) => ∀ j, j < d.length → Wf s (d.getD j (dft s))
 | .cat a b, d => Wf a d.1 ∧ Wf b d.2
mutual
def fitsB (P : Program) : Nat → Sh → TypeId → Bool
 | 0, _, _ => false
 | n + 1, s, t => match P.underlying t with
  | some (.struct fs) => P.cellsOf t == nc s && fitsL P n fs.toList 0 s
  | some (.int .i64) => match s with | .num => true | _ => false
  | some .bool => match s with | .bit => true | _ => false
  | some (.slice e) => match s with | .row _ s' => P.cellsOf e == nc s' && fitsB P n s' e | _ => false
  | _ => false
def fitsL (P : Program) : Nat → List Field → Nat → Sh → Bool
 | 0, _, _, _ => false
 | _ + 1, [], _, _ => false
 | n + 1, [f], k, s => f.offset == k && (P.cellsOf f.type == nc s && fitsB P n s f.type)
 | n + 1, f :: g :: fs, k, s => match s with | .cat a b => f.offset == k && (P.cellsOf f.type == nc a && (fitsB P n a f.type && fitsL P n (g :: fs) (k + nc a) b)) | _ => false
end
section
variable {H : Type} {enc : TypeId × Value → H} {P : Program} {w : World} {held : Bool}
theorem addr_add {b off i : Nat} : (⟨b, off, none⟩ : Addr).add i = ⟨b, off + i, none⟩ := by unfold Addr.add; split <;> simp_all
theorem rd_trod : ∀ n : Nat, (∀ (s : Sh) (t : TypeId) (fuel : Nat) (cs : List Value) (x : DataW H × List MemPlace), fitsB P n s t = true → DataW.trod enc P w 0 (fun _ => true) held fuel t cs = some x → ∃ d, Rd w w.heap.size s cs d ∧ Wf s d) ∧
  (∀ (fs : List Field) (k : Nat) (s : Sh) (cs : List Value) (m : Nat), fitsL P n fs k s = true → (∀ (i : Nat) (f : Field), fs[i]? = some f → ∃ x, DataW.trod enc P w 0 (fun _ => true) held m f.type ((cs.drop f.offset).take (P.cellsOf f.type)) = some x) →
   ∃ d, Rd w w.heap.size s ((cs.drop k).take (nc s)) d ∧ Wf s d) := by
 intro n
 induction n with
 | zero => exact ⟨fun _ _ _ _ _ h => by simp [fitsB] at h, fun _ _ _ _ _ h => by simp [fitsL] at h⟩
 | succ n ih =>
  refine ⟨fun s t fuel cs x hf h => ?_, fun fs k s cs m hf h => ?_⟩
  ·unfold fitsB at hf
   split at hf
   ·rename_i fs hu
    simp only [Bool.and_eq_true, beq_iff_eq] at hf
    obtain ⟨xs, n', hfu, hx, hlen, hxl, hg⟩ := DataW.trod_struct hu h
    obtain ⟨d, hr, hw⟩ := ih.2 fs.toList 0 s cs n' hf.2 (fun i f hi => by
     have hi' : fs[i]? = some f := by simpa using hi
     have h1 := hg i f hi'
     have hlt : i < fs.size := (Array.getElem?_eq_some_iff.1 hi').1
     exact ⟨xs[i]'(by omega), by rw [h1]; exact List.getElem?_eq_getElem (by omega)⟩)
    rw [List.drop_zero, List.take_of_length_le (by omega)] at hr
    exact ⟨d, hr, hw⟩
   ·rename_i hu
    split at hf
    ·obtain ⟨z, e1, _, hw⟩ := DataW.trod_int hu h
     refine ⟨z, e1, ?_⟩
     show -9223372036854775808 ≤ z ∧ z ≤ 9223372036854775807
     simpa [Lit.wf, IntKind.min, IntKind.max, IntKind.signed, IntKind.bits] using hw
    ·cases hf
   ·rename_i hu
    split at hf
    ·obtain ⟨z, e1, _⟩ := DataW.trod_bool hu h
     exact ⟨z, e1, trivial⟩
    ·cases hf
   ·rename_i e hu
    split at hf
    ·rename_i e0 s'
     simp only [Bool.and_eq_true, beq_iff_eq] at hf
     rcases Go.Deep.open_slice hu h with ⟨hcs, _⟩ | ⟨a, len, cap, m, n', D, Pl, hcs, _, hl, hm, hmm, _, hi⟩
     ·exact ⟨[], ⟨none, 0, 0, hcs, ⟨by omega, by omega, fun _ => rfl⟩, rfl, fun h => absurd h (by omega)⟩, fun j hj => absurd hj (Nat.not_lt_zero _)⟩
     ·have hmc : m = cap := by simpa using hmm
      subst hmc
      have hd : ∀ j, j < len → ∃ (es : List Value) (dj : Dat s'), es.length = nc s' ∧ (∀ i, i < nc s' → w.cell? ((a.add (j * nc s')).add i) = es[i]?) ∧ Rd w w.heap.size s' es dj ∧ Wf s' dj := fun j hj => by
       obtain ⟨cs', hc, ht⟩ := hi j (by omega)
       obtain ⟨dj, hr, hw⟩ := ih.1 s' e n' cs' _ hf.2 ht
       rw [hf.1] at hc
       obtain ⟨_, hcl, hat⟩ := World.cells?_some hc
       exact ⟨cs', dj, hcl, hat, hr, hw⟩
      have hspot : 0 < len → a.spot = none := fun h0 => by
       obtain ⟨es, dj, h1, h2, _⟩ := hd 0 h0
       have hp := nc_pos s'
       have h3 := h2 0 (by omega)
       rw [List.getElem?_eq_getElem (by omega)] at h3
       have := World.cell?_spot h3
       simpa [Addr.add] using this
      obtain ⟨ds, hdl, hds⟩ : ∃ ds : List (Dat s'), ds.length = len ∧ ∀ j, j < len → ∃ es : List Value, es.length = nc s' ∧ (∀ i, i < nc s' → w.cell? ((a.add (j * nc s')).add i) = es[i]?) ∧ Rd w w.heap.size s' es (ds.getD j (dft s')) ∧ Wf s' (ds.getD j (dft s')) := by
       refine ⟨(List.range len).map fun j => if hj : j < len then Classical.choose (Classical.choose_spec (hd j hj)) else dft s', by simp, fun j hj => ?_⟩
       refine ⟨Classical.choose (hd j hj), ?_⟩
       have h1 := Classical.choose_spec (Classical.choose_spec (hd j hj))
       have e1 : ((List.range len).map fun j => if hj : j < len then Classical.choose (Classical.choose_spec (hd j hj)) else dft s').getD j (dft s') = Classical.choose (Classical.choose_spec (hd j hj)) := by simp [List.getD, hj]
       rw [e1]
       exact h1
      refine ⟨ds, ⟨some a, len, m, hcs, ⟨hl, by unfold maxLen at hm; omega, fun e => by cases e⟩, hdl, fun h0 => ?_⟩, fun j hj => by
       obtain ⟨es, _, _, _, hw⟩ := hds j (by rw [← hdl]; exact hj)
       exact hw⟩
      obtain ⟨b, off, spot⟩ := a
      have hs := hspot h0
      simp only at hs
      subst hs
      refine ⟨b, off, rfl, ?_, fun j hj => ?_⟩
      ·obtain ⟨es, h1, h2, _⟩ := hds 0 h0
       have hp := nc_pos s'
       have h3 := h2 0 (by omega)
       rw [List.getElem?_eq_getElem (by omega)] at h3
       have h4 := World.block_lt_of_cell? _ _ h3
       simpa [addr_add] using h4
      ·obtain ⟨es, h1, h2, h3, _⟩ := hds j hj
       refine ⟨es, h1, fun i hi2 => ?_, h3⟩
       have := h2 i (by omega)
       rw [addr_add, addr_add] at this
       exact this
    ·cases hf
   ·cases hf
  ·match fs, hf, h with
   | [], hf, _ => simp [fitsL] at hf
   | [f], hf, h =>
    unfold fitsL at hf
    simp only [Bool.and_eq_true, beq_iff_eq] at hf
    obtain ⟨h1, h2, h3⟩ := hf
    obtain ⟨x, hx⟩ := h 0 f rfl
    rw [h1, h2] at hx
    exact ih.1 s f.type m _ x h3 hx
   | f :: g :: fs, hf, h =>
    cases s with
    | cat a b =>
     unfold fitsL at hf
     simp only [Bool.and_eq_true, beq_iff_eq] at hf
     obtain ⟨h1, h2, h3, h4⟩ := hf
     obtain ⟨x, hx⟩ := h 0 f rfl
     rw [h1, h2] at hx
     obtain ⟨d1, r1, w1⟩ := ih.1 a f.type m _ x h3 hx
     obtain ⟨d2, r2, w2⟩ := ih.2 (g :: fs) (k + nc a) b cs m h4 (fun i f' hi => h (i + 1) f' hi)
     refine ⟨(d1, d2), ⟨_, _, ?_, r1, r2⟩, w1, w2⟩
     show List.take (nc a + nc b) (List.drop k cs) = _
     rw [List.take_add, List.drop_drop]
    | num => simp [fitsL] at hf
    | bit => simp [fitsL] at hf
    | row e s' => simp [fitsL] at hf
theorem open_val {s : Sh} {t : TypeId} {v : Value} {d : DataW H} {p : List MemPlace} {n : Nat} (hf : fitsB P n s t = true) (h : DataW.Trod enc P w 0 (fun _ => true) held t v d p) : ∃ x, Rd w w.heap.size s v.cells.toList x ∧ Wf s x := by
 obtain ⟨fuel, hfu⟩ := h
 exact (rd_trod n).1 s t fuel _ _ hf hfu
end
end openX
end
end Go.Proofs.Ytfdejhhnochomaa
