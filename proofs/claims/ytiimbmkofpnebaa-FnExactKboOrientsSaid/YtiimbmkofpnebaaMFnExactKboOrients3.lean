/-
  MERGED: my texts RuleImpl, RankSpec, Dice, DrawSig, DrawTerm, DrawAny, DrawX, Stk, PartsSpec, KboLink, AnyJ, TabR, Inside, Plain, PlainOf, MatchSpec, Whole, KboOft, KboWt, LpoPrec, KboOk, one behind the other, as they are. By an AI agent.
-/
import Derived.Test.YtiimbmkofpnebaaMFnExactKboOrients2
import Derived.BigQuiet
import Derived.Deep.LoopGhost
import Derived.Deep.AppendLies
import Derived.Deep.RegionLaw
import Derived.Deep.RegionHeld3
import Derived.Deep.Onto
import Derived.Deep.QuietTactic
import Derived.Deep.DeepMust
import Derived.Laws.Rows
import Derived.Laws.ResultCell
namespace Go.Proofs.Ytiimbmkofpnebaa
section
open Go.Lib (hid)
namespace ruleImpl
open Go.RowKit base ints sig term termOk marks app sym segs termFacts varsMath varsOf rename same count linear shape kindsR ruleMath ruleSpec anyR
set_option maxRecDepth 100000
theorem containsI (A : Option Addr) (n c : Nat) (xs : List Int) (x : Int) (w : World) (h : Seg w w.heap.size A n xs) (hn : n ≤ 1048576) :
  Calls Try.prog 152 #[.slice A n c, .int .i64 x] w fun e w' => w = w' ∧ e = .returned (.bool (decide (x ∈ xs))) := by
 have L := hid (indexOf A n c xs x w h hn)
 clear h
 go_enter Try.func152, Try.ntmps152
 go_wp2_with fail
 refine L.out.mono ?_
 rintro e w' ⟨rfl, rfl⟩
 have E : decide (0 ≤ indexI xs x) = decide (x ∈ xs) := decide_eq_decide.2 (by unfold indexI; split <;> simp_all)
 have HE := hid E
 clear L E
 generalize indexI xs x = z at *
 go_wp2
 go_ret
 exact ⟨rfl, by rw [← HE.out]; rfl⟩
set_option maxHeartbeats 1000000 in
theorem ruleNew (g : Nat) (A1 : Option Addr) (n1 c1 : Nat) (r : Value) (t : List Int) (x : Int) (W : World) (hr : Row W g 85 #[.slice A1 n1 c1, r]) (h : Seg W W.heap.size A1 n1 t) (hn : n1 ≤ 1048576) :
  Calls Try.prog 151 #[.int .i64 x, .pointer (some ⟨g, 0, none⟩)] W (AnsB W (newB t x)) := by
 have L := hid (containsI A1 n1 c1 t x W h hn)
 have c0 : W.cell? ⟨g, 0, none⟩ = some (.slice A1 n1 c1) := hr.cell 0
 clear h hr
 by_cases hx : x < 0
 ·have hd : decide (x < 0) = true := decide_eq_true hx
  have E : (!decide (x ∈ t)) = newB t x := by unfold newB; by_cases h : x ∈ t <;> simp [h, hx]
  have HE := hid E
  clear E
  go_enter Try.func151, Try.ntmps151
  go_wp2_with fail
  refine L.out.mono ?_
  rintro e w' ⟨rfl, rfl⟩
  have F : AnsB W (newB t x) (.returned (.bool (!decide (x ∈ t)))) W := ⟨by rw [HE.out], Below.refl _ _⟩
  have HF := hid F
  clear L F
  generalize decide (x ∈ t) = z at *
  go_wp2
  go_ret
  exact HF.out
 ·have hd : decide (x < 0) = false := decide_eq_false hx
  have F : AnsB W (newB t x) (.returned (.bool false)) W := ⟨by unfold newB; rw [decide_eq_false (fun h => hx h.1)], Below.refl _ _⟩
  have HF := hid F
  clear F L
  go_enter Try.func151, Try.ntmps151
  go_wp2
  go_ret
  exact HF.out
theorem rule_all {sg : List Int} {d : Rl} (h1 : termOkB sg d.1 = true) (h2 : termOkB sg d.2 = true) (h0 : ¬ hd d.1 < 0) : ruleOkB sg d = !d.2.any (newB d.1) := by
 unfold ruleOkB; rw [h1, h2, decide_eq_false h0]; rfl
set_option maxHeartbeats 4000000 in
theorem implRuleOk (a l r : Value) (sg : List Int) (d : Dat sRule) (w : World) (h : Rd w w.heap.size sI [a] sg) (h' : Rd w w.heap.size sRule [l, r] d) (hz : sz sI sg ≤ 1048576) (hz' : sz sRule d ≤ 1048576) :
  Calls Try.prog 128 #[.agg #[a], .agg #[l, r]] w (AnsB w (ruleOkB sg d)) := by
 have g1 := (parts_Rule h').2
 obtain ⟨A, n, c, rfl, hs, hc⟩ := rd_ints.1 h
 have hn := len_ints hs.1 hz
 obtain ⟨A1, n1, c1, A2, n2, c2, rfl, rfl, s1, k1, s2, k2, hn1, hn2⟩ := rd_rule h' hz'
 obtain ⟨W, hW, rA, rR, bel⟩ := box2 w 29 85 #[.slice A n c] #[.slice A1 n1 c1, .slice A2 n2 c2]
 have HW := hid hW
 have HL1 := hid s1.1
 have HL2 := hid s2.1
 have L1 := hid (implTermOk A A1 n c n1 c1 sg d.1 W (hs.next bel) (s1.next bel) hn hn1)
 have L2 := hid (fun (w1 : World) (bb : Below w.heap.size w w1) => implTermOk A A2 n c n2 c2 sg d.2 w1 (hs.next bb) (s2.next bb) hn hn2)
 have LC := hid (fun (w1 : World) (bb : Below w.heap.size w w1) (hr : Row w1 (w.heap.size + 1) 85 #[.slice A1 n1 c1, .slice A2 n2 c2]) => containsFuncI 151 #[] #[.pointer (some ⟨w.heap.size + 1, 0, none⟩)] (fun _ _ => rfl) (newB d.1) A2 n2 c2 d.2 w1
  (fun W x hW _ => ruleNew (w.heap.size + 1) A1 n1 c1 (.slice A2 n2 c2) d.1 x W (hr.next hW) (s1.next (next_trans bb hW)) hn1) (g1.next bb) s2.1 hn2)
 clear hW h h' hz hz' hs hc k1 k2 g1
 cases ok1 : termOkB sg d.1 with
 | false =>
  have HS := hid ok1
  clear ok1 s1 s2
  go_enter Try.func128, Try.ntmps128
  go_wp2_with fail
  rw [← HW.out]
  refine L1.out.mono ?_
  rintro e w1 ⟨he, bb⟩
  rw [HS.out] at he
  subst he
  have F := hid (ansB (b := ruleOkB sg d) (a := false) (by rw [rule_noL HS.out]) (next_trans bel bb))
  clear bb bel rA rR
  go_wp2
  go_ret
  exact F.out
 | true =>
  have hp1 := (term_len ok1).1
  rw [s1.1] at hp1
  obtain ⟨b, off, x, rfl, hbB, hx, ex⟩ := s1.spot (k := 0) (by omega)
  have HS := hid ok1
  have EX := hid (show hd d.1 = x from ex.out)
  have i0 : (0 : Int) < (n1 : Int) := by omega
  clear ok1 ex
  go_enter Try.func128, Try.ntmps128
  go_wp2_with fail
  rw [← HW.out]
  refine L1.out.mono ?_
  rintro e w1 ⟨he, bb⟩
  rw [HS.out] at he
  subst he
  replace rA := rA.next bb
  replace rR := rR.next bb
  replace bel := next_trans bel bb
  have cA : w1.cell? ⟨w.heap.size, 0, none⟩ = some (.slice A n c) := rA.cell 0
  have cR : w1.cell? ⟨w.heap.size + 1, 1, none⟩ = some (.slice A2 n2 c2) := rR.cell 1
  clear bb L1
  go_wp2_with fail
  refine (L2.out w1 bel).mono ?_
  cases ok2 : termOkB sg d.2 with
  | false =>
   have HS2 := hid ok2
   clear ok2
   rintro e w2 ⟨he, bb⟩
   rw [HS2.out] at he
   subst he
   have F := hid (ansB (b := ruleOkB sg d) (a := false) (by rw [rule_noR HS2.out]) (next_trans bel bb))
   clear bb bel rA rR cA cR s1 s2
   go_wp2
   go_ret
   exact F.out
  | true =>
   have HS2 := hid ok2
   clear ok2
   rintro e w2 ⟨he, bb⟩
   rw [HS2.out] at he
   subst he
   replace rR := rR.next bb
   replace bel := next_trans bel bb
   have cR0 : w2.cell? ⟨w.heap.size + 1, 0, none⟩ = some (.slice (some ⟨b, off, none⟩) n1 c1) := rR.cell 0
   have cX : w2.cell? ⟨b, off, none⟩ = some (.int .i64 x) := by have := (bel.cell (p := ⟨b, off + 0, none⟩) hbB).trans hx; simpa using this
   clear bb rA cA cR L2
   by_cases hneg : x < 0
   ·have F := hid (ansB (b := ruleOkB sg d) (a := false) (by rw [rule_var (by rw [EX.out]; exact hneg)]) bel)
    have hdx : decide (x < 0) = true := decide_eq_true hneg
    clear bel rR s1 s2 LC
    go_wp2
    go_ret
    exact F.out
   ·have hdx : decide (x < 0) = false := decide_eq_false hneg
    have cR1 : w2.cell? ⟨w.heap.size + 1, 1, none⟩ = some (.slice A2 n2 c2) := rR.cell 1
    have LC2 := hid (LC.out w2 bel rR)
    have hmf : ∀ (fn : Fn) (first cap : Array Value) (w : World), (Instr.makeFunc fn first cap).run Try.prog w = .ok (.func fn first cap) w := fun _ _ _ _ => rfl
    have E := hid (rule_all HS.out HS2.out (by rw [EX.out]; exact hneg))
    clear LC s1 s2
    go_wp2_with fail
    refine LC2.out.mono ?_
    obtain ⟨z, hzz⟩ : ∃ z, d.2.any (newB d.1) = z := ⟨_, rfl⟩
    rw [hzz] at E
    rintro e w3 ⟨he, bb⟩
    rw [hzz] at he
    subst he
    have F := hid (ansB (b := ruleOkB sg d) (a := !z) E.out.symm (next_trans bel bb))
    clear bb bel rR cR0 cR1 cX LC2 E hzz
    go_wp2
    go_ret
    exact F.out
end ruleImpl
end
section
open Go.Lib (hid)
namespace rankSpec
open Go.RowKit base ints sig term rankMath shape kindsR ruleMath ruleSpec ruleImpl
set_option maxRecDepth 100000
def precB (sg rk : List Int) : Bool := sigOkB sg && rankB sg.length rk
theorem prec_sig {sg rk : List Int} (h : sigOkB sg = false) : precB sg rk = false := by unfold precB; rw [h]; rfl
theorem prec_rank {sg rk : List Int} (h : rankB sg.length rk = false) : precB sg rk = false := by unfold precB; rw [h, Bool.and_false]
theorem prec_yes {sg rk : List Int} (h : sigOkB sg = true) (h2 : rankB sg.length rk = true) : precB sg rk = true := by unfold precB; rw [h, h2]; rfl
theorem prec_parts {sg rk : List Int} (h : precB sg rk = true) : sigOkB sg = true ∧ rankB sg.length rk = true := by unfold precB at h; rwa [Bool.and_eq_true] at h
def AnsRank (w : World) (sg rk : List Int) (e : Ending) (w' : World) : Prop := e = .returned (.bool (precB sg rk)) ∧ Below w.heap.size w w'
set_option maxHeartbeats 4000000 in
theorem specRankOk (A A' : Option Addr) (n c m c' : Nat) (sg rk : List Int) (w : World) (h : Seg w w.heap.size A n sg) (h' : Seg w w.heap.size A' m rk) (hn : n ≤ 1048576) (hm : m ≤ 1048576) :
  Calls Try.prog 84 #[.agg #[.slice A n c], .slice A' m c'] w (AnsRank w sg rk) := by
 have HL := hid (And.intro h.1 h'.1)
 obtain ⟨W, hW, rA, bel⟩ := box1 w 29 #[.slice A n c]
 have k0 : W.cell? ⟨w.heap.size, 0, none⟩ = some (.slice A n c) := rA.cell 0
 rw [hW] at k0
 have HW := hid hW
 have L1 := hid (specSigOk A n c sg W ((h.below bel).more bel.size) hn)
 have SR := hid (fun (w1 : World) (bb : Below w.heap.size w w1) => (h'.below bb).more bb.size)
 obtain ⟨bs, hbs⟩ : ∃ b, sigOkB sg = b := ⟨_, rfl⟩
 have HS := hid hbs
 clear hW h h' hbs
 go_enter Try.func84, Try.ntmps84
 go_wp2_with fail
 rw [← HW.out]
 refine L1.out.mono ?_
 rintro e w1 ⟨he, bb⟩
 rw [HS.out] at he
 subst he
 replace bel := next_trans bel bb
 replace rA := rA.next bb
 clear k0 L1 bb HW
 cases bs with
 | false =>
  have F := hid (show AnsRank w sg rk (.returned (.bool false)) w1 from ⟨by rw [prec_sig HS.out], bel⟩)
  clear bel rA
  go_wp2
  go_ret
  exact F.out
 | true =>
  have k0 : w1.cell? ⟨w.heap.size, 0, none⟩ = some (.slice A n c) := rA.cell 0
  by_cases hmn : m = n
  ·subst hmn
   have S0 := hid bel
   clear bel rA
   go_wp2_with fail
   go_loopg [5] m (fun g i wr => ∃ j : Nat, i = .int .i64 (j : Int) ∧ j + g = m ∧ (∀ k : Nat, k < j → (0 ≤ rk.getD k 0 ∧ rk.getD k 0 ≤ (rk.length : Int) - 1) ∧ ∀ l : Nat, l < k → ¬ rk.getD l 0 = rk.getD k 0) ∧ Below w.heap.size w wr)
   case atStart => exact ⟨0, rfl, by omega, (fun k hk => absurd hk (Nat.not_lt_zero _)), S0.out⟩
   case round =>
    clear S0 k0
    obtain ⟨j, rfl, hj, hall, bel⟩ := hrel
    obtain ⟨G, hG⟩ : ∃ G, G = gk := ⟨_, rfl⟩
    subst hG
    have HA := hid hall
    clear hall
    by_cases hlt : j < m
    ·obtain ⟨b, off, x, rfl, hbB, hx, ex⟩ := (SR.out wr bel).spot hlt
     have HB := hid bel
     have i0 : (0 : Int) ≤ (j : Int) := by omega
     have i1 : (j : Int) < (m : Int) := by omega
     have HJ := hid hj
     clear bel hj
     by_cases hin : 0 ≤ x ∧ x ≤ (m : Int) - 1
     ·have HI := hid hin
      clear hin
      go_wp2_with (first
       | (go_at_call 85; refine (inYes _ _ _ _ HI.out).mono ?_; rintro e w2 ⟨rfl, rfl⟩))
      clear hx
      go_loopg [6] j (fun g i W2 => ∃ k : Nat, i = .int .i64 (k : Int) ∧ k + g = j ∧ (∀ l : Nat, l < k → ¬ rk.getD l 0 = rk.getD j 0) ∧ Below w.heap.size w W2)
      case atStart => exact ⟨0, rfl, by omega, (fun l hl => absurd hl (Nat.not_lt_zero _)), HB.out⟩
      case round =>
       clear HB
       obtain ⟨k, rfl, hkj, hlow, bel⟩ := hrel
       have HLOW := hid hlow
       clear hlow
       obtain ⟨b', off', x', e', hbB', hx', ex'⟩ := (SR.out _ bel).spot hlt
       injection e' with e'
       injection e' with e1 e2
       subst e1 e2
       have exx : x' = x := by rw [← ex'.out, ← ex.out]
       subst exx
       by_cases hk : k < j
       ·obtain ⟨b2, off2, y, e2, -, hy, ey⟩ := (SR.out _ bel).spot (show k < m by omega)
        injection e2 with e2
        injection e2 with e21 e22
        subst e21 e22
        have HB := hid bel
        have HK := hid hkj
        have q0 : (0 : Int) ≤ (k : Int) := by omega
        have q1 : (k : Int) < (m : Int) := by omega
        have q2 : (k : Int) < (j : Int) := by omega
        clear hkj bel
        by_cases hxy : y = x'
        ·subst hxy
         have F := hid (fun dd => (show AnsRank w sg rk (.returned (.bool false)) (wr.drewN dd) from ⟨by rw [prec_rank (rank_twice (i := j) (k := k) (by rw [HL.out.2]; exact hlt) hk (by rw [ey.out, ex.out]))], below_drewN HB.out dd⟩))
         go_wp2_with fail
         go_quiet (fail)
         go_wp2
         go_ret
         exact F.out _
        ·have S2 := hid (show ∀ l : Nat, l < k + 1 → ¬ rk.getD l 0 = rk.getD j 0 from fun l hl => by
          by_cases e : l = k
          ·rw [e, ey.out, ex.out]; exact hxy
          ·exact HLOW.out l (by omega))
         have S3 := hid (fun dd => below_drewN HB.out dd)
         have e9 : (y == x') = false := by simp [hxy]
         go_wp2_with fail
         go_quiet (fail)
         go_wp2
         go_roundg (gk - 1)
         case measure => have := HK.out; omega
         case rel => exact ⟨k + 1, by simp, by have := HK.out; omega, S2.out, S3.out _⟩
       ·have hkj' : k = j := by omega
        subst hkj'
        have HB := hid bel
        clear bel
        have S1 := hid (show ∀ k' : Nat, k' < k + 1 → (0 ≤ rk.getD k' 0 ∧ rk.getD k' 0 ≤ (rk.length : Int) - 1) ∧ ∀ l : Nat, l < k' → ¬ rk.getD l 0 = rk.getD k' 0 from fun k' hk' => by
         by_cases e : k' = k
         ·rw [e]
          refine ⟨?_, HLOW.out⟩
          rw [ex.out, HL.out.2]
          exact HI.out
         ·exact HA.out k' (by omega))
        go_wp2
        go_roundg (G - 1)
        case measure => have := HJ.out; omega
        case rel => exact ⟨k + 1, by simp, by have := HJ.out; omega, S1.out, HB.out⟩
     ·have F := hid (show AnsRank w sg rk (.returned (.bool false)) wr from ⟨by rw [prec_rank (rank_out (i := j) (by rw [HL.out.2]; exact hlt) (by rw [ex.out, HL.out.2]; exact hin))], HB.out⟩)
      have HI := hid hin
      clear hin
      go_wp2_with (first
       | (go_at_call 85; refine (inNo _ _ _ _ HI.out).mono ?_; rintro e w2 ⟨rfl, rfl⟩))
      go_wp2
      go_ret
      exact F.out
    ·have F := hid (show AnsRank w sg rk (.returned (.bool true)) wr from ⟨by rw [prec_yes HS.out (rank_spec (by rw [HL.out.1, HL.out.2]) (fun i hi => (HA.out i (by rw [HL.out.2] at hi; omega)).1) fun i k hi hk => (HA.out i (by rw [HL.out.2] at hi; omega)).2 k hk)], bel⟩)
     clear bel
     go_wp2
     go_ret
     exact F.out
  ·have F := hid (show AnsRank w sg rk (.returned (.bool false)) w1 from ⟨by rw [prec_rank (rank_len (by rw [HL.out.1, HL.out.2]; exact hmn))], bel⟩)
   have hne : ¬ (m : Int) = (n : Int) := by omega
   clear bel rA
   go_wp2
   go_ret
   exact F.out
set_option maxHeartbeats 2000000 in
theorem implRankOk (A A' : Option Addr) (n c m c' : Nat) (sg rk : List Int) (w : World) (h : Seg w w.heap.size A n sg) (h' : Seg w w.heap.size A' m rk) (hn : n ≤ 1048576) (hm : m ≤ 1048576) :
  Calls Try.prog 140 #[.agg #[.slice A n c], .slice A' m c'] w (AnsRank w sg rk) := by
 have HL := hid (And.intro h.1 h'.1)
 obtain ⟨W, hW, rA, bel⟩ := box1 w 29 #[.slice A n c]
 have k0 : W.cell? ⟨w.heap.size, 0, none⟩ = some (.slice A n c) := rA.cell 0
 rw [hW] at k0
 have HW := hid hW
 have L1 := hid (implSigOk A n c sg W ((h.below bel).more bel.size) hn)
 have L2 := hid (fun (w1 : World) (bb : Below w.heap.size w w1) (x : Int) => containsI A' m c' rk x w1 ((h'.below bb).more bb.size) hm)
 obtain ⟨bs, hbs⟩ : ∃ b, sigOkB sg = b := ⟨_, rfl⟩
 have HS := hid hbs
 clear hW h h' hbs
 go_enter Try.func140, Try.ntmps140
 go_wp2_with fail
 rw [← HW.out]
 refine L1.out.mono ?_
 rintro e w1 ⟨he, bb⟩
 rw [HS.out] at he
 subst he
 replace bel := next_trans bel bb
 replace rA := rA.next bb
 clear k0 L1 bb HW
 cases bs with
 | false =>
  have F := hid (show AnsRank w sg rk (.returned (.bool false)) w1 from ⟨by rw [prec_sig HS.out], bel⟩)
  clear bel rA
  go_wp2
  go_ret
  exact F.out
 | true =>
  have k0 : w1.cell? ⟨w.heap.size, 0, none⟩ = some (.slice A n c) := rA.cell 0
  by_cases hmn : m = n
  ·subst hmn
   have S0 := hid bel
   clear bel rA
   go_wp2_with fail
   go_loopw [19] (fun i wr => ∃ j : Nat, i = .int .i64 (j : Int) ∧ j ≤ m ∧ (∀ k : Nat, k < j → (k : Int) ∈ rk) ∧ Below w.heap.size w wr) (fun i _ => m - (intOf i).toNat)
   case atStart => exact ⟨0, rfl, Nat.zero_le _, (fun k hk => absurd hk (Nat.not_lt_zero _)), S0.out⟩
   case round =>
    clear S0 k0
    obtain ⟨j, rfl, hj, hall, bel⟩ := hrel
    have HA := hid hall
    clear hall
    by_cases hlt : j < m
    ·have LL := hid (L2.out wr bel (j : Int))
     have HB := hid bel
     have i0 : (0 : Int) ≤ (j : Int) := by omega
     have i1 : (j : Int) < (m : Int) := by omega
     clear bel
     by_cases hin : (j : Int) ∈ rk
     ·have S1 := hid (show ∀ k : Nat, k < j + 1 → (k : Int) ∈ rk from fun k hk => by
       by_cases e : k = j
       ·rw [e]; exact hin
       ·exact HA.out k (by omega))
      have e1 : decide ((j : Int) ∈ rk) = true := decide_eq_true hin
      rw [e1] at LL
      clear e1 hin
      go_wp2_with (first
       | (go_at_call 152; refine LL.out.mono ?_; rintro e w2 ⟨rfl, rfl⟩))
      go_wp2
      go_roundw
      case rel => exact ⟨j + 1, by simp, hlt, S1.out, HB.out⟩
      case measure => simp [intOf]; omega
     ·have F := hid (show AnsRank w sg rk (.returned (.bool false)) wr from ⟨by rw [prec_rank (rank_miss (k := j) (by rw [HL.out.2]; exact hlt) hin)], HB.out⟩)
      have e1 : decide ((j : Int) ∈ rk) = false := decide_eq_false hin
      rw [e1] at LL
      clear e1 hin
      go_wp2_with (first
       | (go_at_call 152; refine LL.out.mono ?_; rintro e w2 ⟨rfl, rfl⟩))
      go_wp2
      go_ret
      exact F.out
    ·have F := hid (show AnsRank w sg rk (.returned (.bool true)) wr from ⟨by rw [prec_yes HS.out (rank_yes (by rw [HL.out.1, HL.out.2]) fun k hk => HA.out k (by rw [HL.out.2] at hk; omega))], bel⟩)
     clear bel
     go_wp2
     go_ret
     exact F.out
  ·have F := hid (show AnsRank w sg rk (.returned (.bool false)) w1 from ⟨by rw [prec_rank (rank_len (by rw [HL.out.1, HL.out.2]; exact hmn))], bel⟩)
   have hne : ¬ (m : Int) = (n : Int) := by omega
   clear bel rA
   go_wp2
   go_ret
   exact F.out
end rankSpec
end
section
namespace dice
open Go.RowKit base ints cursor
def SegB (w : World) (B : Nat) (A : Option Addr) (n : Nat) : Prop :=
 0 < n → ∃ b off, A = some ⟨b, off, none⟩ ∧ b < B ∧ ∀ j, j < n → ∃ x : Int, 0 ≤ x ∧ x ≤ 255 ∧ w.cell? ⟨b, off + j, none⟩ = some (.int .u8 x)
theorem SegB.keep {w w' : World} {B : Nat} {A : Option Addr} {n : Nat} (h : SegB w B A n) (hk : ∀ p : Addr, p.block < B → w'.cell? p = w.cell? p) : SegB w' B A n := fun hn => by
 obtain ⟨b, off, e, hb, hc⟩ := h hn
 refine ⟨b, off, e, hb, fun j hj => ?_⟩
 obtain ⟨x, h0, h1, h2⟩ := hc j hj
 exact ⟨x, h0, h1, (hk ⟨b, off + j, none⟩ hb).trans h2⟩
structure DiceAt (w : World) (p : Nat) (A : Option Addr) (n c i : Nat) (h : Int) : Prop where
 row : Row w p 152 #[.slice A n c, .int .i64 i, .int .i64 h]
 le : i ≤ n
 s : SegB w p A n
 hn : n ≤ 4096
def Dice (w : World) (p : Nat) (A : Option Addr) (n c : Nat) : Prop := ∃ i h, DiceAt w p A n c i h
section
variable {w w' : World} {p : Nat} {A : Option Addr} {n c i : Nat} {h : Int}
theorem Dice.next (d : Dice w p A n c) (hb : Below w.heap.size w w') : Dice w' p A n c := by
 obtain ⟨i, h, d⟩ := d
 have hp := d.row.lt
 exact ⟨i, h, d.row.next hb, d.le, d.s.keep fun q hq => hb.cell (Nat.lt_trans hq hp), d.hn⟩
end
theorem Dice.alloc {w : World} {p : Nat} {A : Option Addr} {n c : Nat} (d : Dice w p A n c) (o : Obj) : Dice (w.alloc o) p A n c := d.next ((Below.refl _ _).alloc (Nat.le_refl _) _)
end dice
end
section
namespace drawSig
open Go.RowKit base ints sig cursor marks app sym dice
set_option maxRecDepth 100000
section
variable {w : World} {p : Nat} {A : Option Addr} {n c v : Nat} {wr : World} {O : Option Addr} {on oc : Nat} {xs : List Int}
end
def Short (xs : List Int) : Prop := xs.length ≤ 9
end drawSig
end
section
namespace drawTerm
open Go.RowKit base ints sig term cursor marks app sym dice drawSig
set_option maxRecDepth 100000
def Rd (w : World) (p B : Nat) (A : Option Addr) (n : Nat) (xs : List Int) : Prop :=
 xs.length = n ∧ (0 < n → ∃ b off, A = some ⟨b, off, none⟩ ∧ b < B ∧ b ≠ p ∧ ∀ j, j < n → w.cell? ⟨b, off + j, none⟩ = some (.int .i64 (xs.getD j 0)))
theorem Rd.more {w : World} {p B B' : Nat} {A : Option Addr} {n : Nat} {xs : List Int} (h : Rd w p B A n xs) (hB : B ≤ B') : Rd w p B' A n xs :=
 ⟨h.1, fun hn => by obtain ⟨b, off, e, hb, hne, hc⟩ := h.2 hn; exact ⟨b, off, e, by omega, hne, hc⟩⟩
theorem Rd.keep {w w' : World} {p B : Nat} {A : Option Addr} {n : Nat} {xs : List Int} (h : Rd w p B A n xs) (hk : ∀ q : Addr, q.block < B → q.block ≠ p → w'.cell? q = w.cell? q) : Rd w' p B A n xs :=
 ⟨h.1, fun hn => by obtain ⟨b, off, e, hb, hne, hc⟩ := h.2 hn; exact ⟨b, off, e, hb, hne, fun j hj => (hk ⟨b, off + j, none⟩ hb hne).trans (hc j hj)⟩⟩
theorem Rd.below {w w' : World} {p B B' : Nat} {A : Option Addr} {n : Nat} {xs : List Int} (h : Rd w p B A n xs) (hb : Below B' w w') (hB : B ≤ B') : Rd w' p B A n xs :=
 h.keep fun q hq _ => hb.cell (by omega)
theorem Rd.seg {w : World} {p B : Nat} {A : Option Addr} {n : Nat} {xs : List Int} (h : Rd w p B A n xs) : Seg w B A n xs :=
 ⟨h.1, fun hn => by obtain ⟨b, off, e, hb, _, hc⟩ := h.2 hn; exact ⟨b, off, e, hb, hc⟩⟩
structure DT (w : World) (p : Nat) (A : Option Addr) (n c : Nat) (S : Option Addr) (sn sc : Nat) (sg : List Int) (wr : World) : Prop where
 d : Dice wr p A n c
 r : Row wr w.heap.size 29 #[.slice S sn sc]
 s : Rd wr p w.heap.size S sn sg
 g : w.grownBy wr (some p)
 hp : p < w.heap.size
section
variable {w : World} {p : Nat} {A : Option Addr} {n c : Nat} {S : Option Addr} {sn sc : Nat} {sg : List Int} {wr w' : World}
end
def AnsT (w : World) (p : Nat) (A : Option Addr) (n c L : Nat) (e : Ending) (w' : World) : Prop :=
 ∃ O on oc xs, e = .returned (.slice O on oc) ∧ Own w' w.heap.size (.slice O on oc) xs ∧ 1 ≤ on ∧ on ≤ L ∧ Dice w' p A n c ∧ w.grownBy w' (some p)
theorem leaf {w : World} {p : Nat} {A : Option Addr} {n c L : Nat} {S : Option Addr} {sn sc : Nat} {sg : List Int} {u : World} (t : DT w p A n c S sn sc sg u) (hL : 1 ≤ L) (y : Int) :
  AnsT w p A n c L (.returned (.slice (some ⟨u.heap.size, 0, none⟩) 1 1)) (u.alloc (.cells #[.int .i64 y] 2)) :=
 ⟨_, _, _, [y], rfl, Own.of_row (Row.new _ _ _) rfl rfl (Nat.le_refl _) (by omega) t.g.size (fun j hj => by match j, hj with | 0, _ => rfl), Nat.le_refl _, hL, t.d.alloc _, grown_trans t.g (World.grownBy_alloc _ _ _)⟩
def HeadT (w : World) (p : Nat) (A : Option Addr) (n c : Nat) (S : Option Addr) (sn sc : Nat) (sg : List Int) (M : Nat) (out k : Value) (wr : World) : Prop :=
 ∃ (q : Nat) (O : Option Addr) (on oc : Nat) (xs : List Int), k = .int .i64 q ∧ q ≤ 3 ∧ out = .slice O on oc ∧ Own wr (w.heap.size + 1) (.slice O on oc) xs ∧ 1 ≤ on ∧ on + q * M ≤ 1 + 3 * M ∧ DT w p A n c S sn sc sg wr
end drawTerm
end
section
namespace drawAny
open Go.RowKit base ints sig term cursor termOk marks app sym dice drawSig drawTerm
set_option maxRecDepth 100000
theorem Own.cap {w : World} {base : Nat} {O : Option Addr} {on oc : Nat} {xs : List Int} (h : Own w base (.slice O on oc) xs) : on ≤ oc ∧ oc ≤ 9223372036854775807 := by
 rcases h.2 with ⟨e, _⟩ | ⟨g, cap, cur, e, _, _, h1, h2, _⟩
 ·injection e with _ e1 e2; omega
 ·injection e with _ e1 e2
  have := Own.len h
  unfold maxLen at h2
  omega
theorem Own.some_ {w : World} {base : Nat} {O : Option Addr} {on oc : Nat} {xs : List Int} (h : Own w base (.slice O on oc) xs) (h1 : 1 ≤ on) : ∃ g, O = some ⟨g, 0, none⟩ := by
 rcases h.2 with ⟨e, _⟩ | ⟨g, cap, cur, e, _⟩
 ·injection e with _ e1 e2; omega
 ·injection e with e _ _; exact ⟨g, e⟩
end drawAny
end
section
namespace drawX
open Go.RowKit base ints sig cursor marks app appAt sym segs shape dice
def RdQ (w : World) (Q : Nat → Prop) : (s : Sh) → List Value → Dat s → Prop
 | .num, cs, (x : Int) => cs = [.int .i64 x]
 | .bit, cs, (x : Bool) => cs = [.bool x]
 | .row _ s, cs, (d : List (Dat s)) => ∃ A n c, cs = [.slice A n c] ∧ Cap A n c ∧ d.length = n ∧
   (0 < n → ∃ b off, A = some ⟨b, off, none⟩ ∧ Q b ∧ ∀ j, j < n → ∃ es, es.length = nc s ∧ Piece w b (off + j * nc s) es ∧ RdQ w Q s es (d.getD j (dft s)))
 | .cat a b, cs, d => ∃ ca cb, cs = ca ++ cb ∧ RdQ w Q a ca d.1 ∧ RdQ w Q b cb d.2
section
variable {w w' : World} {Q Q' : Nat → Prop} {B : Nat}
theorem RdQ.keep (hk : ∀ b, Q b → w'.heap[b]? = w.heap[b]?) : ∀ {s : Sh} {cs : List Value} {d : Dat s}, RdQ w Q s cs d → RdQ w' Q s cs d
 | .num, _, _, h => h
 | .bit, _, _, h => h
 | .row _ s, _, _, h => by
  obtain ⟨A, n, c, e, hc, hl, h1⟩ := h
  refine ⟨A, n, c, e, hc, hl, fun hn => ?_⟩
  obtain ⟨b, off, e2, hb, h2⟩ := h1 hn
  refine ⟨b, off, e2, hb, fun j hj => ?_⟩
  obtain ⟨es, he, hp, hr⟩ := h2 j hj
  exact ⟨es, he, hp.keep (fun p hp => World.cell?_of_block (by rw [hp]; exact hk b hb)), hr.keep hk⟩
 | .cat a b, _, _, h => by
  obtain ⟨ca, cb, e, h1, h2⟩ := h
  exact ⟨ca, cb, e, h1.keep hk, h2.keep hk⟩
theorem RdQ.rd (hk : ∀ b, Q b → b < B) : ∀ {s : Sh} {cs : List Value} {d : Dat s}, RdQ w Q s cs d → Rd w B s cs d
 | .num, _, _, h => h
 | .bit, _, _, h => h
 | .row _ s, _, _, h => by
  obtain ⟨A, n, c, e, hc, hl, h1⟩ := h
  refine ⟨A, n, c, e, hc, hl, fun hn => ?_⟩
  obtain ⟨b, off, e2, hb, h2⟩ := h1 hn
  refine ⟨b, off, e2, hk b hb, fun j hj => ?_⟩
  obtain ⟨es, he, hp, hr⟩ := h2 j hj
  exact ⟨es, he, hp, hr.rd hk⟩
 | .cat a b, _, _, h => by
  obtain ⟨ca, cb, e, h1, h2⟩ := h
  exact ⟨ca, cb, e, h1.rd hk, h2.rd hk⟩
theorem RdQ.len : ∀ {s : Sh} {cs : List Value} {d : Dat s}, RdQ w Q s cs d → cs.length = nc s
 | .num, _, _, h => by have h : _ = _ := h; rw [h]; rfl
 | .bit, _, _, h => by have h : _ = _ := h; rw [h]; rfl
 | .row _ _, _, _, h => by obtain ⟨A, n, c, e, _⟩ := h; rw [e]; rfl
 | .cat a b, _, _, h => by
  obtain ⟨ca, cb, e, h1, h2⟩ := h
  rw [e, List.length_append, h1.len, h2.len]; rfl
theorem RdQ.cat {a b : Sh} {ca cb : List Value} {x : Dat a} {y : Dat b} (h1 : RdQ w Q a ca x) (h2 : RdQ w Q b cb y) : RdQ w Q (.cat a b) (ca ++ cb) (x, y) := ⟨ca, cb, rfl, h1, h2⟩
theorem RdQ.one : ∀ {s : Sh} {cs : List Value} {d : Dat s}, RdQ w Q s cs d → ∀ u ∈ cs, u.oneCell' = true
 | .num, _, _, h, u, hu => by have h : _ = _ := h; rw [h] at hu; rw [List.mem_singleton.1 hu]; rfl
 | .bit, _, _, h, u, hu => by have h : _ = _ := h; rw [h] at hu; rw [List.mem_singleton.1 hu]; rfl
 | .row _ _, _, _, h, u, hu => by obtain ⟨A, n, c, e, _⟩ := h; rw [e] at hu; rw [List.mem_singleton.1 hu]; rfl
 | .cat a b, _, _, h, u, hu => by
  obtain ⟨ca, cb, e, h1, h2⟩ := h
  rw [e] at hu
  rcases List.mem_append.1 hu with hu | hu
  ·exact h1.one u hu
  ·exact h2.one u hu
theorem rdq_seg {A : Option Addr} {n c : Nat} {xs : List Int} (hl : xs.length = n) (hc : Cap A n c) (h : 0 < n → ∃ b off, A = some ⟨b, off, none⟩ ∧ Q b ∧ ∀ j, j < n → w.cell? ⟨b, off + j, none⟩ = some (.int .i64 (xs.getD j 0))) : RdQ w Q sI [.slice A n c] xs := by
 refine ⟨A, n, c, rfl, hc, hl, fun hn => ?_⟩
 obtain ⟨b, off, e2, hb, h2⟩ := h hn
 refine ⟨b, off, e2, hb, fun j hj => ⟨[.int .i64 (xs.getD j 0)], rfl, fun i hi => ?_, rfl⟩⟩
 have hi : i = 0 := by simpa using hi
 subst hi
 show w.cell? ⟨b, off + j * 1 + 0, none⟩ = some (.int .i64 (xs.getD j 0))
 rw [Nat.mul_one, Nat.add_zero]
 exact h2 j hj
end
def OutR (w : World) (p : Nat) (r : Option Nat) (b : Nat) : Prop := b < w.heap.size ∧ b ≠ p ∧ some b ≠ r
section
variable {w w' : World} {p : Nat} {r : Option Nat} {s : Sh} {cs : List Value} {d : Dat s}
end
def cellsOf (k : Nat) (vs : List Value) (j : Nat) : List Value := (vs.drop (j * k)).take k
def OwnQ (w : World) (p lo : Nat) (e : TypeId) (s : Sh) (A : Option Addr) (n c : Nat) (D : List (Dat s)) : Prop :=
 D.length = n ∧ ∃ vs : List Value, w.ownsRow lo e (nc s) (.slice A n c) n vs ∧ ∀ j, j < n → RdQ w (OutR w p (blk A)) s (cellsOf (nc s) vs j) (D.getD j (dft s))
section
variable {w w' : World} {p lo n c : Nat} {e : TypeId} {s : Sh} {A : Option Addr} {D : List (Dat s)}
theorem OwnQ.nil (w : World) (p lo : Nat) (e : TypeId) (s : Sh) : OwnQ w p lo e s none 0 0 [] := ⟨rfl, [], ⟨by simp, .inl ⟨rfl, rfl⟩⟩, fun j hj => absurd hj (Nat.not_lt_zero _)⟩
end
end drawX
end
section
namespace stk
open Go.RowKit base ints marks app sym appAt segs segsMark kinds shape drawX
set_option maxRecDepth 100000
def Stk (w : World) (Q : Nat → Prop) (lo : Nat) (A : Option Addr) (n c : Nat) (D : List (List Int)) : Prop :=
 D.length = n ∧ ∃ vs : List Value, w.ownsRow lo 27 1 (.slice A n c) n vs ∧ ∀ j, j < n → RdQ w Q sI [vs.getD j undef] (D.getD j [])
def Keep (Q : Nat → Prop) (w w' : World) : Prop := ∀ b, Q b → w'.heap[b]? = w.heap[b]?
section
variable {w w' : World} {Q Q' : Nat → Prop} {lo n c : Nat} {A : Option Addr} {D : List (List Int)}
theorem Keep.below {B : Nat} (h : Below B w w') (hQ : ∀ b, Q b → b < B) : Keep Q w w' := fun b hb => h.block b (hQ b hb)
theorem Keep.grown {r : Option Nat} (h : w.grownBy w' r) (hQ : ∀ b, Q b → b < w.heap.size ∧ some b ≠ r) : Keep Q w w' := by
 intro b hb
 obtain ⟨h1, h2⟩ := hQ b hb
 exact h.block b h1 (fun e => h2 e)
theorem Stk.nil (w : World) (Q : Nat → Prop) (lo : Nat) : Stk w Q lo none 0 0 [] := ⟨rfl, [], World.ownsRow_nil w lo _ _, fun j hj => absurd hj (Nat.not_lt_zero j)⟩
theorem Stk.empty (w : World) (Q : Nat → Prop) (lo : Nat) (h : lo ≤ w.heap.size) : Stk (w.alloc (.cells #[] 27)) Q lo (some ⟨w.heap.size, 0, none⟩) 0 0 [] :=
 ⟨rfl, [], rowsOf (cs := #[]) (Row.new w 27 #[]) rfl (Nat.le_refl _) (by decide) h, fun j hj => absurd hj (Nat.not_lt_zero j)⟩
theorem Stk.single {g : Nat} {v : Value} {x : List Int} (hr : Row w g 27 #[v]) (hlo : lo ≤ g) (hv : RdQ w Q sI [v] x) : Stk w Q lo (some ⟨g, 0, none⟩) 1 1 [x] := by
 refine ⟨rfl, [v], rowsOf (cs := #[v]) hr rfl (Nat.le_refl _) (by decide) hlo, fun j hj => ?_⟩
 have e : j = 0 := by omega
 subst e
 exact hv
theorem Stk.ge (h : Stk w Q lo A n c D) : ∀ k, blk A = some k → lo ≤ k ∧ k < w.heap.size := by
 obtain ⟨-, vs, h2, -⟩ := h
 intro k hk
 exact World.ownsRow.lt h2 k (by rw [blk_own]; exact hk)
theorem Stk.keep {r : Option Nat} (h : Stk w Q lo A n c D) (hg : w.grownBy w' r) (hne : blk A = none ∨ blk A ≠ r) (hk : Keep Q w w') : Stk w' Q lo A n c D := by
 obtain ⟨h1, vs, h2, h3⟩ := h
 exact ⟨h1, vs, World.ownsRow.kept h2 hg (by rw [blk_own]; exact hne), fun j hj => (h3 j hj).keep hk⟩
theorem Stk.next (h : Stk w Q lo A n c D) (hb : Below w.heap.size w w') (hQ : ∀ b, Q b → b < w.heap.size) : Stk w' Q lo A n c D :=
 h.keep (r := none) ⟨hb.os, hb.tape, hb.output, hb.size, fun k hk _ => hb.block k hk⟩ (by cases blk A <;> simp) (Keep.below hb hQ)
theorem Stk.drewN (h : Stk w Q lo A n c D) (k : Nat) : Stk (w.drewN k) Q lo A n c D := by
 obtain ⟨h1, vs, h2, h3⟩ := h
 exact ⟨h1, vs, h2, fun j hj => (h3 j hj).keep fun _ _ => rfl⟩
theorem Stk.lower {lo' : Nat} (h : Stk w Q lo A n c D) (hl : lo' ≤ lo) : Stk w Q lo' A n c D := by
 obtain ⟨h1, vs, h2, h3⟩ := h
 exact ⟨h1, vs, World.ownsRow.mono h2 hl, h3⟩
theorem Stk.form (h : Stk w Q lo A n c D) : (A = none ∧ n = 0 ∧ c = 0 ∧ D = []) ∨
  ∃ g cur, A = some ⟨g, 0, none⟩ ∧ lo ≤ g ∧ Row w g 27 cur ∧ n ≤ c ∧ cur.size = c ∧ c ≤ 9223372036854775807 ∧ ∀ j, j < n → ∃ X xn xc, cur[j]? = some (.slice X xn xc) ∧ RdQ w Q sI [.slice X xn xc] (D.getD j []) := by
 obtain ⟨h1, vs, h2, h3⟩ := h
 rcases own_form h2 with ⟨rfl, rfl, rfl, -⟩ | ⟨g, cur, rfl, hg, hr, hnc, hs, hc, hl, hj⟩
 ·exact .inl ⟨rfl, rfl, rfl, List.length_eq_zero_iff.1 h1⟩
 ·refine .inr ⟨g, cur, rfl, hg, hr, hnc, hs, hc, fun j hjn => ?_⟩
  have h4 := h3 j hjn
  obtain ⟨X, xn, xc, e, -⟩ := id h4
  injection e with e
  exact ⟨X, xn, xc, by rw [hj j hjn, e], by rw [← e]; exact h4⟩
theorem rdq_one {v : Value} {x : List Int} (h : RdQ w Q sI [v] x) : v.oneCell' = true := h.one v (List.mem_cons_self ..)
end
theorem stk_app {w w' : World} {Q : Nat → Prop} {lo n m c' : Nat} {A A' : Option Addr} {D E : List (List Int)} {vs us : List Value} (h1 : D.length = n) (h2 : vs.length = n) (h3 : ∀ j, j < n → RdQ w Q sI [vs.getD j undef] (D.getD j []))
  (e1 : E.length = m) (e3 : ∀ j, j < m → RdQ w Q sI [us.getD j undef] (E.getD j [])) (ho' : w'.ownsRow lo 27 1 (.slice A' (n + m) c') (n + m) (vs ++ us)) (hg : w.grownBy w' (blk A)) (hlo : lo ≤ w.heap.size) (hQ : ∀ b, Q b → b < lo) (hA : ∀ k, blk A = some k → lo ≤ k) : Stk w' Q lo A' (n + m) c' (D ++ E) := by
 have hk : Keep Q w w' := Keep.grown hg fun b hb => ⟨Nat.lt_of_lt_of_le (hQ b hb) hlo, fun e => by have := hA b e.symm; have := hQ b hb; omega⟩
 refine ⟨by simp [h1, e1], vs ++ us, ho', fun j hj => ?_⟩
 by_cases hjn : j < n
 ·have q1 : (vs ++ us).getD j undef = vs.getD j undef := by simp [List.getD, List.getElem?_append_left (h2 ▸ hjn : j < vs.length)]
  have q2 : (D ++ E).getD j [] = D.getD j [] := by simp [List.getD, List.getElem?_append_left (h1 ▸ hjn : j < D.length)]
  rw [q1, q2]
  exact (h3 j hjn).keep hk
 ·have q1 : (vs ++ us).getD j undef = us.getD (j - n) undef := by simp [List.getD, List.getElem?_append_right (by omega : vs.length ≤ j), h2]
  have q2 : (D ++ E).getD j [] = E.getD (j - n) [] := by simp [List.getD, List.getElem?_append_right (by omega : D.length ≤ j), h1]
  rw [q1, q2]
  exact (e3 (j - n) (by omega)).keep hk
theorem vs_len {w : World} {lo n c : Nat} {A : Option Addr} {vs : List Value} (h : w.ownsRow lo 27 1 (.slice A n c) n vs) : vs.length = n := by
 rcases own_form h with ⟨-, h0, -, hv⟩ | ⟨g, cur, -, -, -, -, -, -, hl, -⟩
 ·rw [hv, h0]; rfl
 ·exact hl
theorem appStk {w : World} {ops : Array Oper} {rest : List Oper} {o : Oper} {a : Act} {K : Exit → Act → World → Prop} (hgd : o.guard = none) (sx x : Operand)
  (ho : o.op = .call { callee := .builtin .append, args := #[sx, x], argTypes := #[35, 35] })
  (Q : Nat → Prop) (lo lo2 : Nat) (A : Option Addr) (n c g m c2 : Nat) (D E : List (List Int)) (hs : a.eval sx = .slice A n c) (hown : Stk w Q lo A n c D)
  (hx : a.eval x = .slice (some ⟨g, 0, none⟩) m c2) (hE : Stk w Q lo2 (some ⟨g, 0, none⟩) m c2 E) (hn : n ≤ 1048576) (hm : m ≤ 1048576) (hlo : lo ≤ w.heap.size) (hQ : ∀ b, Q b → b < lo)
  (h : ∀ A' c' w', Stk w' Q lo A' (n + m) c' (D ++ E) → w.grownBy w' (blk A) → (blk A' = blk A ∨ blk A' = some w.heap.size) → wpList Try.prog ops K rest (a.put o.dst (.slice A' (n + m) c')) w') : wpList Try.prog ops K (o :: rest) a w := by
 have hge := hown.ge
 obtain ⟨h1, vs, h2, h3⟩ := hown
 obtain ⟨e1, us, e2, e3⟩ := hE
 have hul := vs_len e2
 obtain ⟨i0, hi, hz0, hz1, hz2⟩ := info_parts segsHelp.info_list
 refine wpList_append_own_at (P := Try.prog) w hgd sx x 35 ho lo 27 i0 (.slice none 0 0) 1 24 Try.underlying35 hi hz0 hz1 hz2 rfl (by decide) (.slice A n c) n vs hs h2 ⟨g, 0, none⟩ m c2 us hx (by rw [hul, Nat.mul_one]) ?_ ?_ (by unfold maxLen; omega) (by omega) hlo ?_
 ·intro j u hu
  exact World.ownsRow.cells e2 (g := g) (by rfl) j u hu
 ·intro u hu
  obtain ⟨j, hj, rfl⟩ := List.mem_iff_getElem.1 hu
  have := rdq_one (e3 j (by omega))
  simpa [List.getD, hj] using this
 ·intro v' w' ho' hg _ hat
  obtain ⟨A', c', rfl⟩ : ∃ A' c', v' = .slice A' (n + m) c' := by
   rcases ho'.2 with ⟨rfl, hz⟩ | ⟨g', cap, cur, rfl, -⟩
   ·exact ⟨none, 0, by rw [show n + m = 0 from hz]⟩
   ·exact ⟨_, _, rfl⟩
  rw [blk_own] at hg
  rw [blk_own, blk_own] at hat
  exact h A' c' w' (stk_app h1 (vs_len h2) h3 e1 e3 ho' hg hlo hQ fun k hk => (hge k hk).1) hg hat
end stk
end
section
open Go.Lib (hid)
namespace partsSpec
open Go.RowKit base ints sig term arity endOf marks app segs kinds shape drawX forest stk
set_option maxRecDepth 100000
theorem Fo.le {sg : List Int} {q : Nat} {l : List Int} (h : Fo sg q l) : q ≤ l.length := by
 induction h with
 | nil => exact Nat.zero_le _
 | var x r q h h1 ih => simp; exact ih
 | app x r q h h2 h1 ih => simp; omega
theorem ar_in {sg : List Int} {x : Int} (h : 0 ≤ x) (h2 : 0 ≤ ar sg x) : x < sg.length ∧ ar sg x = sg.getD x.toNat 0 := by
 by_cases h3 : x < sg.length
 ·exact ⟨h3, ar_sym h h3⟩
 ·rw [ar_no (by omega) (fun k => h3 k.2)] at h2
  exact absurd h2 (by decide)
def HeadE (w : World) (A : Option Addr) (n c m p : Nat) (sg a : List Int) (at_ need : Value) (wr : World) : Prop :=
 ∃ (q : Nat) (d rest : List Int), need = .int .i64 q ∧ at_ = .int .i64 ((p + d.length : Nat) : Int) ∧ d ++ rest = a ∧ Fo sg q rest ∧ Row wr w.heap.size 29 #[.slice A n c] ∧ Below w.heap.size w wr
set_option maxHeartbeats 1000000 in
theorem l13End (A A' : Option Addr) (n c m c' : Nat) (sg t : List Int) (p : Nat) (a r : List Int) (w : World) (h : Seg w w.heap.size A n sg) (h' : Seg w w.heap.size A' m t) (hn : n ≤ 1048576) (hm : m ≤ 1048576) (hs : Arities sg) (he : t.drop p = a ++ r) (hf : Fo sg 1 a) :
  Calls Try.prog 150 #[.agg #[.slice A n c], .slice A' m c', .int .i64 (p : Int)] w fun e w' => e = .returned (.int .i64 ((p + a.length : Nat) : Int)) ∧ Below w.heap.size w w' := by
 have H := hid h
 have H' := hid h'
 have HS := hid hs
 have HL := hid h'.1
 have HE := hid he
 have hal : p + a.length ≤ m := by
  have h1 := congrArg List.length he
  rw [List.length_drop, h'.1, List.length_append] at h1
  have := hf.pos
  omega
 have S0 := hid (show HeadE w A n c m p sg a (.int .i64 p) (.int .i64 1) (w.alloc (.cells #[.slice A n c] 29)) from ⟨1, [], a, rfl, rfl, rfl, hf, Row.new _ _ _, (Below.refl _ _).alloc (Nat.le_refl _) _⟩)
 clear h h' hs he hf
 go_enter Try.func150, Try.ntmps150
 go_wp2_with fail
 go_loopw [2, 7] (fun at_ need wr => HeadE w A n c m p sg a at_ need wr) (fun at_ _ _ => m - (intOf at_).toNat)
 case atStart => exact S0.out
 case round =>
  clear S0
  obtain ⟨q, d, rest, rfl, rfl, hd, hf, hr, hb⟩ := hrel
  have hq := Fo.le hf
  have hdl : d.length + rest.length = a.length := by rw [← hd, List.length_append]
  obtain ⟨k, hk⟩ : ∃ k, p + d.length = k := ⟨_, rfl⟩
  have hkm : k + rest.length ≤ m := by omega
  have hat : rest ≠ [] → H'.out.1 = H'.out.1 := fun _ => rfl
  rw [hk]
  cases rest with
  | nil =>
   have h0 := hf.none
   subst h0
   have i0 : ¬ ((0 : Nat) : Int) > 0 := by omega
   have F := hid (show Ending.returned (.int .i64 (k : Int)) = Ending.returned (.int .i64 ((p + a.length : Nat) : Int)) by rw [← hk, ← hd]; simp)
   have B := hid hb
   clear hf hr hb hd hdl hkm hal hk hat
   go_wp2
   go_ret
   exact ⟨F.out, B.out⟩
  | cons x r' =>
   obtain ⟨q', e, g⟩ := hf.inv
   subst e
   have hkl : k < m := by simp at hkm; omega
   have hx : t.getD k 0 = x := by
    have h1 : t.drop k = x :: r' ++ r := by
     rw [← hk, ← List.drop_drop, HE.out, ← hd, List.append_assoc, List.drop_left]
    have h2 := congrArg (fun l => l.getD 0 0) h1
    simpa [List.getD, List.getElem?_drop] using h2
   obtain ⟨b, off, rfl, hbb, hc⟩ := H'.out.round hkl
   rw [hx] at hc
   have cx : wr.cell? ⟨b, off + k, none⟩ = some (.int .i64 x) := (hb.cell (p := ⟨b, off + k, none⟩) hbb).trans hc
   have cA : wr.cell? ⟨w.heap.size, 0, none⟩ = some (.slice A n c) := hr.cell 0
   have i0 : (0 : Int) ≤ (k : Int) := by omega
   have i1 : (k : Int) < (m : Int) := by omega
   have i2 : (q' : Int) ≤ 1048576 := by omega
   have i3 : (0 : Int) < ((q' + 1 : Nat) : Int) := by omega
   have e1 : d ++ [x] ++ r' = a := by rw [← hd]; simp
   have e2 : p + (d ++ [x]).length = k + 1 := by simp; omega
   have HK := hid hk
   rcases g with ⟨h0, g⟩ | ⟨h0, h2, g⟩
   ·have n0 : ¬ (0 : Int) ≤ x := by omega
    have S := hid (show ∀ dd, HeadE w A n c m p sg a (.int .i64 ((k : Int) + 1)) (.int .i64 (q' : Int)) (wr.drewN dd) from fun dd => ⟨q', d ++ [x], r', rfl, by rw [e2]; simp, e1, g, hr.drewN dd, base.below_drewN hb dd⟩)
    clear g hd hdl hkm hal hq hx hc hr hb e1 e2 hk hat
    go_wp2
    go_roundw
    case rel => exact S.out 0
    case measure => simp [intOf]; omega
   ·obtain ⟨h3, h4⟩ := ar_in h0 h2
    obtain ⟨j, rfl⟩ := Int.eq_ofNat_of_zero_le h0
    have hjn : j < n := by have := H.out.1; omega
    obtain ⟨b2, off2, rfl, hbb2, hc2⟩ := H.out.round hjn
    rw [Int.toNat_natCast] at h4
    have cS : wr.cell? ⟨b2, off2 + j, none⟩ = some (.int .i64 (sg.getD j 0)) := (hb.cell (p := ⟨b2, off2 + j, none⟩) hbb2).trans hc2
    have hz := HS.out j (by have := H.out.1; omega)
    obtain ⟨z, ez⟩ : ∃ z, sg.getD j 0 = z := ⟨_, rfl⟩
    rw [ez] at cS hz h4
    have j1 : (0 : Int) ≤ (j : Int) := h0
    have j2 : (j : Int) < (n : Int) := by omega
    have S := hid (show ∀ dd, HeadE w (some ⟨b2, off2, none⟩) n c m p sg a (.int .i64 ((k : Int) + 1)) (.int .i64 ((q' : Int) + z)) (wr.drewN dd) from fun dd => ⟨z.toNat + q', d ++ [(j : Int)], r', by simp; omega, by rw [e2]; simp, e1, by rw [h4] at g; exact g, hr.drewN dd, base.below_drewN hb dd⟩)
    have z1 := hz.1
    have z2 := hz.2
    clear g hd hdl hkm hal hq hx hc hr hb e1 e2 hk hat hz ez h2 h3 h4 hc2 h0
    go_wp2_with fail
    go_quiet (fail)
    go_wp2
    go_roundw
    case rel => rw [show (q' : Int) + 1 + z - 1 = (q' : Int) + z by omega]; exact S.out _
    case measure => simp [intOf]; omega
def HeadP (w : World) (Q : Nat → Prop) (A : Option Addr) (n c : Nat) (ps : List (List Int)) (out at_ i : Value) (wr : World) : Prop :=
 ∃ (ds rs : List (List Int)) (g k oc : Nat), ds ++ rs = ps ∧ ds.length = k ∧ i = .int .i64 k ∧ at_ = .int .i64 ((1 + ds.flatten.length : Nat) : Int) ∧ out = .slice (some ⟨g, 0, none⟩) k oc ∧ Stk wr Q (w.heap.size + 1) (some ⟨g, 0, none⟩) k oc ds ∧ Row wr w.heap.size 29 #[.slice A n c] ∧ Below w.heap.size w wr
theorem flat_le : ∀ {ps : List (List Int)}, (∀ p ∈ ps, 1 ≤ p.length) → ps.length ≤ ps.flatten.length
 | [], _ => Nat.zero_le _
 | p :: ps, h => by
  have h1 := flat_le fun q hq => h q (List.mem_cons_of_mem _ hq)
  have h2 := h p (List.mem_cons_self ..)
  rw [List.flatten_cons, List.length_append, List.length_cons]
  omega
theorem rdq_cut {w : World} {Q : Nat → Prop} {b off m c at_ j : Nat} {u : List Int} (h : RdQ w Q sI [.slice (some ⟨b, off, none⟩) m c] u) (h1 : 1 ≤ j) (h2 : at_ + j ≤ m) : RdQ w Q sI [.slice (some ⟨b, off + at_, none⟩) j (c - at_)] ((u.drop at_).take j) := by
 obtain ⟨A, n, c', e, hc, hl, h3⟩ := h
 injection e with e
 injection e with e1 e2 e3
 subst e1 e2 e3
 obtain ⟨b', off', e4, hq, hp⟩ := h3 (by omega)
 injection e4 with e4
 injection e4 with e5 e6
 subst e5 e6
 have hlu : u.length = m := hl
 refine rdq_seg (by rw [List.length_take, List.length_drop, hlu]; omega) ⟨by have := hc.1; omega, by have := hc.2.1; omega, fun e => by cases e⟩ fun _ => ⟨b, off + at_, rfl, hq, fun j' hj' => ?_⟩
 obtain ⟨es, -, hp1, hp2⟩ := hp (at_ + j') (by omega)
 have hp2 : es = [.int .i64 (u.getD (at_ + j') 0)] := hp2
 subst hp2
 have h4 := hp1 0 (by simp)
 have e7 : off + at_ + j' = off + (at_ + j') * nc .num + 0 := by show _ = _ + _ * 1 + 0; omega
 have e8 : ((u.drop at_).take j).getD j' 0 = u.getD (at_ + j') 0 := by
  simp [List.getD, List.getElem?_take, hj', List.getElem?_drop]
 rw [e7, e8]
 exact h4
set_option maxHeartbeats 1000000 in
theorem l13Parts (Q : Nat → Prop) (A A' : Option Addr) (n c m c' : Nat) (sg u : List Int) (w : World) (h : Seg w w.heap.size A n sg) (hu : RdQ w Q sI [.slice A' m c'] u) (hQ : ∀ b, Q b → b < w.heap.size) (hn : n ≤ 1048576) (hm : m ≤ 1048576) (hs : Arities sg) (hf : Fo sg 1 u) (h0 : 0 ≤ u.getD 0 0) :
  Calls Try.prog 122 #[.agg #[.slice A n c], .slice A' m c'] w fun e w' => ∃ g k kc ps, e = .returned (.slice (some ⟨g, 0, none⟩) k kc) ∧ Stk w' Q w.heap.size (some ⟨g, 0, none⟩) k kc ps ∧ Prt sg u ps ∧ Below w.heap.size w w' := by
 have sU : Seg w w.heap.size A' m u := Rd.seg (hu.rd hQ)
 have hcap : Cap A' m c' := by obtain ⟨B, m', c2, e, hc, -⟩ := id hu; injection e with e; injection e with e1 e2 e3; subst e1 e2 e3; exact hc
 obtain ⟨ps, hP⟩ := prt_ex hf h0
 obtain ⟨⟨x, hx0, hx2, hux, hpl⟩, hpf⟩ := id hP
 obtain ⟨hxn, hxa⟩ := ar_in hx0 hx2
 obtain ⟨j, rfl⟩ := Int.eq_ofNat_of_zero_le hx0
 have hjn : j < n := by have := h.1; omega
 have hm1 : 0 < m := by have := sU.1; rw [hux] at this; simp at this; omega
 rw [Int.toNat_natCast] at hxa
 obtain ⟨b, off, rfl, hbb, hc⟩ := sU.round hm1
 rw [hux] at hc
 have hc : w.cell? ⟨b, off + 0, none⟩ = some (.int .i64 (j : Int)) := hc
 obtain ⟨b2, off2, rfl, hbb2, hc2⟩ := h.round hjn
 obtain ⟨z, ez⟩ : ∃ z, sg.getD j 0 = z := ⟨_, rfl⟩
 rw [ez] at hc2 hxa
 rw [hxa] at hpl
 have hz := hs j (by have := h.1; omega)
 rw [ez] at hz
 obtain ⟨W, hW⟩ : ∃ W, W = (w.alloc (.cells #[.slice (some ⟨b2, off2, none⟩) n c] 29)).alloc (.cells #[] 27) := ⟨_, rfl⟩
 have hw1 : (w.alloc (.cells #[.slice (some ⟨b2, off2, none⟩) n c] 29)).heap.size = w.heap.size + 1 := by simp
 have S0 := hid (show HeadP w Q (some ⟨b2, off2, none⟩) n c ps (.slice (some ⟨w.heap.size + 1, 0, none⟩) 0 0) (.int .i64 1) (.int .i64 0) W from ⟨[], ps, w.heap.size + 1, 0, 0, rfl, rfl, rfl, rfl, rfl, by
  have h1 := Stk.empty (w.alloc (.cells #[.slice (some ⟨b2, off2, none⟩) n c] 29)) Q (w.heap.size + 1) (by rw [hw1]; exact Nat.le_refl _)
  rw [hw1] at h1
  rw [hW]
  exact h1, by rw [hW]; exact (Row.new _ _ _).alloc _, by rw [hW]; exact ((Below.refl _ _).alloc (Nat.le_refl _) _).alloc (by simp) _⟩)
 have HW := hid hW
 have H := hid h
 have HU := hid hu
 have HSU := hid sU
 have HS := hid hs
 have HP := hid hP
 have HF := hid hpf
 have HQ := hid hQ
 have HPL := hid hpl
 have HUX := hid hux
 have hlu : m = 1 + ps.flatten.length := by have h9 := sU.1; rw [hux, List.length_cons] at h9; omega
 have HLU := hid hlu
 have z1 := hz.1
 have z2 := hz.2
 have hmc := hcap.1
 have hcc := hcap.2.1
 have x1 : (0 : Int) ≤ (j : Int) := hx0
 have x2 : (j : Int) < (n : Int) := by omega
 have x3 : ¬ (j : Int) < 0 := by omega
 have hc : w.cell? ⟨b, off, none⟩ = some (.int .i64 (j : Int)) := hc
 have cR : ((w.alloc (.cells #[.slice (some ⟨b2, off2, none⟩) n c] 29)).alloc (.cells #[] 27)).cell? ⟨b, off, none⟩ = some (.int .i64 (j : Int)) := (World.cell?_alloc_lt _ _ _ (by rw [hw1]; show b < _; omega)).trans ((World.cell?_alloc_lt _ _ _ hbb).trans hc)
 clear h hu sU hs hP hpf hQ hpl hux hlu hz hcap hW hxn hxa hx0 hx2 ez h0 hf
 go_enter Try.func122, Try.ntmps122
 go_wp2_with fail
 rw [← HW.out]
 clear cR
 go_loopw [5, 6, 7] (fun out at_ i wr => HeadP w Q (some ⟨b2, off2, none⟩) n c ps out at_ i wr) (fun _ _ i _ => z.toNat - (intOf i).toNat)
 case atStart => exact S0.out
 case round =>
  clear S0
  obtain ⟨ds, rs, g, k, oc, hds, hk, rfl, rfl, rfl, oS, hr, hb⟩ := hrel
  have cA : wr.cell? ⟨w.heap.size, 0, none⟩ = some (.slice (some ⟨b2, off2, none⟩) n c) := hr.cell 0
  have cx : wr.cell? ⟨b, off, none⟩ = some (.int .i64 (j : Int)) := (hb.cell (p := ⟨b, off, none⟩) hbb).trans hc
  have cz : wr.cell? ⟨b2, off2 + j, none⟩ = some (.int .i64 z) := (hb.cell (p := ⟨b2, off2 + j, none⟩) hbb2).trans hc2
  have hlen : k + rs.length = z.toNat := by rw [← HPL.out, ← hds, List.length_append, hk]
  cases rs with
  | nil =>
   have i0 : ¬ (k : Int) < z := by simp at hlen; omega
   rw [List.append_nil] at hds
   subst hds
   have F := hid (show ∃ g k kc ps, (Ending.returned (.slice (some ⟨g, 0, none⟩) k kc) : Ending) = .returned (.slice (some ⟨g, 0, none⟩) k kc) ∧ True from ⟨0, 0, 0, ds, rfl, trivial⟩)
   have O := hid oS
   have B := hid hb
   clear oS hb hr hlen
   go_wp2_with fail
   go_quiet (fail)
   go_wp2
   go_ret
   exact ⟨g, k, oc, ds, rfl, (O.out.drewN _).lower (Nat.le_succ _), HP.out, base.below_drewN B.out _⟩
  | cons p rs =>
   have i0 : (k : Int) < z := by simp at hlen; omega
   have hp1 : 1 ≤ p.length := (HF.out p (by rw [← hds]; simp)).pos
   have hfl : ps.flatten = ds.flatten ++ (p ++ rs.flatten) := by rw [← hds]; simp
   obtain ⟨q, hq⟩ : ∃ q, 1 + ds.flatten.length = q := ⟨_, rfl⟩
   have hql : q + p.length ≤ m := by rw [HLU.out, hfl, List.length_append, List.length_append, ← hq]; omega
   have hdr : u.drop q = p ++ rs.flatten := by rw [HUX.out, ← hq, Nat.add_comm, List.drop_succ_cons, hfl, List.drop_left]
   have hk9 : k ≤ 1048576 := by omega
   rw [hq]
   have LE := hid (fun d => l13End (some ⟨b2, off2, none⟩) (some ⟨b, off, none⟩) n c m c' sg u q p rs.flatten (wr.drewN d) ((H.out.next hb).drewN d) ((HSU.out.next hb).drewN d) hn hm HS.out hdr (HF.out p (by rw [← hds]; simp)))
   have hcut := rdq_cut (at_ := q) (j := p.length) HU.out hp1 hql
   have e9 : (u.drop q).take p.length = p := by rw [hdr, List.take_left]
   rw [e9] at hcut
   obtain ⟨pl, hpl⟩ : ∃ pl, p.length = pl := ⟨_, rfl⟩
   rw [hpl] at hcut LE hp1 hql
   have c0 : (0 : Int) ≤ (q : Int) := by omega
   have c1 : (q : Int) ≤ ((q + pl : Nat) : Int) := by omega
   have c2 : ((q + pl : Nat) : Int) ≤ (c' : Int) := by omega
   have c3 : ¬ c' = q := by omega
   have HCUT := hid hcut
   have HDS := hid hds
   have HQQ := hid hq
   have HKK := hid hk
   have HPP := hid hpl
   have hzw := hb.size
   clear hcut hds hq hk hfl hdr e9 hpl
   go_wp2_with fail
   go_quiet (fail)
   go_wp2_with fail
   refine (LE.out _).mono ?_
   rintro e w1 ⟨rfl, bb⟩
   have hQr : ∀ b, Q b → b < (wr.drewN nq).heap.size := fun b hb9 => Nat.lt_of_lt_of_le (HQ.out b hb9) hzw
   replace oS := (oS.drewN nq).next bb hQr
   replace hr := (hr.drewN nq).next bb
   replace hb := next_trans (base.below_drewN hb nq) bb
   have hz1 : w.heap.size < w1.heap.size := hr.lt
   have hcut1 := HCUT.out.keep (Keep.below (hb.mono (Nat.le_refl _)) HQ.out)
   clear bb LE cA cx cz
   have oS2 := oS.next (w' := w1.alloc (.cells #[.slice (some ⟨b, off + q, none⟩) pl (c' - q)] 27)) ((Below.refl _ _).alloc (Nat.le_refl _) _) (fun b hb9 => Nat.lt_trans (HQ.out b hb9) hz1)
   have oP : Stk (w1.alloc (.cells #[.slice (some ⟨b, off + q, none⟩) pl (c' - q)] 27)) Q w1.heap.size (some ⟨w1.heap.size, 0, none⟩) 1 1 [p] := Stk.single (Row.new _ _ _) (Nat.le_refl _) (hcut1.keep (Keep.below ((Below.refl w1.heap.size w1).alloc (Nat.le_refl _) _) (fun b hb9 => Nat.lt_trans (HQ.out b hb9) hz1)))
   have hr2 := hr.alloc (.cells #[.slice (some ⟨b, off + q, none⟩) pl (c' - q)] 27)
   have hb2 := hb.alloc (by have := hb.size; exact this) (.cells #[.slice (some ⟨b, off + q, none⟩) pl (c' - q)] 27)
   have hz3 : w.heap.size + 1 ≤ (w1.alloc (.cells #[.slice (some ⟨b, off + q, none⟩) pl (c' - q)] 27)).heap.size := by simp; omega
   clear oS hr hb hcut1
   go_wp2_with (at_builtin; refine appStk rfl _ _ rfl Q (w.heap.size + 1) w1.heap.size (some ⟨g, 0, none⟩) k oc w1.heap.size 1 1 ds [p] rfl oS2 rfl oP hk9 (by omega) hz3 (fun b hb9 => Nat.lt_succ_of_lt (HQ.out b hb9)) ?_; intro A' oc' w2 o2 g2 _; refine (?_ : Hid _).out)
   obtain ⟨ea, e0, -, -⟩ | ⟨g', cur, rfl, -, -⟩ := o2.form
   ·omega
   have hgg := (oS2.ge g rfl).1
   have S := hid (show HeadP w Q (some ⟨b2, off2, none⟩) n c ps (.slice (some ⟨g', 0, none⟩) (k + 1) oc') (.int .i64 ((q + pl : Nat) : Int)) (.int .i64 ((k : Int) + 1)) w2 from
    ⟨ds ++ [p], rs, g', k + 1, oc', by rw [← HDS.out]; simp, by simp [HKK.out], by simp, by rw [← HQQ.out, ← HPP.out]; simp; omega, rfl, o2, (g2.block w.heap.size hr2.lt (fun e => by have e : some w.heap.size = some g := e; injection e with e; omega)).trans hr2, hb2.grown g2 hb2.size (fun k hk => by have hk : some g = some k := hk; injection hk with hk; omega)⟩)
   clear o2 g2 oS2 oP hr2 hb2
   refine hid ?_
   go_wp2
   go_roundw
   case rel => exact S.out
   case measure => simp [intOf]; omega
end partsSpec
end
section
namespace kboLink
open sig term termOk forest partsSpec lpoMath lpoLink rankMath rankSpec kboMath
def admB (sg : List Int) (v : Int) (sy rk : List Int) (f : Nat) : Bool :=
 decide (0 ≤ sy.getD f 0 ∧ sy.getD f 0 ≤ 20 ∧ (sg.getD f 0 = 0 → v ≤ sy.getD f 0) ∧ (sg.getD f 0 = 1 → sy.getD f 0 = 0 → rk.getD f 0 = (rk.length : Int) - 1))
def wB (sg : List Int) (v : Int) (sy rk : List Int) : Bool := precB sg rk && (decide (1 ≤ v ∧ v ≤ 20) && (decide (sy.length = sg.length) && (List.range sy.length).all (admB sg v sy rk)))
variable {sg sy rk : List Int} {v : Int}
theorem w_prec (h : precB sg rk = false) : wB sg v sy rk = false := by unfold wB; rw [h]; rfl
theorem w_var (h : ¬ (1 ≤ v ∧ v ≤ 20)) : wB sg v sy rk = false := by unfold wB; rw [decide_eq_false h]; simp
theorem w_len (h : ¬ sy.length = sg.length) : wB sg v sy rk = false := by unfold wB; rw [decide_eq_false h]; simp
theorem w_bad {f : Nat} (hf : f < sy.length) (h : admB sg v sy rk f = false) : wB sg v sy rk = false := by
 have : (List.range sy.length).all (admB sg v sy rk) = false := by
  rw [List.all_eq_false]
  exact ⟨f, List.mem_range.2 hf, by rw [h]; decide⟩
 unfold wB
 rw [this]
 simp
theorem w_yes (h1 : precB sg rk = true) (h2 : 1 ≤ v ∧ v ≤ 20) (h3 : sy.length = sg.length) (h4 : ∀ f, f < sy.length → admB sg v sy rk f = true) : wB sg v sy rk = true := by
 unfold wB
 rw [h1, decide_eq_true h2, decide_eq_true h3]
 simp only [Bool.true_and]
 rw [List.all_eq_true]
 intro f hf
 exact h4 f (List.mem_range.1 hf)
theorem w_parts (h : wB sg v sy rk = true) : precB sg rk = true ∧ (1 ≤ v ∧ v ≤ 20) ∧ sy.length = sg.length ∧ ∀ f, f < sy.length → admB sg v sy rk f = true := by
 unfold wB at h
 simp only [Bool.and_eq_true, decide_eq_true_iff, List.all_eq_true] at h
 exact ⟨h.1, h.2.1, h.2.2.1, fun f hf => h.2.2.2 f (List.mem_range.2 hf)⟩
theorem adm_parts {f : Nat} (h : admB sg v sy rk f = true) : 0 ≤ sy.getD f 0 ∧ sy.getD f 0 ≤ 20 ∧ (sg.getD f 0 = 0 → v ≤ sy.getD f 0) ∧ (sg.getD f 0 = 1 → sy.getD f 0 = 0 → rk.getD f 0 = (rk.length : Int) - 1) := of_decide_eq_true h
theorem getD_get {l : List Int} {k : Nat} (h : k < l.length) : l.getD k 0 = l[k] := by simp [h]
theorem adm_of (h : wB sg v sy rk = true) : Adm sg v sy rk := by
 obtain ⟨h1, h2, h3, h4⟩ := w_parts h
 obtain ⟨hl, hall⟩ := rank_parts (prec_parts h1).2
 obtain ⟨hin, hnd⟩ := all_there.2 hall
 have inx : ∀ {x : Int}, 0 ≤ x → 0 ≤ ar sg x → x.toNat < sy.length ∧ x.toNat < rk.length ∧ ar sg x = sg.getD x.toNat 0 := by
  intro x h0 ha
  obtain ⟨i1, i2⟩ := ar_in h0 ha
  exact ⟨by omega, by omega, i2⟩
 refine ⟨h2.1, ?_, ?_, ?_, ?_⟩
 ·intro x h0 ha
  exact (adm_parts (h4 _ (inx h0 ha).1)).1
 ·intro x h0 ha
  have i := inx h0 (by omega)
  exact (adm_parts (h4 _ i.1)).2.2.1 (by rw [← i.2.2]; exact ha)
 ·intro x y h0 ha hz h0y hay
  have i := inx h0 (by omega)
  have j := inx h0y hay
  have e := (adm_parts (h4 _ i.1)).2.2.2 (by rw [← i.2.2]; exact ha) hz
  have hy : rk.getD y.toNat 0 ∈ rk := by rw [getD_get j.2.1]; exact List.getElem_mem _
  have := hin _ hy
  show rk.getD y.toNat 0 ≤ rk.getD x.toNat 0
  omega
 ·intro x y h0 ha h0y hay e
  have i := inx h0 ha
  have j := inx h0y hay
  have e' : rk.getD x.toNat 0 = rk.getD y.toNat 0 := e
  rw [getD_get i.2.1, getD_get j.2.1] at e'
  have := (List.getElem_inj hnd).1 e'
  omega
def Low (sy t : List Int) : Prop := ∀ x ∈ t, x < (sy.length : Int)
def Small (v : Int) (sy : List Int) : Prop := (0 ≤ v ∧ v ≤ 20) ∧ ∀ x ∈ sy, 0 ≤ x ∧ x ≤ 20
theorem small_of (h : wB sg v sy rk = true) : Small v sy := by
 obtain ⟨h1, h2, h3, h4⟩ := w_parts h
 refine ⟨by omega, ?_⟩
 intro x hx
 obtain ⟨k, hk, e⟩ := List.getElem_of_mem hx
 have := adm_parts (h4 k hk)
 rw [getD_get hk, e] at this
 exact ⟨this.1, this.2.1⟩
theorem low_of {t : List Int} (h : wB sg v sy rk = true) (ht : Fo sg 1 t) : Low sy t := by
 intro x hx
 obtain ⟨h1, h2, h3, h4⟩ := w_parts h
 by_cases h0 : 0 ≤ x
 ·have := ar_in h0 (ht.sym x hx h0)
  omega
 ·omega
theorem wt_bd {t : List Int} (h : Small v sy) : 0 ≤ wt v sy t ∧ wt v sy t ≤ 20 * (t.length : Int) := by
 induction t with
 | nil => simp [wt]
 | cons x r ih =>
  simp only [wt, List.length_cons]
  have : 0 ≤ rkL sy x ∧ rkL sy x ≤ 20 := by
   unfold rkL
   by_cases hx : x.toNat < sy.length
   ·rw [getD_get hx]; exact h.2 _ (List.getElem_mem _)
   ·simp [Nat.not_lt.1 hx]
  have h1 := h.1
  split <;> omega
theorem wt_take {t : List Int} {k : Nat} (hk : k < t.length) : wt v sy (t.take (k + 1)) = wt v sy (t.take k) + (if t.getD k 0 < 0 then v else rkL sy (t.getD k 0)) := by
 have e : t.take (k + 1) = t.take k ++ [t.getD k 0] := by rw [List.take_add_one]; simp [hk]
 rw [e, wt_append]
 simp [wt]
def wrapB (sg sy : List Int) (x : Int) (t : List Int) : Bool := decide (1 < t.length) && ((List.range (t.length - 1)).all (fun i => decide (0 ≤ t.getD i 0 ∧ sg.getD (t.getD i 0).toNat 0 = 1 ∧ sy.getD (t.getD i 0).toNat 0 = 0)) && decide (t.getD (t.length - 1) 0 = x))
theorem wrap_bad {x : Int} {t : List Int} {i : Nat} (hi : i < t.length - 1) (h : ¬ (0 ≤ t.getD i 0 ∧ sg.getD (t.getD i 0).toNat 0 = 1 ∧ sy.getD (t.getD i 0).toNat 0 = 0)) : wrapB sg sy x t = false := by
 have : (List.range (t.length - 1)).all (fun i => decide (0 ≤ t.getD i 0 ∧ sg.getD (t.getD i 0).toNat 0 = 1 ∧ sy.getD (t.getD i 0).toNat 0 = 0)) = false := by
  rw [List.all_eq_false]
  exact ⟨i, List.mem_range.2 hi, by rw [decide_eq_false h]; decide⟩
 unfold wrapB
 rw [this]
 simp
theorem wrap_end {x : Int} {t : List Int} (h : ∀ i, i < t.length - 1 → (0 ≤ t.getD i 0 ∧ sg.getD (t.getD i 0).toNat 0 = 1 ∧ sy.getD (t.getD i 0).toNat 0 = 0)) : wrapB sg sy x t = (decide (1 < t.length) && decide (t.getD (t.length - 1) 0 = x)) := by
 have : (List.range (t.length - 1)).all (fun i => decide (0 ≤ t.getD i 0 ∧ sg.getD (t.getD i 0).toNat 0 = 1 ∧ sy.getD (t.getD i 0).toNat 0 = 0)) = true := by
  rw [List.all_eq_true]
  intro i hi
  exact decide_eq_true (h i (List.mem_range.1 hi))
 unfold wrapB
 rw [this]
 simp
theorem wrap_hd {x : Int} {t : List Int} (ok : Adm sg v sy rk) (ft : Fo sg 1 t) (hw : wt v sy t ≤ v) (hx : x < 0) (ho : oft [x] t = true) : wrapB sg sy x t = decide (0 ≤ hd t) := by
 have hm : x ∈ t := by
  have := oft_iff.1 ho x hx
  have e : List.count x [x] = 1 := by simp
  rw [e] at this
  exact List.count_pos_iff.1 (by omega)
 obtain ⟨us, rfl, hu⟩ := wrapped_of ok ft hw hm hx
 cases us with
 | nil =>
  have h1 : hd ([] ++ [x]) = x := rfl
  rw [h1, decide_eq_false (show ¬ 0 ≤ x by omega)]
  unfold wrapB
  simp
 | cons z us =>
  have h1 : hd (z :: us ++ [x]) = z := rfl
  rw [h1, decide_eq_true (hu z (List.mem_cons_self ..)).1, wrap_end]
  ·have hl : (z :: us ++ [x]).length = us.length + 2 := by simp
   rw [hl, decide_eq_true (by omega)]
   have : (z :: us ++ [x]).getD (us.length + 2 - 1) 0 = x := by simp
   rw [this]
   simp
  ·intro i hi
   have hl : (z :: us ++ [x]).length = us.length + 2 := by simp
   rw [hl] at hi
   have hi' : i < (z :: us).length := by simp; omega
   have e : (z :: us ++ [x]).getD i 0 = (z :: us)[i] := by
    rw [List.getD_eq_getElem?_getD, List.getElem?_append_left hi', List.getElem?_eq_getElem hi']
    rfl
   obtain ⟨u0, u1, u2⟩ := hu _ (List.getElem_mem hi')
   rw [e]
   exact ⟨u0, by rw [← (ar_in u0 (by omega)).2]; exact u1, u2⟩
end kboLink
end
section
open Go.Lib (hid)
namespace anyJ
open Go.RowKit base ints sig anyR
set_option maxRecDepth 100000
def TestsJ (g : Nat) (lb : Array Value) (J : World → Prop) (xs : List Int) (f : Int → Bool) : Prop := ∀ (W : World) (x : Int), J W → x ∈ xs → Calls Try.prog g (#[.int .i64 x] ++ lb) W fun e w' => e = .returned (.bool (f x)) ∧ J w'
def FstJ (f : Int → Bool) (xs : List Int) (z : Int) : Prop := (z = -1 ∧ ∀ j, j < xs.length → f (xs.getD j 0) = false) ∨ ∃ k : Nat, z = (k : Int) ∧ k < xs.length ∧ f (xs.getD k 0) = true ∧ ∀ j, j < k → f (xs.getD j 0) = false
def AnsJx (J : World → Prop) (f : Int → Bool) (xs : List Int) (e : Ending) (w' : World) : Prop := ∃ z : Int, e = .returned (.int .i64 z) ∧ FstJ f xs z ∧ J w'
def HeadJx (J : World → Prop) (n : Nat) (f : Int → Bool) (xs : List Int) (i : Value) (wr : World) : Prop := ∃ k : Nat, k ≤ n ∧ i = .int .i64 k ∧ (∀ j, j < k → f (xs.getD j 0) = false) ∧ J wr
set_option maxHeartbeats 2000000 in
theorem indexFuncJ (g : Nat) (lb : Array Value) (eg : ∀ args w, (callFunc g args).run Try.prog w = .ok (.enter g args) w) (J : World → Prop) (f : Int → Bool) (A : Option Addr) (n c : Nat) (xs : List Int) (w : World) (hT : TestsJ g lb J xs f)
  (hR : ∀ W, J W → Seg W W.heap.size A n xs) (hJ : J w) (hl : xs.length = n) (hn : n ≤ 1048576) :
  Calls Try.prog 145 #[.slice A n c, .func (.func g) #[] lb] w (AnsJx J f xs) := by
 have HL := hid hl
 have HK := hid hT
 have HR := hid hR
 have HH : Hid (HeadJx J n f xs (.int .i64 0) w) := hid ⟨0, Nat.zero_le _, rfl, fun j hj => absurd hj (Nat.not_lt_zero _), hJ⟩
 clear hT hR hl hJ
 go_enter Try.func145, Try.ntmps145
 go_wp2_with fail
 go_loopw [8] (fun i wr => HeadJx J n f xs i wr) (fun i _ => n - (intOf i).toNat)
 case atStart => exact HH.out
 case round =>
  obtain ⟨k, hk, rfl, hlow, hJ⟩ := hrel
  have HLOW := hid hlow
  have HJ := hid hJ
  clear hlow HH hJ
  by_cases hlt : k < n
  ·have hkD : k < xs.length := by rw [HL.out]; exact hlt
   obtain ⟨b, off, x, rfl, hbB, hx, ex⟩ := (HR.out wr HJ.out).spot hlt
   have hcall := HK.out wr x HJ.out (mem_at hkD ex.out)
   obtain ⟨v, hv⟩ : ∃ v, f x = v := ⟨_, rfl⟩
   rw [hv] at hcall
   have HV := hid hv
   have HC := hid hcall
   have i0 : (0 : Int) ≤ (k : Int) := by omega
   have i1 : (k : Int) < (n : Int) := by omega
   clear hv hcall
   cases v with
   | true =>
    go_wp2_with (first
     | (go_at_fn g; refine HC.out.mono ?_; rintro e w1 ⟨rfl, jj⟩))
    have F : AnsJx J f xs (.returned (.int .i64 (k : Int))) w1 := ⟨k, rfl, .inr ⟨k, rfl, hkD, by rw [ex.out]; exact HV.out, HLOW.out⟩, jj⟩
    have HF := hid F
    clear F jj HC
    go_wp2
    go_ret
    exact HF.out
   | false =>
    go_wp2_with (first
     | (go_at_fn g; refine HC.out.mono ?_; rintro e w1 ⟨rfl, jj⟩))
    have S1 : HeadJx J n f xs (.int .i64 ((k : Int) + 1)) w1 := ⟨k + 1, hlt, by simp, fun j hj => by
     by_cases e : j = k
     ·rw [e, ex.out]; exact HV.out
     ·exact HLOW.out j (by omega), jj⟩
    have HS1 := hid S1
    clear S1 jj HC
    go_wp2
    go_roundw
    case rel => exact HS1.out
    case measure => simp [intOf]; omega
  ·have F : AnsJx J f xs (.returned (.int .i64 (-1))) wr := ⟨-1, rfl, .inl ⟨rfl, fun j hj => HLOW.out j (by rw [HL.out] at hj; omega)⟩, HJ.out⟩
   have HF := hid F
   clear F
   go_wp2
   go_ret
   exact HF.out
theorem fstJ_any {f : Int → Bool} {xs : List Int} {z : Int} (h : FstJ f xs z) : decide (0 ≤ z) = xs.any f := by
 rcases h with ⟨rfl, h⟩ | ⟨k, rfl, hk, h, -⟩
 ·rw [decide_eq_false (by omega)]
  exact (none_of h).symm
 ·rw [decide_eq_true (by omega)]
  exact (any_of hk rfl h).symm
theorem fstJ_bd {f : Int → Bool} {xs : List Int} {z : Int} (h : FstJ f xs z) (hn : xs.length ≤ 1048576) : -1 ≤ z ∧ z ≤ 1048576 := by
 rcases h with ⟨rfl, -⟩ | ⟨k, rfl, hk, -⟩ <;> omega
theorem containsFuncJ (g : Nat) (lb : Array Value) (eg : ∀ args w, (callFunc g args).run Try.prog w = .ok (.enter g args) w) (J : World → Prop) (f : Int → Bool) (A : Option Addr) (n c : Nat) (xs : List Int) (w : World) (hT : TestsJ g lb J xs f)
  (hR : ∀ W, J W → Seg W W.heap.size A n xs) (hJ : J w) (hl : xs.length = n) (hn : n ≤ 1048576) :
  Calls Try.prog 116 #[.slice A n c, .func (.func g) #[] lb] w (fun e w' => e = .returned (.bool (xs.any f)) ∧ J w') := by
 have L := hid (indexFuncJ g lb eg J f A n c xs w hT hR hJ hl hn)
 have hlen : xs.length ≤ 1048576 := by rw [hl]; exact hn
 clear hl hT hR hJ
 go_enter Try.func116, Try.ntmps116
 go_wp2_with fail
 refine L.out.mono ?_
 rintro e w' ⟨z, rfl, hz, jj⟩
 obtain ⟨h1, h2⟩ := fstJ_bd hz hlen
 have HZ := hid (fstJ_any hz)
 have HB := hid jj
 clear hz L jj hlen
 go_wp2
 go_ret
 exact ⟨by rw [← HZ.out]; rfl, HB.out⟩
end anyJ
end
section
namespace whole
open Go.RowKit base segs matchMath
set_option maxRecDepth 100000
section
variable {w w' : World} {B B' g : Nat} {cs : Array Value} {s : List (List Int)} {t : TypeId}
def TabR (w : World) (B : Nat) (cs : Array Value) (s : List (List Int)) : Prop :=
 cs.size = 24 ∧ s.length = 24 ∧ ∀ j, j < 24 → ∃ A n c, cs[j]? = some (.slice A n c) ∧ Seg w B A n (s.getD j []) ∧ Cap A n c
theorem TabR.one (h : TabR w B cs s) : cs.all (·.oneCell') = true := by
 rw [Array.all_eq_true]
 intro i hi
 obtain ⟨A, n, c, e, _⟩ := h.2.2 i (by rw [← h.1]; exact hi)
 rw [Array.getElem?_eq_getElem hi] at e
 injection e with e
 rw [e]; rfl
end
end whole
end
section
namespace inside
open Go.RowKit base ints sig term arity endOf cursor termOk endAt
set_option maxRecDepth 100000
structure Fr (w wr : World) (A : Option Addr) (n c : Nat) (sg : List Int) (A' : Option Addr) (m : Nat) (t : List Int) : Prop where
 r : Row wr w.heap.size 29 #[.slice A n c]
 s : Seg wr w.heap.size A n sg
 s' : Seg wr w.heap.size A' m t
 b : Below w.heap.size w wr
section
variable {w wr w' : World} {A : Option Addr} {n c : Nat} {sg : List Int} {A' : Option Addr} {m : Nat} {t : List Int}
theorem Fr.next (f : Fr w wr A n c sg A' m t) (hb : Below wr.heap.size wr w') : Fr w w' A n c sg A' m t :=
 have b : Below w.heap.size wr w' := hb.mono (Nat.le_of_lt f.r.lt)
 ⟨f.r.next hb, f.s.below b, f.s'.below b, f.b.trans b⟩
theorem Fr.over (f : Fr w wr A n c sg A' m t) (hb : Below (w.heap.size + 1) wr w') : Fr w w' A n c sg A' m t :=
 have b : Below w.heap.size wr w' := hb.mono (Nat.le_succ _)
 ⟨f.r.below hb (Nat.lt_succ_self _), f.s.below b, f.s'.below b, f.b.trans b⟩
theorem Fr.s1 (f : Fr w wr A n c sg A' m t) : Seg wr wr.heap.size A n sg := f.s.more (Nat.le_of_lt f.r.lt)
theorem Fr.t1 (f : Fr w wr A n c sg A' m t) : Seg wr wr.heap.size A' m t := f.s'.more (Nat.le_of_lt f.r.lt)
theorem Fr.size (f : Fr w wr A n c sg A' m t) : w.heap.size < wr.heap.size := f.r.lt
end
end inside
end
section
namespace plain
open Go.RowKit base ints cursor same marks app appAt sym sub segs segsHelp kinds fillMath Go.Proofs.Ytiimbmkofpnebaa.look plainMath
set_option maxRecDepth 100000
def HeadP (w : World) (L : Nat → List Int) (terms i : Value) (wr : World) : Prop :=
 ∃ (k : Nat) (A : Option Addr) (n c : Nat), k ≤ 24 ∧ i = .int .i64 k ∧ terms = .slice A n c ∧ n ≤ k ∧ Owns wr (w.heap.size + 1) wr.heap.size A n c (plainL L k) ∧ Row wr w.heap.size 37 #[.slice none 0 0] ∧ Below w.heap.size w wr
end plain
end
section
namespace plainOf
open Go.RowKit base ints sig cursor marks app appAt sym sub segs segsHelp kinds varsOf fillMath Go.Proofs.Ytiimbmkofpnebaa.look substOk gives plainMath plain
set_option maxRecDepth 100000
end plainOf
end
section
namespace matchSpec
open Go.RowKit base ints sig same term termOk endAt inside marks app sym sub segs segsHelp termFacts termMath posMath plainMath plain plainOf gives cursor matchMath
set_option maxRecDepth 100000
structure Tab (w : World) (T : Nat) (s : List (List Int)) : Prop where
 len : s.length = 24
 row : ∃ cs, Row w T 27 cs ∧ cs.size = 24 ∧ ∀ j, j < 24 → ∃ A n c, cs[j]? = some (.slice A n c) ∧ Own w (T + 1) (.slice A n c) (s.getD j [])
section
variable {w w' : World} {T : Nat} {s : List (List Int)}
theorem Tab.next (h : Tab w T s) (hb : Below w.heap.size w w') : Tab w' T s := by
 obtain ⟨cs, hr, hs, hc⟩ := h.row
 exact ⟨h.len, cs, hr.next hb, hs, fun j hj => by obtain ⟨A, n, c, e, ho⟩ := hc j hj; exact ⟨A, n, c, e, Own.next ho hb⟩⟩
theorem Tab.at (h : Tab w T s) {j : Nat} (hj : j < 24) : ∃ A n c, w.cell? ⟨T, j, none⟩ = some (.slice A n c) ∧ Own w (T + 1) (.slice A n c) (s.getD j []) := by
 obtain ⟨cs, hr, hs, hc⟩ := h.row
 obtain ⟨A, n, c, e, ho⟩ := hc j hj
 exact ⟨A, n, c, by rw [hr.cell j, e], ho⟩
end
structure Mt (w wr : World) (A : Option Addr) (n c : Nat) (sg : List Int) (P : Option Addr) (pn : Nat) (p : List Int) (Q : Option Addr) (m : Nat) (t : List Int) (s : List (List Int)) : Prop where
 r0 : Row wr w.heap.size 29 #[.slice A n c]
 r1 : Row wr (w.heap.size + 1) 37 #[.slice none 0 0]
 r3 : Row wr (w.heap.size + 1 + 1 + 1) 37 #[.slice (some ⟨w.heap.size + 1 + 1, 0, none⟩) 24 24]
 tb : Tab wr (w.heap.size + 1 + 1) s
 ss : Seg wr w.heap.size A n sg
 sp : Seg wr w.heap.size P pn p
 st : Seg wr w.heap.size Q m t
 b : Below w.heap.size w wr
section
variable {w wr w' : World} {A : Option Addr} {n c : Nat} {sg : List Int} {P : Option Addr} {pn : Nat} {p : List Int} {Q : Option Addr} {m : Nat} {t : List Int} {s : List (List Int)}
theorem Mt.next (h : Mt w wr A n c sg P pn p Q m t s) (hb : Below wr.heap.size wr w') : Mt w w' A n c sg P pn p Q m t s :=
 have b : Below w.heap.size wr w' := hb.mono h.b.size
 ⟨h.r0.next hb, h.r1.next hb, h.r3.next hb, h.tb.next hb, h.ss.below b, h.sp.below b, h.st.below b, h.b.trans b⟩
end
structure Mr (w wr : World) (A : Option Addr) (n c : Nat) (sg : List Int) (P : Option Addr) (pn : Nat) (p : List Int) (Q : Option Addr) (m : Nat) (t : List Int) : Prop where
 r0 : Row wr w.heap.size 29 #[.slice A n c]
 r1 : Row wr (w.heap.size + 1) 37 #[.slice none 0 0]
 ss : Seg wr wr.heap.size A n sg
 sp : Seg wr wr.heap.size P pn p
 st : Seg wr wr.heap.size Q m t
 b : Below w.heap.size w wr
section
variable {w wr w' : World} {A : Option Addr} {n c : Nat} {sg : List Int} {P : Option Addr} {pn : Nat} {p : List Int} {Q : Option Addr} {m : Nat} {t : List Int}
theorem Mr.next (h : Mr w wr A n c sg P pn p Q m t) (hb : Below wr.heap.size wr w') : Mr w w' A n c sg P pn p Q m t :=
 ⟨h.r0.next hb, h.r1.next hb, h.ss.next hb, h.sp.next hb, h.st.next hb, next_trans h.b hb⟩
end
end matchSpec
end
section
namespace whole
open Go.RowKit base cursor marks app sym segs matchMath matchSpec
set_option maxRecDepth 100000
section
variable {P : Program} {ops : Array Oper} {rest : List Oper} {o : Oper} {a : Act} {w : World} {Q : Exit → Act → World → Prop}
theorem rowAlloc (hgd : o.guard = none) (t : TypeId) (ho : o.op = .alloc t) (z : Array Value) (hz : ∀ w, (zeroValue t).run P w = .ok (.agg z) w)
  (h : wpList P ops Q rest (a.put o.dst (.pointer (some ⟨w.heap.size, 0, none⟩))) (w.alloc (.cells z t))) : wpList P ops Q (o :: rest) a w :=
 wpList_plain hgd fun _ hK => by
  unfold Oper.wp execOp
  simp only [ho, Instr.alloc, Sem.run_bind, hz, Result.andThen_ok, newVar, Value.cells]
  exact hK _ _ h
theorem rowStore (hgd : o.guard = none) (ty : TypeId) (x y : Operand) (ho : o.op = .store ty x y) (g : Nat) (cells old : Array Value) (t : TypeId) (hx : a.eval x = .pointer (some ⟨g, 0, none⟩)) (hy : a.eval y = .agg cells)
  (hg : w.heap[g]? = some (.cells old t (0, 0))) (hi : (P.info? ty).map (·.size) = some cells.size) (hs : old.size = cells.size) (h1 : cells.all (·.oneCell') = true)
  (h : wpList P ops Q rest (a.put o.dst undef) (w.setRow g cells)) : wpList P ops Q (o :: rest) a w :=
 wpList_plain hgd fun _ hK => by
  unfold Oper.wp execOp
  simp only [ho, hx, hy, Instr.storeAt, Instr.sureAddr, Sem.run_bind, Sem.run_pure, Result.andThen_ok, run_storeVar_row w g t ty old cells hg hi hs h1]
  exact hK _ _ h
theorem results_row_tmp {fn : Func} {p u : Tmp} {ty : TypeId} (h : fn.results = #[.cell p ty, .tmp u]) (tmps : Array Value) (g : Nat) (t : TypeId) (cs : Array Value) (d : TypeDesc)
  (hp : tmps.getD p undef = .pointer (some ⟨g, 0, none⟩)) (hg : w.heap[g]? = some (.cells cs t (0, 0)))
  (hu : P.underlying ty = some d) (hd : (match d with | .struct _ | .array _ _ => true | _ => false) = true) (hi : (P.info? ty).map (·.size) = some cs.size) :
  (results fn tmps).run P w = .ok (.tuple #[.agg cs, tmps.getD u undef]) w := by
 rw [results_cell_tmp h, hp]
 simp [asAddr, Result.andThen, run_loadVar_row w g t ty cs (0, 0) d hg hu hd hi]
end
section
variable {w w' : World} {B B' g : Nat} {cs : Array Value} {s : List (List Int)} {t : TypeId}
theorem Row.setRow (h : Row w g t cs) (c' : Array Value) : Row (w.setRow g c') g t c' := setRow_heap w g cs c' t (0, 0) h
theorem grown_setRow (w : World) (g : Nat) (c' : Array Value) : w.grownBy (w.setRow g c') (some g) :=
 ⟨rfl, rfl, rfl, by simp, fun k _ hk => setRow_other w g k c' (fun e => hk (by rw [e]))⟩
end
end whole
end
section
open Go.Lib (hid)
namespace kboOft
open Go.RowKit base ints sig term termOk termFacts marks sym count varsOf ruleSpec anyJ whole kboMath kboLink
set_option maxRecDepth 100000
theorem cnt_all (t : List Int) (x : Int) : cnt t x t.length = t.count x := by unfold cnt; rw [List.take_length]
set_option maxHeartbeats 400000 in
theorem l14Count (A : Option Addr) (m c : Nat) (t : List Int) (x : Int) (w : World) (h : Seg w w.heap.size A m t) (hm : m ≤ 1048576) :
  Calls Try.prog 120 #[.slice A m c, .int .i64 x] w fun e w' => w = w' ∧ e = .returned (.int .i64 (t.count x : Nat)) := by
 rw [← cnt_all]
 have HL := hid h.1
 go_enter Try.func120, Try.ntmps120
 go_wp2
 go_loop [5, 6] (fun many i => HeadCnt m t x many i) (fun _ i => m - (intOf i).toNat)
 case atStart => exact ⟨0, Nat.zero_le _, rfl, rfl⟩
 case round =>
  obtain ⟨k, hk, rfl, rfl⟩ := hrel
  have hle := cnt_le t x k
  by_cases hlt : k < m
  ·obtain ⟨b, off, y, rfl, -, hy, ey⟩ := h.spot hlt
   by_cases he : y = x
   ·subst he
    have S := hid (headCnt_yes HL.out hlt ey)
    have e1 : (y == y) = true := by simp
    clear h ey
    generalize cnt t y k = z at *
    go_wp2
    go_round
    case rel => exact S.out
    case measure => simp [intOf]; omega
   ·have S := hid (headCnt_no HL.out hlt ey he)
    have e1 : (y == x) = false := by simp [he]
    clear h ey
    generalize cnt t x k = z at *
    go_wp2
    go_round
    case rel => exact S.out
    case measure => simp [intOf]; omega
  ·have e : cnt t x k = cnt t x t.length := by rw [HL.out, show k = m by omega]
   have E := hid e
   clear h e
   generalize cnt t x k = z at *
   go_wp2
   go_ret
   exact ⟨rfl, by rw [← E.out]; rfl⟩
def goodAt (s t : List Int) (x : Int) : Bool := !decide (x < 0) || decide (s.count x ≤ t.count x)
theorem oft_bad {s t : List Int} {k : Nat} {x : Int} (hk : k < s.length) (ex : s.getD k 0 = x) (h : goodAt s t x = false) : oft s t = false := by
 unfold oft
 rw [List.all_eq_false]
 refine ⟨x, ?_, by unfold goodAt at h; rw [h]; decide⟩
 rw [← ex, getD_get hk]
 exact List.getElem_mem _
theorem oft_good {s t : List Int} (h : ∀ j, j < s.length → goodAt s t (s.getD j 0) = true) : oft s t = true := by
 unfold oft
 rw [List.all_eq_true]
 intro x hx
 obtain ⟨k, hk, rfl⟩ := List.getElem_of_mem hx
 have := h k hk
 rw [getD_get hk] at this
 exact this
def HeadOf (w : World) (n : Nat) (s t : List Int) (i : Value) (wr : World) : Prop := ∃ k : Nat, k ≤ n ∧ i = .int .i64 k ∧ (∀ j, j < k → goodAt s t (s.getD j 0) = true) ∧ Below w.heap.size w wr
theorem headOf_step {w wr : World} {n k : Nat} {s t : List Int} {x : Int} (hk : k < n) (hlow : ∀ j, j < k → goodAt s t (s.getD j 0) = true) (ex : Hid (s.getD k 0 = x)) (h : goodAt s t x = true) (hb : Below w.heap.size w wr) : HeadOf w n s t (.int .i64 ((k : Int) + 1)) wr :=
 ⟨k + 1, hk, by simp, fun j hj => by
  by_cases e : j = k
  ·subst e; rw [ex.out]; exact h
  ·exact hlow j (by omega), hb⟩
set_option maxHeartbeats 4000000 in
theorem l14Often (S T : Option Addr) (m mc k kc : Nat) (s t : List Int) (w : World) (hS : Seg w w.heap.size S m s) (hT : Seg w w.heap.size T k t) (hm : m ≤ 1048576) (hk : k ≤ 1048576) :
  Calls Try.prog 87 #[.slice S m mc, .slice T k kc] w (AnsB w (oft s t)) := by
 have HL := hid hS.1
 have H0 : Hid (HeadOf w m s t (.int .i64 0) w) := hid ⟨0, Nat.zero_le _, rfl, fun j hj => absurd hj (Nat.not_lt_zero _), Below.refl _ _⟩
 go_enter Try.func87, Try.ntmps87
 go_wp2
 go_loopw [5] (fun i wr => HeadOf w m s t i wr) (fun i _ => m - (intOf i).toNat)
 case atStart => exact H0.out
 case round =>
  obtain ⟨j, hj, rfl, hlow, hb⟩ := hrel
  have HLOW := hid hlow
  clear hlow H0
  by_cases hlt : j < m
  ·obtain ⟨b, off, y, rfl, hbB, hy0, ey⟩ := hS.spot hlt
   have hy : wr.cell? ⟨b, off + j, none⟩ = some (.int .i64 y) := (hb.cell (p := ⟨b, off + j, none⟩) hbB).trans hy0
   have i0 : (0 : Int) ≤ (j : Int) := by omega
   have i1 : (j : Int) < (m : Int) := by omega
   have LC2 := hid (fun d' : Nat => l14Count T k kc t y (wr.drewN d') ((hT.next hb).drewN d') hk)
   have LC1 := hid (fun d' : Nat => l14Count (some ⟨b, off, none⟩) m mc s y (wr.drewN d') ((hS.next hb).drewN d') hm)
   by_cases hyn : y < 0
   ·have hdy : decide (y < 0) = true := decide_eq_true hyn
    obtain ⟨p, hp⟩ : ∃ p, s.count y = p := ⟨_, rfl⟩
    obtain ⟨q, hq⟩ : ∃ q, t.count y = q := ⟨_, rfl⟩
    rw [hp] at LC1
    rw [hq] at LC2
    by_cases hpq : q < p
    ·have M := hid (show goodAt s t y = false by unfold goodAt; rw [hdy, hp, hq, decide_eq_false (by omega)]; rfl)
     have F := hid (fun d' : Nat => ansB (w' := wr.drewN d') (b := oft s t) (a := false) (by rw [oft_bad (by rw [HL.out]; exact hlt) ey.out M.out]) (below_drewN hb d'))
     have hpd : decide ((q : Int) < (p : Int)) = true := decide_eq_true (by omega)
     clear hS hT hb hy0 ey hp hq
     go_wp2_with fail
     go_quiet (first
      | (go_at_call_of 120 (Value.slice (some ⟨b, off, none⟩) m mc); exact Calls.quiet_of_same (v := .int .i64 p) ((LC1.out _).mono fun _ _ ⟨h1, h2⟩ => ⟨h2, h1.symm⟩))
      | (go_at_call_of 120 (Value.slice T k kc); exact Calls.quiet_of_same (v := .int .i64 q) ((LC2.out _).mono fun _ _ ⟨h1, h2⟩ => ⟨h2, h1.symm⟩)))
     go_wp2
     go_ret
     exact F.out _
    ·have M := hid (show goodAt s t y = true by unfold goodAt; rw [hdy, hp, hq, decide_eq_true (show p ≤ q by omega)]; rfl)
     have S1 := hid (fun d' : Nat => headOf_step (w := w) (wr := wr.drewN d') hlt HLOW.out ey M.out (below_drewN hb d'))
     have hpd : decide ((q : Int) < (p : Int)) = false := decide_eq_false (by omega)
     clear hS hT hb hy0 ey hp hq
     go_wp2_with fail
     go_quiet (first
      | (go_at_call_of 120 (Value.slice (some ⟨b, off, none⟩) m mc); exact Calls.quiet_of_same (v := .int .i64 p) ((LC1.out _).mono fun _ _ ⟨h1, h2⟩ => ⟨h2, h1.symm⟩))
      | (go_at_call_of 120 (Value.slice T k kc); exact Calls.quiet_of_same (v := .int .i64 q) ((LC2.out _).mono fun _ _ ⟨h1, h2⟩ => ⟨h2, h1.symm⟩)))
     go_wp2
     go_roundw
     case rel => exact S1.out _
     case measure => simp [intOf]; omega
   ·have hdy : decide (y < 0) = false := decide_eq_false hyn
    have M := hid (show goodAt s t y = true by unfold goodAt; rw [hdy]; rfl)
    have S1 := hid (fun d' : Nat => headOf_step (w := w) (wr := wr.drewN d') hlt HLOW.out ey M.out (below_drewN hb d'))
    clear hS hT hb hy0 ey LC1 LC2
    go_wp2_with fail
    go_quiet (fail)
    go_wp2
    go_roundw
    case rel => exact S1.out _
    case measure => simp [intOf]; omega
  ·have F := hid (ansB (b := oft s t) (a := true) (by rw [oft_good (fun i hi => HLOW.out i (by have := HL.out; omega))]) hb)
   clear hS hT hb
   go_wp2
   go_ret
   exact F.out
def z24i : Array Value := Array.replicate 24 (.int .i64 0)
theorem info_a : (Try.prog.info? 137).map (fun i => (i.zero, i.size)) = some (some (.agg z24i), 24) := by kernel_rfl
theorem zero_a : ∀ w, (zeroValue 137).run Try.prog w = .ok (.agg z24i) w := by
 intro w
 cases hq : Try.prog.info? 137 with
 | none => have h := info_a; simp [hq] at h
 | some i => have h := info_a; simp [hq] at h; simp [zeroValue, typeInfo, hq, h.1]
structure Arr (w : World) (g : Nat) (f : Nat → Int) : Prop where
 ex : ∃ cs : Array Value, cs.size = 24 ∧ Row w g 137 cs ∧ ∀ j, j < 24 → cs[j]? = some (.int .i64 (f j))
theorem Arr.lt {w : World} {g : Nat} {f : Nat → Int} (h : Arr w g f) : g < w.heap.size := by obtain ⟨cs, -, r, -⟩ := h.ex; exact r.lt
theorem Arr.cell {w : World} {g : Nat} {f : Nat → Int} (h : Arr w g f) {j : Nat} (hj : j < 24) : w.cell? ⟨g, j, none⟩ = some (.int .i64 (f j)) := by obtain ⟨cs, -, r, hc⟩ := h.ex; exact (r.cell j).trans (hc j hj)
theorem Arr.free {w : World} {g : Nat} {f : Nat → Int} (h : Arr w g f) (j : Nat) : w.frozen? ⟨g, j, none⟩ = false := by obtain ⟨cs, -, r, -⟩ := h.ex; exact r.free j
theorem Arr.put {w : World} {g : Nat} {f f' : Nat → Int} (h : Arr w g f) {j : Nat} (hj : j < 24) (x : Int) (h1 : f' j = x) (h2 : ∀ i, i ≠ j → f' i = f i) : Arr (w.setCell ⟨g, j, none⟩ (.int .i64 x)) g f' := by
 obtain ⟨cs, hs, r, hc⟩ := h.ex
 refine ⟨cs.setIfInBounds j (.int .i64 x), by simp [hs], r.put j _, ?_⟩
 intro i hi
 by_cases e : i = j
 ·subst e
  rw [Array.getElem?_setIfInBounds_self_of_lt (by omega), h1]
 ·rw [Array.getElem?_setIfInBounds_ne (fun e' => e e'.symm), hc i hi, h2 i e]
theorem Arr.new (w : World) : Arr (w.alloc (.cells z24i 137)) w.heap.size (fun _ => 0) :=
 ⟨z24i, by simp [z24i], Row.new _ _ _, fun j hj => by simp [z24i, hj]⟩
def bal (t s : List Int) (j : Nat) : Int := (t.count (-1 - (j : Int)) : Int) - (s.count (-1 - (j : Int)) : Int)
theorem bal_t {t : List Int} {k : Nat} {x : Int} {i : Nat} (hk : k < t.length) (ex : t.getD k 0 = x) : bal (t.take (k + 1)) [] i = bal (t.take k) [] i + (if x = -1 - (i : Int) then 1 else 0) := by
 have := cnt_step (x := -1 - (i : Int)) hk ex
 unfold cnt at this
 unfold bal
 rw [this]
 split <;> simp
theorem bal_s {t s : List Int} {k : Nat} {x : Int} {i : Nat} (hk : k < s.length) (ex : s.getD k 0 = x) : bal t (s.take (k + 1)) i = bal t (s.take k) i - (if x = -1 - (i : Int) then 1 else 0) := by
 have := cnt_step (x := -1 - (i : Int)) hk ex
 unfold cnt at this
 unfold bal
 rw [this]
 split <;> simp
 omega
theorem bal_bd {t s : List Int} {i : Nat} : -(s.length : Int) ≤ bal t s i ∧ bal t s i ≤ (t.length : Int) := by
 unfold bal
 have h1 := List.count_le_length (a := -1 - (i : Int)) (l := t)
 have h2 := List.count_le_length (a := -1 - (i : Int)) (l := s)
 omega
theorem any_bal {t s : List Int} (hs : ∀ x ∈ s, -24 ≤ x) : (((List.range 24).map (bal t s)).any fun c => decide (c < 0)) = !(oft s t) := by
 cases h : oft s t with
 | true =>
  show _ = false
  rw [List.any_eq_false]
  intro c hc
  obtain ⟨j, -, rfl⟩ := List.mem_map.1 hc
  have := oft_iff.1 h (-1 - (j : Int)) (by omega)
  unfold bal
  simp
  omega
 | false =>
  show _ = true
  rw [List.any_eq_true]
  unfold oft at h
  rw [List.all_eq_false] at h
  obtain ⟨x, hx, h⟩ := h
  have hx0 : x < 0 := by
   by_cases h0 : x < 0
   ·exact h0
   ·simp [h0] at h
  have hx1 := hs x hx
  refine ⟨bal t s (-1 - x).toNat, List.mem_map.2 ⟨_, List.mem_range.2 (by omega), rfl⟩, ?_⟩
  have e : -1 - (((-1 - x).toNat : Nat) : Int) = x := by omega
  unfold bal
  rw [e]
  rw [decide_eq_true hx0] at h
  simp at h
  simp
  omega
theorem isMissing (x : Int) (w : World) : Calls Try.prog 115 #[.int .i64 x] w fun e w' => e = .returned (.bool (decide (x < 0))) ∧ w' = w := by
 go_enter Try.func115, Try.ntmps115
 go_wp2
 go_ret
 exact ⟨rfl, rfl⟩
def HeadT (w : World) (n : Nat) (t : List Int) (i : Value) (wr : World) : Prop := ∃ j : Nat, j ≤ n ∧ i = .int .i64 j ∧ Arr wr w.heap.size (bal (t.take j) []) ∧ Below w.heap.size w wr
def HeadS (w : World) (n : Nat) (t s : List Int) (i : Value) (wr : World) : Prop := ∃ j : Nat, j ≤ n ∧ i = .int .i64 j ∧ Arr wr w.heap.size (bal t (s.take j)) ∧ Below w.heap.size w wr
theorem Arr.same {w : World} {g : Nat} {f f' : Nat → Int} (h : Arr w g f) (he : ∀ i, f i = f' i) : Arr w g f' := by
 have : f = f' := funext he
 rw [← this]; exact h
theorem Arr.seg {w : World} {g : Nat} {f : Nat → Int} (h : Arr w g f) : Seg w w.heap.size (some ⟨g, 0, none⟩) 24 ((List.range 24).map f) := by
 obtain ⟨cs, hs, r, hc⟩ := h.ex
 refine r.seg (by simp) h.lt ?_
 intro j hj
 rw [hc j hj]
 simp [hj]
set_option maxHeartbeats 4000000 in
theorem hasAsOften (T S : Option Addr) (k kc m mc : Nat) (t s : List Int) (w : World) (hT : Seg w w.heap.size T k t) (hS : Seg w w.heap.size S m s) (hk : k ≤ 1048576) (hm : m ≤ 1048576) (vT : ∀ x ∈ t, -24 ≤ x) (vS : ∀ x ∈ s, -24 ≤ x) :
  Calls Try.prog 74 #[.slice T k kc, .slice S m mc] w (AnsB w (oft s t)) := by
 have HL := hid hT.1
 have HM := hid hS.1
 have VT := hid vT
 have VS := hid vS
 obtain ⟨W, hW⟩ : ∃ W, W = w.alloc (.cells z24i 137) := ⟨_, rfl⟩
 have a0 : Arr W w.heap.size (fun _ => 0) := by rw [hW]; exact Arr.new w
 have b0 : Below w.heap.size w W := by rw [hW]; exact (Below.refl _ _).alloc (Nat.le_refl _) _
 have H0 : Hid (HeadT w k t (.int .i64 0) W) := hid ⟨0, Nat.zero_le _, rfl, a0.same fun i => by simp [bal], b0⟩
 have HW := hid hW
 have LC := hid (fun (W1 : World) (ha : Arr W1 w.heap.size (bal t s)) (hb : Below w.heap.size w W1) => containsFuncJ 115 #[] (enters_of Try.func115 (by kernel_rfl) rfl) (fun W2 => Arr W2 w.heap.size (bal t s) ∧ Below w.heap.size w W2) (fun c => decide (c < 0)) (some ⟨w.heap.size, 0, none⟩) 24 24 ((List.range 24).map (bal t s)) W1 (fun W2 x hJ _ => (isMissing x W2).mono fun e w' ⟨h1, h2⟩ => ⟨h1, by rw [h2]; exact hJ⟩) (fun W2 hJ => hJ.1.seg) ⟨ha, hb⟩ (by simp) (by omega))
 clear hW a0 b0 vT vS
 go_enter Try.func74, Try.ntmps74
 go_wp2_with (first
  | (refine rowAlloc rfl 137 rfl z24i zero_a ?_))
 rw [← HW.out]
 go_loopw [13] (fun i wr => HeadT w k t i wr) (fun i _ => k - (intOf i).toNat)
 case atStart => exact H0.out
 case round =>
  clear H0
  obtain ⟨j, hj, rfl, ar, hb⟩ := hrel
  by_cases hlt : j < k
  ·obtain ⟨b, off, x, rfl, hbB, hx0, ex⟩ := hT.spot hlt
   have hx : wr.cell? ⟨b, off + j, none⟩ = some (.int .i64 x) := (hb.cell (p := ⟨b, off + j, none⟩) hbB).trans hx0
   have i0 : (0 : Int) ≤ (j : Int) := by omega
   have i1 : (j : Int) < (k : Int) := by omega
   have hjl : j < t.length := by rw [HL.out]; exact hlt
   have hv := VT.out x (by rw [← ex.out, getD_get hjl]; exact List.getElem_mem _)
   by_cases hneg : x < 0
   ·obtain ⟨v, hv⟩ : ∃ v : Nat, x = -1 - (v : Int) := ⟨(-1 - x).toNat, by omega⟩
    subst hv
    have hv24 : v < 24 := by omega
    have ev : -1 - (-1 - (v : Int)) = (v : Int) := by omega
    have hd : decide (-1 - (v : Int) < 0) = true := decide_eq_true hneg
    obtain ⟨z, hz⟩ : ∃ z, bal (t.take j) [] v = z := ⟨_, rfl⟩
    have hzb := bal_bd (t := t.take j) (s := []) (i := v)
    have hzl : (t.take j).length ≤ 1048576 := by rw [List.length_take]; omega
    have cA := ar.cell hv24
    have fA := ar.free v
    rw [hz] at cA hzb
    simp only [List.length_nil] at hzb
    have S1 := hid (show HeadT w k t (.int .i64 ((j : Int) + 1)) (wr.setCell ⟨w.heap.size, v, none⟩ (.int .i64 (z + 1))) from ⟨j + 1, hlt, by simp, ar.put hv24 (z + 1) (by rw [bal_t hjl ex.out, hz, if_pos rfl]) (fun i hi => by rw [bal_t hjl ex.out, if_neg (by omega)]; omega), hb.setCell (Nat.le_refl _) _⟩)
    clear ar hb hx0 ex hz
    go_wp2
    go_roundw
    case rel => exact S1.out
    case measure => simp [intOf]; omega
   ·have hd : decide (x < 0) = false := decide_eq_false hneg
    have S1 := hid (show HeadT w k t (.int .i64 ((j : Int) + 1)) wr from ⟨j + 1, hlt, by simp, ar.same fun i => by rw [bal_t hjl ex.out, if_neg (by omega)]; omega, hb⟩)
    clear ar hb hx0 ex
    go_wp2
    go_roundw
    case rel => exact S1.out
    case measure => simp [intOf]; omega
  ·have ej : t.take j = t := by rw [List.take_of_length_le (by rw [HL.out]; omega)]
   rw [ej] at ar
   have H1 : Hid (HeadS w m t s (.int .i64 0) wr) := hid ⟨0, Nat.zero_le _, rfl, ar.same fun i => by simp, hb⟩
   clear ar hb ej
   go_wp2
   go_loopw [28] (fun i wr => HeadS w m t s i wr) (fun i _ => m - (intOf i).toNat)
   case atStart => exact H1.out
   case round =>
    clear H1
    obtain ⟨j, hj, rfl, ar, hb⟩ := hrel
    by_cases hlt : j < m
    ·obtain ⟨b, off, x, rfl, hbB, hx0, ex⟩ := hS.spot hlt
     have hx : wr.cell? ⟨b, off + j, none⟩ = some (.int .i64 x) := (hb.cell (p := ⟨b, off + j, none⟩) hbB).trans hx0
     have i0 : (0 : Int) ≤ (j : Int) := by omega
     have i1 : (j : Int) < (m : Int) := by omega
     have hjl : j < s.length := by rw [HM.out]; exact hlt
     have hv := VS.out x (by rw [← ex.out, getD_get hjl]; exact List.getElem_mem _)
     by_cases hneg : x < 0
     ·obtain ⟨v, hv⟩ : ∃ v : Nat, x = -1 - (v : Int) := ⟨(-1 - x).toNat, by omega⟩
      subst hv
      have hv24 : v < 24 := by omega
      have ev : -1 - (-1 - (v : Int)) = (v : Int) := by omega
      have hd : decide (-1 - (v : Int) < 0) = true := decide_eq_true hneg
      obtain ⟨z, hz⟩ : ∃ z, bal t (s.take j) v = z := ⟨_, rfl⟩
      have hzb := bal_bd (t := t) (s := s.take j) (i := v)
      have hzl : (s.take j).length ≤ 1048576 := by rw [List.length_take]; omega
      have htl : t.length ≤ 1048576 := by rw [HL.out]; exact hk
      have cA := ar.cell hv24
      have fA := ar.free v
      rw [hz] at cA hzb
      have S1 := hid (show HeadS w m t s (.int .i64 ((j : Int) + 1)) (wr.setCell ⟨w.heap.size, v, none⟩ (.int .i64 (z - 1))) from ⟨j + 1, hlt, by simp, ar.put hv24 (z - 1) (by rw [bal_s hjl ex.out, hz, if_pos rfl]) (fun i hi => by rw [bal_s hjl ex.out, if_neg (by omega)]; omega), hb.setCell (Nat.le_refl _) _⟩)
      clear ar hb hx0 ex hz
      go_wp2
      go_roundw
      case rel => exact S1.out
      case measure => simp [intOf]; omega
     ·have hd : decide (x < 0) = false := decide_eq_false hneg
      have S1 := hid (show HeadS w m t s (.int .i64 ((j : Int) + 1)) wr from ⟨j + 1, hlt, by simp, ar.same fun i => by rw [bal_s hjl ex.out, if_neg (by omega)]; omega, hb⟩)
      clear ar hb hx0 ex
      go_wp2
      go_roundw
      case rel => exact S1.out
      case measure => simp [intOf]; omega
    ·have ej : s.take j = s := by rw [List.take_of_length_le (by rw [HM.out]; omega)]
     rw [ej] at ar
     have L1 := hid (LC.out wr ar hb)
     have EA := hid (any_bal (t := t) VS.out)
     obtain ⟨u, hu⟩ : ∃ u, ((List.range 24).map (bal t s)).any (fun c => decide (c < 0)) = u := ⟨_, rfl⟩
     rw [hu] at L1 EA
     clear ar hb ej hu
     go_wp2_with fail
     refine L1.out.mono ?_
     rintro e w3 ⟨rfl, -, hb⟩
     have F := hid (ansB (b := oft s t) (a := !u) (by rw [EA.out]; simp) hb)
     clear hb L1
     go_wp2
     go_ret
     exact F.out
end kboOft
end
section
open Go.Lib (hid)
namespace kboWt
open Go.RowKit base ints sig term termOk termFacts marks sym ruleSpec lpoLink kboMath kboLink kboOft
set_option maxRecDepth 100000
def AnsI (w : World) (z : Int) (e : Ending) (w' : World) : Prop := e = .returned (.int .i64 z) ∧ Below w.heap.size w w'
def HeadW (w : World) (T : TypeId) (cs : Array Value) (m : Nat) (v : Int) (sy t : List Int) (s i : Value) (wr : World) : Prop :=
 ∃ k : Nat, k ≤ m ∧ i = .int .i64 k ∧ s = .int .i64 (wt v sy (t.take k)) ∧ Row wr w.heap.size T cs ∧ Below w.heap.size w wr
theorem headW_step {w wr : World} {T : TypeId} {cs : Array Value} {m k : Nat} {v x y : Int} {sy t : List Int} {z : Int} (hl : t.length = m) (hk : k < m) (ex : Hid (t.getD k 0 = x)) (hz : Hid (wt v sy (t.take k) = z)) (hy : (if x < 0 then v else rkL sy x) = y) (hr : Row wr w.heap.size T cs) (hb : Below w.heap.size w wr) : HeadW w T cs m v sy t (.int .i64 (z + y)) (.int .i64 ((k : Int) + 1)) wr :=
 ⟨k + 1, hk, by simp, by rw [wt_take (by omega), ex.out, hz.out, hy], hr, hb⟩
theorem take_bd {v : Int} {sy t : List Int} {k m : Nat} (h : Small v sy) (hl : t.length = m) (hm : m ≤ 1048576) : 0 ≤ wt v sy (t.take k) ∧ wt v sy (t.take k) ≤ 20971520 := by
 have h1 := wt_bd (t := t.take k) h
 have h2 : (t.take k).length ≤ 1048576 := by rw [List.length_take]; omega
 omega
set_option maxHeartbeats 4000000 in
theorem l14Weight (Y R T : Option Addr) (yn yc rn rc m mc : Nat) (v : Int) (sy t : List Int) (w : World) (hY : Seg w w.heap.size Y yn sy) (hT : Seg w w.heap.size T m t) (hm : m ≤ 1048576) (hs : Small v sy) (hlow : Low sy t) :
  Calls Try.prog 86 #[.agg #[.int .i64 v, .slice Y yn yc, .slice R rn rc], .slice T m mc] w (AnsI w (wt v sy t)) := by
 obtain ⟨W, hW, rA, bel⟩ := box1 w 32 #[.int .i64 v, .slice Y yn yc, .slice R rn rc]
 have HW := hid hW
 have HL := hid hT.1
 have HS := hid hs
 have HLO := hid hlow
 have HYN := hid hY.1
 have hv := hs.1
 have H0 : Hid (HeadW w 32 #[.int .i64 v, .slice Y yn yc, .slice R rn rc] m v sy t (.int .i64 0) (.int .i64 0) W) := hid ⟨0, Nat.zero_le _, rfl, rfl, rA, bel⟩
 clear hW rA bel hs hlow
 go_enter Try.func86, Try.ntmps86
 go_wp2_with fail
 rw [← HW.out]
 go_loopw [5, 6] (fun s i wr => HeadW w 32 #[.int .i64 v, .slice Y yn yc, .slice R rn rc] m v sy t s i wr) (fun _ i _ => m - (intOf i).toNat)
 case atStart => exact H0.out
 case round =>
  clear H0
  obtain ⟨k, hk, rfl, rfl, rr, hb⟩ := hrel
  obtain ⟨z, hz⟩ : ∃ z, wt v sy (t.take k) = z := ⟨_, rfl⟩
  have HZ := hid hz
  have hzb := take_bd (k := k) HS.out HL.out hm
  rw [hz] at hzb ⊢
  clear hz
  have c0 : wr.cell? ⟨w.heap.size, 0, none⟩ = some (.int .i64 v) := rr.cell 0
  have c1 : wr.cell? ⟨w.heap.size, 1, none⟩ = some (.slice Y yn yc) := rr.cell 1
  by_cases hlt : k < m
  ·obtain ⟨b, off, x, rfl, hbB, hx0, ex⟩ := hT.spot hlt
   have hx : wr.cell? ⟨b, off + k, none⟩ = some (.int .i64 x) := (hb.cell (p := ⟨b, off + k, none⟩) hbB).trans hx0
   have i0 : (0 : Int) ≤ (k : Int) := by omega
   have i1 : (k : Int) < (m : Int) := by omega
   by_cases hneg : x < 0
   ·have hd : decide (x < 0) = true := decide_eq_true hneg
    have S1 := hid (headW_step (w := w) HL.out hlt ex HZ (if_pos hneg) rr hb)
    clear rr hb hx0 ex
    go_wp2
    go_roundw
    case rel => exact S1.out
    case measure => simp [intOf]; omega
   ·have hd : decide (x < 0) = false := decide_eq_false hneg
    have hkl : k < t.length := by rw [HL.out]; exact hlt
    have hxl := HLO.out x (by rw [← ex.out, getD_get hkl]; exact List.getElem_mem _)
    obtain ⟨f, rfl⟩ : ∃ f : Nat, x = (f : Int) := ⟨x.toNat, by omega⟩
    have hf : f < yn := by rw [← HYN.out]; omega
    obtain ⟨b2, off2, u, rfl, hbB2, hu0, eu⟩ := hY.spot hf
    have hu : wr.cell? ⟨b2, off2 + f, none⟩ = some (.int .i64 u) := (hb.cell (p := ⟨b2, off2 + f, none⟩) hbB2).trans hu0
    have j0 : (0 : Int) ≤ (f : Int) := by omega
    have j1 : (f : Int) < (yn : Int) := by omega
    have hub : 0 ≤ u ∧ u ≤ 20 := by
     have hfl : f < sy.length := by rw [HYN.out]; exact hf
     have := HS.out.2 sy[f] (List.getElem_mem _)
     rw [← getD_get hfl, eu.out] at this
     exact this
    have S1 := hid (fun dd : Nat => headW_step (w := w) (y := u) HL.out hlt ex HZ (by rw [if_neg hneg]; exact eu.out) (rr.drewN dd) (below_drewN hb dd))
    clear rr hb hx0 ex hu0 eu
    go_wp2_with fail
    go_quiet (fail)
    go_wp2
    go_roundw
    case rel => exact S1.out _
    case measure => simp [intOf]; omega
  ·have ej : t.take k = t := by rw [List.take_of_length_le (by rw [HL.out]; omega)]
   have F := hid (show AnsI w (wt v sy t) (.returned (.int .i64 z)) wr from ⟨by rw [← HZ.out, ej], hb⟩)
   clear rr hb ej
   go_wp2
   go_ret
   exact F.out
set_option maxHeartbeats 4000000 in
theorem weigh (A Y R T : Option Addr) (n c yn yc rn rc m mc : Nat) (v : Int) (sy t : List Int) (w : World) (hY : Seg w w.heap.size Y yn sy) (hT : Seg w w.heap.size T m t) (hm : m ≤ 1048576) (hs : Small v sy) (hlow : Low sy t) :
  Calls Try.prog 75 #[.agg #[.slice A n c, .slice R rn rc, .int .i64 v, .slice Y yn yc], .slice T m mc] w (AnsI w (wt v sy t)) := by
 obtain ⟨W, hW, rA, bel⟩ := box1 w 96 #[.slice A n c, .slice R rn rc, .int .i64 v, .slice Y yn yc]
 have HW := hid hW
 have HL := hid hT.1
 have HS := hid hs
 have HLO := hid hlow
 have HYN := hid hY.1
 have hv := hs.1
 have H0 : Hid (HeadW w 96 #[.slice A n c, .slice R rn rc, .int .i64 v, .slice Y yn yc] m v sy t (.int .i64 0) (.int .i64 0) W) := hid ⟨0, Nat.zero_le _, rfl, rfl, rA, bel⟩
 clear hW rA bel hs hlow
 go_enter Try.func75, Try.ntmps75
 go_wp2_with fail
 rw [← HW.out]
 go_loopw [5, 10] (fun s i wr => HeadW w 96 #[.slice A n c, .slice R rn rc, .int .i64 v, .slice Y yn yc] m v sy t s i wr) (fun _ i _ => m - (intOf i).toNat)
 case atStart => exact H0.out
 case round =>
  clear H0
  obtain ⟨k, hk, rfl, rfl, rr, hb⟩ := hrel
  obtain ⟨z, hz⟩ : ∃ z, wt v sy (t.take k) = z := ⟨_, rfl⟩
  have HZ := hid hz
  have hzb := take_bd (k := k) HS.out HL.out hm
  rw [hz] at hzb ⊢
  clear hz
  have c0 : wr.cell? ⟨w.heap.size, 2, none⟩ = some (.int .i64 v) := rr.cell 2
  have c1 : wr.cell? ⟨w.heap.size, 3, none⟩ = some (.slice Y yn yc) := rr.cell 3
  by_cases hlt : k < m
  ·obtain ⟨b, off, x, rfl, hbB, hx0, ex⟩ := hT.spot hlt
   have hx : wr.cell? ⟨b, off + k, none⟩ = some (.int .i64 x) := (hb.cell (p := ⟨b, off + k, none⟩) hbB).trans hx0
   have i0 : (0 : Int) ≤ (k : Int) := by omega
   have i1 : (k : Int) < (m : Int) := by omega
   by_cases hneg : x < 0
   ·have hd : decide (x < 0) = true := decide_eq_true hneg
    have S1 := hid (headW_step (w := w) HL.out hlt ex HZ (if_pos hneg) rr hb)
    clear rr hb hx0 ex
    go_wp2
    go_roundw
    case rel => exact S1.out
    case measure => simp [intOf]; omega
   ·have hd : decide (x < 0) = false := decide_eq_false hneg
    have hkl : k < t.length := by rw [HL.out]; exact hlt
    have hxl := HLO.out x (by rw [← ex.out, getD_get hkl]; exact List.getElem_mem _)
    obtain ⟨f, rfl⟩ : ∃ f : Nat, x = (f : Int) := ⟨x.toNat, by omega⟩
    have hf : f < yn := by rw [← HYN.out]; omega
    obtain ⟨b2, off2, u, rfl, hbB2, hu0, eu⟩ := hY.spot hf
    have hu : wr.cell? ⟨b2, off2 + f, none⟩ = some (.int .i64 u) := (hb.cell (p := ⟨b2, off2 + f, none⟩) hbB2).trans hu0
    have j0 : (0 : Int) ≤ (f : Int) := by omega
    have j1 : (f : Int) < (yn : Int) := by omega
    have hub : 0 ≤ u ∧ u ≤ 20 := by
     have hfl : f < sy.length := by rw [HYN.out]; exact hf
     have := HS.out.2 sy[f] (List.getElem_mem _)
     rw [← getD_get hfl, eu.out] at this
     exact this
    have S1 := hid (headW_step (w := w) (y := u) HL.out hlt ex HZ (by rw [if_neg hneg]; exact eu.out) rr hb)
    clear rr hb hx0 ex hu0 eu
    go_wp2
    go_roundw
    case rel => exact S1.out
    case measure => simp [intOf]; omega
  ·have ej : t.take k = t := by rw [List.take_of_length_le (by rw [HL.out]; omega)]
   have F := hid (show AnsI w (wt v sy t) (.returned (.int .i64 z)) wr from ⟨by rw [← HZ.out, ej], hb⟩)
   clear rr hb ej
   go_wp2
   go_ret
   exact F.out
end kboWt
end
section
namespace lpoPrec
open Go.RowKit base ints sig term marks app sym shape rankMath rankSpec ruleSpec
set_option maxRecDepth 100000
def AnsPrec (w : World) (v u : Value) (b : Bool) (e : Ending) (w' : World) : Prop := e = .returned (.tuple #[if b then .agg #[v, u] else .agg #[.slice none 0 0, .slice none 0 0], .bool b]) ∧ Below w.heap.size w w'
set_option maxHeartbeats 4000000 in
theorem precedenceOf (A R : Option Addr) (n c rn rc : Nat) (sg rk : List Int) (w : World) (hA : Seg w w.heap.size A n sg) (hR : Seg w w.heap.size R rn rk) (hn : n ≤ 1048576) (hrn : rn ≤ 1048576) :
  Calls Try.prog 110 #[.agg #[.slice A n c], .slice R rn rc] w (AnsPrec w (.slice A n c) (.slice R rn rc) (precB sg rk)) := by
 obtain ⟨W, hW, rA, rR, bel⟩ := box2 w 29 94 #[.slice A n c] #[.slice none 0 0, .slice none 0 0]
 have k0 : W.cell? ⟨w.heap.size, 0, none⟩ = some (.slice A n c) := rA.cell 0
 rw [hW] at k0
 have HW := Lib.hid hW
 have L1 := Lib.hid (implRankOk A R n c rn rc sg rk W (hA.next bel) (hR.next bel) hn hrn)
 clear hW hA hR
 cases ok1 : precB sg rk with
 | false =>
  have HS := Lib.hid ok1
  clear ok1
  go_enter Try.func110, Try.ntmps110
  go_wp2_with fail
  rw [← HW.out]
  refine L1.out.mono ?_
  rintro e w1 ⟨he, bb⟩
  rw [HS.out] at he
  subst he
  replace rR := rR.next bb
  replace bel := next_trans bel bb
  have y0 : w1.cell? ⟨w.heap.size + 1, 0, none⟩ = some (.slice none 0 0) := rR.cell 0
  have y1 : w1.cell? ⟨w.heap.size + 1, 1, none⟩ = some (.slice none 0 0) := rR.cell 1
  have f0 := rR.free 0
  have f1 := rR.free 1
  have r1 := rR.put 0 (.slice none 0 0)
  have y2 : (w1.setCell ⟨w.heap.size + 1, 0, none⟩ (.slice none 0 0)).cell? ⟨w.heap.size + 1, 1, none⟩ = some (.slice none 0 0) := r1.cell 1
  have f2 := r1.free 1
  have r2 := r1.put 1 (.slice none 0 0)
  have u0 : ((w1.setCell ⟨w.heap.size + 1, 0, none⟩ (.slice none 0 0)).setCell ⟨w.heap.size + 1, 1, none⟩ (.slice none 0 0)).cell? ⟨w.heap.size + 1, 0, none⟩ = some (.slice none 0 0) := r2.cell 0
  have u1 : ((w1.setCell ⟨w.heap.size + 1, 0, none⟩ (.slice none 0 0)).setCell ⟨w.heap.size + 1, 1, none⟩ (.slice none 0 0)).cell? ⟨w.heap.size + 1, 1, none⟩ = some (.slice none 0 0) := r2.cell 1
  have F : AnsPrec w (.slice A n c) (.slice R rn rc) false (.returned (.tuple #[.agg #[.slice none 0 0, .slice none 0 0], .bool false])) ((w1.setCell ⟨w.heap.size + 1, 0, none⟩ (.slice none 0 0)).setCell ⟨w.heap.size + 1, 1, none⟩ (.slice none 0 0)) :=
   ⟨rfl, (bel.setCell (by simp) _).setCell (by simp) _⟩
  have HF := Lib.hid F
  clear F bel rA rR bb r1 r2
  go_wp2
  exact bodyPost_ret (v := .tuple #[.agg #[.slice none 0 0, .slice none 0 0], .bool false]) (by simp [results, Try.results110, go_sem, u0, u1]) rfl HF.out
 | true =>
  have HS := Lib.hid ok1
  clear ok1
  go_enter Try.func110, Try.ntmps110
  go_wp2_with fail
  rw [← HW.out]
  refine L1.out.mono ?_
  rintro e w1 ⟨he, bb⟩
  rw [HS.out] at he
  subst he
  replace rR := rR.next bb
  replace rA := rA.next bb
  replace bel := next_trans bel bb
  have x0 : w1.cell? ⟨w.heap.size, 0, none⟩ = some (.slice A n c) := rA.cell 0
  have y0 : w1.cell? ⟨w.heap.size + 1, 0, none⟩ = some (.slice none 0 0) := rR.cell 0
  have y1 : w1.cell? ⟨w.heap.size + 1, 1, none⟩ = some (.slice none 0 0) := rR.cell 1
  have f0 := rR.free 0
  have f1 := rR.free 1
  have r1 := rR.put 0 (.slice A n c)
  have y2 : (w1.setCell ⟨w.heap.size + 1, 0, none⟩ (.slice A n c)).cell? ⟨w.heap.size + 1, 1, none⟩ = some (.slice none 0 0) := r1.cell 1
  have f2 := r1.free 1
  have r2 := r1.put 1 (.slice R rn rc)
  have u0 : ((w1.setCell ⟨w.heap.size + 1, 0, none⟩ (.slice A n c)).setCell ⟨w.heap.size + 1, 1, none⟩ (.slice R rn rc)).cell? ⟨w.heap.size + 1, 0, none⟩ = some (.slice A n c) := r2.cell 0
  have u1 : ((w1.setCell ⟨w.heap.size + 1, 0, none⟩ (.slice A n c)).setCell ⟨w.heap.size + 1, 1, none⟩ (.slice R rn rc)).cell? ⟨w.heap.size + 1, 1, none⟩ = some (.slice R rn rc) := r2.cell 1
  have F : AnsPrec w (.slice A n c) (.slice R rn rc) true (.returned (.tuple #[.agg #[.slice A n c, .slice R rn rc], .bool true])) ((w1.setCell ⟨w.heap.size + 1, 0, none⟩ (.slice A n c)).setCell ⟨w.heap.size + 1, 1, none⟩ (.slice R rn rc)) :=
   ⟨rfl, (bel.setCell (by simp) _).setCell (by simp) _⟩
  have HF := Lib.hid F
  clear F bel rA rR bb r1 r2
  go_wp2
  exact bodyPost_ret (v := .tuple #[.agg #[.slice A n c, .slice R rn rc], .bool true]) (by simp [results, Try.results110, go_sem, u0, u1]) rfl HF.out
end lpoPrec
end
section
open Go.Lib (hid)
namespace kboOk
open Go.RowKit base ints sig term termOk termFacts marks sym varsOf ruleSpec rankMath rankSpec lpoLink lpoPrec kboMath kboLink kboOft kboWt
set_option maxRecDepth 100000
theorem adm_val {sg sy rk : List Int} {v a y r : Int} {f : Nat} (ha : sg.getD f 0 = a) (hy : sy.getD f 0 = y) (hr : rk.getD f 0 = r) : admB sg v sy rk f = decide (0 ≤ y ∧ y ≤ 20 ∧ (a = 0 → v ≤ y) ∧ (a = 1 → y = 0 → r = (rk.length : Int) - 1)) := by
 unfold admB
 rw [ha, hy, hr]
structure R2 (w : World) (TA TB : TypeId) (ca cb : Array Value) (wr : World) : Prop where
 a : Row wr w.heap.size TA ca
 b : Row wr (w.heap.size + 1) TB cb
 l : Below w.heap.size w wr
theorem R2.next {w wr w' : World} {TA TB : TypeId} {ca cb : Array Value} (h : R2 w TA TB ca cb wr) (hb : Below wr.heap.size wr w') : R2 w TA TB ca cb w' := ⟨h.a.next hb, h.b.next hb, next_trans h.l hb⟩
theorem R2.drewN {w wr : World} {TA TB : TypeId} {ca cb : Array Value} (h : R2 w TA TB ca cb wr) (d : Nat) : R2 w TA TB ca cb (wr.drewN d) := ⟨h.a.drewN d, h.b.drewN d, below_drewN h.l d⟩
theorem r2_new (w : World) (TA TB : TypeId) (ca cb : Array Value) : ∃ W, W = (w.alloc (.cells ca TA)).alloc (.cells cb TB) ∧ R2 w TA TB ca cb W := by
 obtain ⟨W, h, a, b, l⟩ := box2 w TA TB ca cb
 exact ⟨W, h, a, b, l⟩
def HeadA (w : World) (TA TB : TypeId) (ca cb : Array Value) (n : Nat) (g : Nat → Bool) (i : Value) (wr : World) : Prop := ∃ k : Nat, k ≤ n ∧ i = .int .i64 k ∧ (∀ j, j < k → g j = true) ∧ R2 w TA TB ca cb wr
theorem headA_step {w wr : World} {TA TB : TypeId} {ca cb : Array Value} {n k : Nat} {g : Nat → Bool} (hk : k < n) (hlow : ∀ j, j < k → g j = true) (h : g k = true) (hr : R2 w TA TB ca cb wr) : HeadA w TA TB ca cb n g (.int .i64 ((k : Int) + 1)) wr :=
 ⟨k + 1, hk, by simp, fun j hj => by
  by_cases e : j = k
  ·rw [e]; exact h
  ·exact hlow j (by omega), hr⟩
set_option maxHeartbeats 8000000 in
theorem specWeightsOk (A Y R : Option Addr) (n c yn yc rn rc : Nat) (v : Int) (sg sy rk : List Int) (w : World) (hA : Seg w w.heap.size A n sg) (hY : Seg w w.heap.size Y yn sy) (hR : Seg w w.heap.size R rn rk) (hn : n ≤ 1048576) (hyn : yn ≤ 1048576) (hrn : rn ≤ 1048576) :
  Calls Try.prog 37 #[.agg #[.slice A n c], .agg #[.int .i64 v, .slice Y yn yc, .slice R rn rc]] w (AnsB w (wB sg v sy rk)) := by
 obtain ⟨W, hW, q⟩ := r2_new w 29 32 #[.slice A n c] #[.int .i64 v, .slice Y yn yc, .slice R rn rc]
 have HW := hid hW
 have HAL := hid hA.1
 have HYL := hid hY.1
 have HRL := hid hR.1
 have L1 := hid (specRankOk A R n c rn rc sg rk W (hA.next q.l) (hR.next q.l) hn hrn)
 have k0 : W.cell? ⟨w.heap.size, 0, none⟩ = some (.slice A n c) := q.a.cell 0
 have k1 : W.cell? ⟨w.heap.size + 1, 0, none⟩ = some (.int .i64 v) := q.b.cell 0
 have k2 : W.cell? ⟨w.heap.size + 1, 1, none⟩ = some (.slice Y yn yc) := q.b.cell 1
 have k3 : W.cell? ⟨w.heap.size + 1, 2, none⟩ = some (.slice R rn rc) := q.b.cell 2
 rw [hW] at k0 k1 k2 k3
 clear hW
 cases hp : precB sg rk with
 | false =>
  have HP := hid hp
  clear hp
  go_enter Try.func37, Try.ntmps37
  go_wp2_with fail
  rw [← HW.out]
  clear k0 k1 k2 k3
  refine L1.out.mono ?_
  rintro e w1 ⟨he, bb⟩
  rw [HP.out] at he
  subst he
  replace q := q.next bb
  clear bb L1
  have k0 : w1.cell? ⟨w.heap.size, 0, none⟩ = some (.slice A n c) := q.a.cell 0
  have k1 : w1.cell? ⟨w.heap.size + 1, 0, none⟩ = some (.int .i64 v) := q.b.cell 0
  have k2 : w1.cell? ⟨w.heap.size + 1, 1, none⟩ = some (.slice Y yn yc) := q.b.cell 1
  have F := hid (ansB (b := wB sg v sy rk) (a := false) (by rw [w_prec HP.out]) q.l)
  clear q
  go_wp2
  go_ret
  exact F.out
 | true =>
  have HP := hid hp
  clear hp
  go_enter Try.func37, Try.ntmps37
  go_wp2_with fail
  rw [← HW.out]
  clear k0 k1 k2 k3
  refine L1.out.mono ?_
  rintro e w1 ⟨he, bb⟩
  rw [HP.out] at he
  subst he
  replace q := q.next bb
  clear bb L1
  have k0 : w1.cell? ⟨w.heap.size, 0, none⟩ = some (.slice A n c) := q.a.cell 0
  have k1 : w1.cell? ⟨w.heap.size + 1, 0, none⟩ = some (.int .i64 v) := q.b.cell 0
  have k2 : w1.cell? ⟨w.heap.size + 1, 1, none⟩ = some (.slice Y yn yc) := q.b.cell 1
  by_cases hv : 1 ≤ v ∧ v ≤ 20
  case neg =>
   have HV := hid hv
   clear hv
   have F := hid (ansB (b := wB sg v sy rk) (a := false) (by rw [w_var HV.out]) q.l)
   clear q
   go_wp2_with (first
    | (go_at_call 85; refine (inNo _ _ _ _ HV.out).mono ?_; rintro e w2 ⟨rfl, rfl⟩))
   go_ret
   exact F.out
  have HV := hid hv
  clear hv
  by_cases hly : yn = n
  case neg =>
   have F := hid (ansB (b := wB sg v sy rk) (a := false) (by rw [w_len (by rw [HYL.out, HAL.out]; exact hly)]) q.l)
   have e1 : ((yn : Int) != (n : Int)) = true := by simp; omega
   clear q
   go_wp2_with (first
    | (go_at_call 85; refine (inYes _ _ _ _ HV.out).mono ?_; rintro e w2 ⟨rfl, rfl⟩))
   go_ret
   exact F.out
  subst hly
  have hrl : rn = yn := by
   have := (rank_parts (prec_parts HP.out).2).1
   rw [HAL.out, HRL.out] at this
   exact this
  subst hrl
  have e1 : ((rn : Int) != (rn : Int)) = false := by simp
  have H0 : Hid (HeadA w 29 32 #[.slice A rn c] #[.int .i64 v, .slice Y rn yc, .slice R rn rc] rn (admB sg v sy rk) (.int .i64 0) w1) := hid ⟨0, Nat.zero_le _, rfl, fun j hj => absurd hj (Nat.not_lt_zero _), q⟩
  clear q
  go_wp2_with (first
   | (go_at_call 85; refine (inYes _ _ _ _ HV.out).mono ?_; rintro e w2 ⟨rfl, rfl⟩))
  clear k0 k1 k2
  go_loopw [5] (fun i wr => HeadA w 29 32 #[.slice A rn c] #[.int .i64 v, .slice Y rn yc, .slice R rn rc] rn (admB sg v sy rk) i wr) (fun i _ => rn - (intOf i).toNat)
  case atStart => exact H0.out
  case round =>
   clear H0 e1
   obtain ⟨k, hk, rfl, hlow, q⟩ := hrel
   have HLOW := hid hlow
   clear hlow
   have k0 : wr.cell? ⟨w.heap.size, 0, none⟩ = some (.slice A rn c) := q.a.cell 0
   have k1 : wr.cell? ⟨w.heap.size + 1, 0, none⟩ = some (.int .i64 v) := q.b.cell 0
   have k2 : wr.cell? ⟨w.heap.size + 1, 1, none⟩ = some (.slice Y rn yc) := q.b.cell 1
   have k3 : wr.cell? ⟨w.heap.size + 1, 2, none⟩ = some (.slice R rn rc) := q.b.cell 2
   by_cases hlt : k < rn
   case neg =>
    have F := hid (ansB (b := wB sg v sy rk) (a := true) (by rw [w_yes HP.out HV.out (by rw [HYL.out, HAL.out]) (fun f hf => HLOW.out f (by have := HYL.out; omega))]) q.l)
    clear q
    go_wp2
    go_ret
    exact F.out
   obtain ⟨ba, oa, a, rfl, zA, ca, ea⟩ := hA.spot hlt
   obtain ⟨by_, oy, y, rfl, zY, cy, ey⟩ := hY.spot hlt
   obtain ⟨br, orr, r, rfl, zR, cr, er⟩ := hR.spot hlt
   have ca' : wr.cell? ⟨ba, oa + k, none⟩ = some (.int .i64 a) := (q.l.cell (p := ⟨ba, oa + k, none⟩) zA).trans ca
   have cy' : wr.cell? ⟨by_, oy + k, none⟩ = some (.int .i64 y) := (q.l.cell (p := ⟨by_, oy + k, none⟩) zY).trans cy
   have cr' : wr.cell? ⟨br, orr + k, none⟩ = some (.int .i64 r) := (q.l.cell (p := ⟨br, orr + k, none⟩) zR).trans cr
   clear ca cy cr zA zY zR
   have i0 : (0 : Int) ≤ (k : Int) := by omega
   have i1 : (k : Int) < (rn : Int) := by omega
   have AV := hid (adm_val (v := v) ea.out ey.out er.out)
   have Q := hid (fun dd => q.drewN dd)
   have hrk : (rk.length : Int) = (rn : Int) := by rw [HRL.out]
   have HRK := hid hrk
   clear q hrk
   by_cases hin : 0 ≤ y ∧ y ≤ 20
   case neg =>
    have HI := hid hin
    have F := hid (fun dd => ansB (w' := wr.drewN dd) (b := wB sg v sy rk) (a := false) (by rw [w_bad (f := k) (by rw [HYL.out]; exact hlt) (by rw [AV.out]; exact decide_eq_false (fun h => HI.out ⟨h.1, h.2.1⟩))]) (Q.out dd).l)
    clear hin
    go_wp2_with fail
    go_quiet ((go_at_call 85; exact Calls.quiet_of_same (v := .bool false) ((inNo _ _ _ _ HI.out).mono fun _ _ ⟨h1, h2⟩ => ⟨h2, h1.symm⟩)))
    go_wp2
    go_ret
    exact F.out _
   have HI := hid hin
   clear hin
   by_cases a0 : a = 0
   ·subst a0
    have ha : ((0 : Int) == 0) = true := by simp
    have ha1 : ((0 : Int) == 1) = false := by simp
    by_cases hyv : y < v
    ·have hd : decide (y < v) = true := decide_eq_true hyv
     have F := hid (fun dd => ansB (w' := wr.drewN dd) (b := wB sg v sy rk) (a := false) (by rw [w_bad (f := k) (by rw [HYL.out]; exact hlt) (by rw [AV.out, HRK.out]; exact decide_eq_false (fun h => by have := h.2.2.1 rfl; omega))]) (Q.out dd).l)
     go_wp2_with fail
     go_quiet ((go_at_call 85; exact Calls.quiet_of_same (v := .bool true) ((inYes _ _ _ _ HI.out).mono fun _ _ ⟨h1, h2⟩ => ⟨h2, h1.symm⟩)))
     go_wp2
     go_ret
     first
      | exact F.out _
      | (rw [World.drewN_drewN]; exact F.out _)
    ·have hd : decide (y < v) = false := decide_eq_false hyv
     have S1 := hid (fun dd => headA_step hlt HLOW.out (by rw [AV.out, HRK.out]; exact decide_eq_true ⟨HI.out.1, HI.out.2, fun _ => Int.not_lt.1 hyv, fun h => by omega⟩) (Q.out dd))
     go_wp2_with fail
     go_quiet ((go_at_call 85; exact Calls.quiet_of_same (v := .bool true) ((inYes _ _ _ _ HI.out).mono fun _ _ ⟨h1, h2⟩ => ⟨h2, h1.symm⟩)))
     go_wp2_with fail
     go_quiet (fail)
     go_wp2
     go_roundw
     case rel => exact S1.out _
     case measure => simp [intOf]; omega
   ·have ha : (a == 0) = false := by simp [a0]
    by_cases a1 : a = 1
    ·subst a1
     have ha1 : ((1 : Int) == 1) = true := by simp
     by_cases y0 : y = 0
     ·subst y0
      have hy0 : ((0 : Int) == 0) = true := by simp
      by_cases hr : r = (rn : Int) - 1
      ·have hd : (r != (rn : Int) - 1) = false := by simp [hr]
       have S1 := hid (fun dd => headA_step hlt HLOW.out (by rw [AV.out, HRK.out]; exact decide_eq_true ⟨HI.out.1, HI.out.2, fun h => by omega, fun _ _ => hr⟩) (Q.out dd))
       go_wp2_with fail
       go_quiet ((go_at_call 85; exact Calls.quiet_of_same (v := .bool true) ((inYes _ _ _ _ HI.out).mono fun _ _ ⟨h1, h2⟩ => ⟨h2, h1.symm⟩)))
       go_wp2_with fail
       go_quiet (fail)
       go_wp2
       go_roundw
       case rel => exact S1.out _
       case measure => simp [intOf]; omega
      ·have hd : (r != (rn : Int) - 1) = true := by simp [hr]
       have F := hid (fun dd => ansB (w' := wr.drewN dd) (b := wB sg v sy rk) (a := false) (by rw [w_bad (f := k) (by rw [HYL.out]; exact hlt) (by rw [AV.out, HRK.out]; exact decide_eq_false (fun h => hr (h.2.2.2 rfl rfl)))]) (Q.out dd).l)
       go_wp2_with fail
       go_quiet ((go_at_call 85; exact Calls.quiet_of_same (v := .bool true) ((inYes _ _ _ _ HI.out).mono fun _ _ ⟨h1, h2⟩ => ⟨h2, h1.symm⟩)))
       go_wp2_with fail
       go_quiet (fail)
       go_wp2
       go_ret
       first
        | exact F.out _
        | (rw [World.drewN_drewN]; exact F.out _)
     ·have hy0 : (y == 0) = false := by simp [y0]
      have S1 := hid (fun dd => headA_step hlt HLOW.out (by rw [AV.out, HRK.out]; exact decide_eq_true ⟨HI.out.1, HI.out.2, fun h => by omega, fun _ h => absurd h y0⟩) (Q.out dd))
      go_wp2_with fail
      go_quiet ((go_at_call 85; exact Calls.quiet_of_same (v := .bool true) ((inYes _ _ _ _ HI.out).mono fun _ _ ⟨h1, h2⟩ => ⟨h2, h1.symm⟩)))
      go_wp2_with fail
      go_quiet (fail)
      go_wp2
      go_roundw
      case rel => exact S1.out _
      case measure => simp [intOf]; omega
    ·have ha1 : (a == 1) = false := by simp [a1]
     have S1 := hid (fun dd => headA_step hlt HLOW.out (by rw [AV.out, HRK.out]; exact decide_eq_true ⟨HI.out.1, HI.out.2, fun h => absurd h a0, fun h => absurd h a1⟩) (Q.out dd))
     go_wp2_with fail
     go_quiet ((go_at_call 85; exact Calls.quiet_of_same (v := .bool true) ((inYes _ _ _ _ HI.out).mono fun _ _ ⟨h1, h2⟩ => ⟨h2, h1.symm⟩)))
     go_wp2_with fail
     go_quiet (fail)
     go_wp2
     go_roundw
     case rel => exact S1.out _
     case measure => simp [intOf]; omega
set_option maxHeartbeats 4000000 in
theorem admits (A R Y : Option Addr) (n c rc yc : Nat) (v : Int) (sg rk sy : List Int) (k : Nat) (w : World) (hA : Seg w w.heap.size A n sg) (hR : Seg w w.heap.size R n rk) (hY : Seg w w.heap.size Y n sy) (hn : n ≤ 1048576) (hk : k < n) :
  Calls Try.prog 111 #[.agg #[.slice A n c, .slice R n rc, .int .i64 v, .slice Y n yc], .int .i64 (k : Int)] w (AnsB w (admB sg v sy rk k)) := by
 obtain ⟨W, hW, rA, bel⟩ := box1 w 96 #[.slice A n c, .slice R n rc, .int .i64 v, .slice Y n yc]
 have HRL := hid hR.1
 obtain ⟨ba, oa, a, rfl, zA, ca, ea⟩ := (hA.next bel).spot hk
 obtain ⟨by_, oy, y, rfl, zY, cy, ey⟩ := (hY.next bel).spot hk
 obtain ⟨br, orr, r, rfl, zR, cr, er⟩ := (hR.next bel).spot hk
 have i0 : (0 : Int) ≤ (k : Int) := by omega
 have i1 : (k : Int) < (n : Int) := by omega
 have AV := hid (adm_val (v := v) ea.out ey.out er.out)
 have hrk : (rk.length : Int) = (n : Int) := by rw [HRL.out]
 rw [hrk] at AV
 have k0 : W.cell? ⟨w.heap.size, 0, none⟩ = some (.slice (some ⟨ba, oa, none⟩) n c) := rA.cell 0
 have k1 : W.cell? ⟨w.heap.size, 1, none⟩ = some (.slice (some ⟨br, orr, none⟩) n rc) := rA.cell 1
 have k2 : W.cell? ⟨w.heap.size, 2, none⟩ = some (.int .i64 v) := rA.cell 2
 have k3 : W.cell? ⟨w.heap.size, 3, none⟩ = some (.slice (some ⟨by_, oy, none⟩) n yc) := rA.cell 3
 have HW := hid hW
 have Q := hid (fun dd => below_drewN bel dd)
 rw [hW] at k0 k1 k2 k3 ca cy cr
 clear hW rA bel hA hR hY hrk
 by_cases h0 : y < 0
 ·have d0 : decide (y < 0) = true := decide_eq_true h0
  have F := hid (fun dd => ansB (w := w) (w' := W.drewN dd) (b := admB sg v sy rk k) (a := false) (by rw [AV.out]; symm; exact decide_eq_false (fun h => by omega)) (Q.out dd))
  rw [HW.out] at F
  go_enter Try.func111, Try.ntmps111
  go_wp2_with fail
  go_quiet (fail)
  go_wp2
  go_ret
  exact F.out _
 have d0 : decide (y < 0) = false := decide_eq_false h0
 by_cases h20 : 20 < y
 ·have d1 : decide (20 < y) = true := decide_eq_true h20
  have F := hid (fun dd => ansB (w := w) (w' := W.drewN dd) (b := admB sg v sy rk k) (a := false) (by rw [AV.out]; symm; exact decide_eq_false (fun h => by omega)) (Q.out dd))
  rw [HW.out] at F
  go_enter Try.func111, Try.ntmps111
  go_wp2_with fail
  go_quiet (fail)
  go_wp2
  go_ret
  exact F.out _
 have d1 : decide (20 < y) = false := decide_eq_false h20
 by_cases a0 : a = 0
 ·subst a0
  have e0 : ((0 : Int) == 0) = true := by simp
  by_cases hv : v ≤ y
  ·have d2 : decide (v ≤ y) = true := decide_eq_true hv
   have F := hid (fun dd => ansB (w := w) (w' := W.drewN dd) (b := admB sg v sy rk k) (a := true) (by rw [AV.out]; symm; exact decide_eq_true ⟨by omega, by omega, fun _ => hv, fun h => by omega⟩) (Q.out dd))
   rw [HW.out] at F
   go_enter Try.func111, Try.ntmps111
   go_wp2_with fail
   go_quiet (fail)
   go_wp2
   go_ret
   exact F.out _
  ·have d2 : decide (v ≤ y) = false := decide_eq_false hv
   have F := hid (fun dd => ansB (w := w) (w' := W.drewN dd) (b := admB sg v sy rk k) (a := false) (by rw [AV.out]; symm; exact decide_eq_false (fun h => hv (h.2.2.1 rfl))) (Q.out dd))
   rw [HW.out] at F
   go_enter Try.func111, Try.ntmps111
   go_wp2_with fail
   go_quiet (fail)
   go_wp2
   go_ret
   exact F.out _
 ·have e0 : (a == 0) = false := by simp [a0]
  by_cases a1 : a = 1
  ·subst a1
   have e1 : ((1 : Int) == 1) = true := by simp
   by_cases y0 : 0 < y
   ·have d2 : decide (0 < y) = true := decide_eq_true y0
    have F := hid (fun dd => ansB (w := w) (w' := W.drewN dd) (b := admB sg v sy rk k) (a := true) (by rw [AV.out]; symm; exact decide_eq_true ⟨by omega, by omega, fun h => by omega, fun _ h => by omega⟩) (Q.out dd))
    rw [HW.out] at F
    go_enter Try.func111, Try.ntmps111
    go_wp2_with fail
    go_quiet (fail)
    go_wp2
    go_ret
    exact F.out _
   ·have d2 : decide (0 < y) = false := decide_eq_false y0
    by_cases hr : r = (n : Int) - 1
    ·have d3 : (r == (n : Int) - 1) = true := by simp [hr]
     have F := hid (fun dd => ansB (w := w) (w' := W.drewN dd) (b := admB sg v sy rk k) (a := true) (by rw [AV.out]; symm; exact decide_eq_true ⟨by omega, by omega, fun h => by omega, fun _ _ => hr⟩) (Q.out dd))
     rw [HW.out] at F
     go_enter Try.func111, Try.ntmps111
     go_wp2_with fail
     go_quiet (fail)
     go_wp2
     go_ret
     exact F.out _
    ·have d3 : (r == (n : Int) - 1) = false := by simp [hr]
     have F := hid (fun dd => ansB (w := w) (w' := W.drewN dd) (b := admB sg v sy rk k) (a := false) (by rw [AV.out]; symm; exact decide_eq_false (fun h => hr (h.2.2.2 rfl (by omega)))) (Q.out dd))
     rw [HW.out] at F
     go_enter Try.func111, Try.ntmps111
     go_wp2_with fail
     go_quiet (fail)
     go_wp2
     go_ret
     exact F.out _
  ·have e1 : (a == 1) = false := by simp [a1]
   have F := hid (fun dd => ansB (w := w) (w' := W.drewN dd) (b := admB sg v sy rk k) (a := true) (by rw [AV.out]; symm; exact decide_eq_true ⟨by omega, by omega, fun h => absurd h a0, fun h => absurd h a1⟩) (Q.out dd))
   rw [HW.out] at F
   go_enter Try.func111, Try.ntmps111
   go_wp2_with fail
   go_quiet (fail)
   go_wp2
   go_ret
   exact F.out _
end kboOk
end
end Go.Proofs.Ytiimbmkofpnebaa
