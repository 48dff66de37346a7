/-
  MERGED: my texts RankSpec, Dice, DrawSig, DrawTerm, DrawAny, DrawX, Stk, PartsSpec, KboLink, AnyJ, TabR, Inside, Plain, PlainOf, MatchSpec, Whole, KboOft, KboWt, LpoPrec, KboOk, KboScale, KboFun, Shape3, KindsK, KboX, KboLight, PathSpec, KboPlain, KboXB, WLightestOf, one behind the other, as they are. By an AI agent.
-/
import Derived.Test.YtiimbmkofpnebaaMFnExactLightestOf1
import Derived.BigQuiet
import Derived.Deep.LoopGhost
import Derived.Deep.AppendLies
import Derived.Deep.RegionLaw
import Derived.Deep.RegionHeld3
import Derived.Deep.Onto
import Derived.Deep.QuietTactic
import Derived.Deep.DeepMust
import Derived.Laws.Rows
import Derived.Laws.ResultCell
import Derived.Deep.WholeRow
namespace Go.Proofs.Ytiimbmkofpnebaa
section
open Go.Lib (hid)
namespace rankSpec
open Go.RowKit base ints sig term rankMath shape kindsR ruleMath ruleSpec ruleImpl
set_option maxRecDepth 100000
def precB (sg rk : List Int) : Bool := sigOkB sg && rankB sg.length rk
theorem prec_sig {sg rk : List Int} (h : sigOkB sg = false) : precB sg rk = false := by unfold precB; rw [h]; rfl
theorem prec_rank {sg rk : List Int} (h : rankB sg.length rk = false) : precB sg rk = false := by unfold precB; rw [h, Bool.and_false]
theorem prec_yes {sg rk : List Int} (h : sigOkB sg = true) (h2 : rankB sg.length rk = true) : precB sg rk = true := by unfold precB; rw [h, h2]; rfl
theorem prec_parts {sg rk : List Int} (h : precB sg rk = true) : sigOkB sg = true ∧ rankB sg.length rk = true := by unfold precB at h; rwa [Bool.and_eq_true] at h
def AnsRank (w : World) (sg rk : List Int) (e : Ending) (w' : World) : Prop := e = .returned (.bool (precB sg rk)) ∧ Below w.heap.size w w'
set_option maxHeartbeats 4000000 in
theorem specRankOk (A A' : Option Addr) (n c m c' : Nat) (sg rk : List Int) (w : World) (h : Seg w w.heap.size A n sg) (h' : Seg w w.heap.size A' m rk) (hn : n ≤ 1048576) (hm : m ≤ 1048576) :
  Calls Try.prog 84 #[.agg #[.slice A n c], .slice A' m c'] w (AnsRank w sg rk) := by
 have HL := hid (And.intro h.1 h'.1)
 obtain ⟨W, hW, rA, bel⟩ := box1 w 29 #[.slice A n c]
 have k0 : W.cell? ⟨w.heap.size, 0, none⟩ = some (.slice A n c) := rA.cell 0
 rw [hW] at k0
 have HW := hid hW
 have L1 := hid (specSigOk A n c sg W ((h.below bel).more bel.size) hn)
 have SR := hid (fun (w1 : World) (bb : Below w.heap.size w w1) => (h'.below bb).more bb.size)
 obtain ⟨bs, hbs⟩ : ∃ b, sigOkB sg = b := ⟨_, rfl⟩
 have HS := hid hbs
 clear hW h h' hbs
 go_enter Try.func84, Try.ntmps84
 go_wp2_with fail
 rw [← HW.out]
 refine L1.out.mono ?_
 rintro e w1 ⟨he, bb⟩
 rw [HS.out] at he
 subst he
 replace bel := next_trans bel bb
 replace rA := rA.next bb
 clear k0 L1 bb HW
 cases bs with
 | false =>
  have F := hid (show AnsRank w sg rk (.returned (.bool false)) w1 from ⟨by rw [prec_sig HS.out], bel⟩)
  clear bel rA
  go_wp2
  go_ret
  exact F.out
 | true =>
  have k0 : w1.cell? ⟨w.heap.size, 0, none⟩ = some (.slice A n c) := rA.cell 0
  by_cases hmn : m = n
  ·subst hmn
   have S0 := hid bel
   clear bel rA
   go_wp2_with fail
   go_loopg [5] m (fun g i wr => ∃ j : Nat, i = .int .i64 (j : Int) ∧ j + g = m ∧ (∀ k : Nat, k < j → (0 ≤ rk.getD k 0 ∧ rk.getD k 0 ≤ (rk.length : Int) - 1) ∧ ∀ l : Nat, l < k → ¬ rk.getD l 0 = rk.getD k 0) ∧ Below w.heap.size w wr)
   case atStart => exact ⟨0, rfl, by omega, (fun k hk => absurd hk (Nat.not_lt_zero _)), S0.out⟩
   case round =>
    clear S0 k0
    obtain ⟨j, rfl, hj, hall, bel⟩ := hrel
    obtain ⟨G, hG⟩ : ∃ G, G = gk := ⟨_, rfl⟩
    subst hG
    have HA := hid hall
    clear hall
    by_cases hlt : j < m
    ·obtain ⟨b, off, x, rfl, hbB, hx, ex⟩ := (SR.out wr bel).spot hlt
     have HB := hid bel
     have i0 : (0 : Int) ≤ (j : Int) := by omega
     have i1 : (j : Int) < (m : Int) := by omega
     have HJ := hid hj
     clear bel hj
     by_cases hin : 0 ≤ x ∧ x ≤ (m : Int) - 1
     ·have HI := hid hin
      clear hin
      go_wp2_with (first
       | (go_at_call 85; refine (inYes _ _ _ _ HI.out).mono ?_; rintro e w2 ⟨rfl, rfl⟩))
      clear hx
      go_loopg [6] j (fun g i W2 => ∃ k : Nat, i = .int .i64 (k : Int) ∧ k + g = j ∧ (∀ l : Nat, l < k → ¬ rk.getD l 0 = rk.getD j 0) ∧ Below w.heap.size w W2)
      case atStart => exact ⟨0, rfl, by omega, (fun l hl => absurd hl (Nat.not_lt_zero _)), HB.out⟩
      case round =>
       clear HB
       obtain ⟨k, rfl, hkj, hlow, bel⟩ := hrel
       have HLOW := hid hlow
       clear hlow
       obtain ⟨b', off', x', e', hbB', hx', ex'⟩ := (SR.out _ bel).spot hlt
       injection e' with e'
       injection e' with e1 e2
       subst e1 e2
       have exx : x' = x := by rw [← ex'.out, ← ex.out]
       subst exx
       by_cases hk : k < j
       ·obtain ⟨b2, off2, y, e2, -, hy, ey⟩ := (SR.out _ bel).spot (show k < m by omega)
        injection e2 with e2
        injection e2 with e21 e22
        subst e21 e22
        have HB := hid bel
        have HK := hid hkj
        have q0 : (0 : Int) ≤ (k : Int) := by omega
        have q1 : (k : Int) < (m : Int) := by omega
        have q2 : (k : Int) < (j : Int) := by omega
        clear hkj bel
        by_cases hxy : y = x'
        ·subst hxy
         have F := hid (fun dd => (show AnsRank w sg rk (.returned (.bool false)) (wr.drewN dd) from ⟨by rw [prec_rank (rank_twice (i := j) (k := k) (by rw [HL.out.2]; exact hlt) hk (by rw [ey.out, ex.out]))], below_drewN HB.out dd⟩))
         go_wp2_with fail
         go_quiet (fail)
         go_wp2
         go_ret
         exact F.out _
        ·have S2 := hid (show ∀ l : Nat, l < k + 1 → ¬ rk.getD l 0 = rk.getD j 0 from fun l hl => by
          by_cases e : l = k
          ·rw [e, ey.out, ex.out]; exact hxy
          ·exact HLOW.out l (by omega))
         have S3 := hid (fun dd => below_drewN HB.out dd)
         have e9 : (y == x') = false := by simp [hxy]
         go_wp2_with fail
         go_quiet (fail)
         go_wp2
         go_roundg (gk - 1)
         case measure => have := HK.out; omega
         case rel => exact ⟨k + 1, by simp, by have := HK.out; omega, S2.out, S3.out _⟩
       ·have hkj' : k = j := by omega
        subst hkj'
        have HB := hid bel
        clear bel
        have S1 := hid (show ∀ k' : Nat, k' < k + 1 → (0 ≤ rk.getD k' 0 ∧ rk.getD k' 0 ≤ (rk.length : Int) - 1) ∧ ∀ l : Nat, l < k' → ¬ rk.getD l 0 = rk.getD k' 0 from fun k' hk' => by
         by_cases e : k' = k
         ·rw [e]
          refine ⟨?_, HLOW.out⟩
          rw [ex.out, HL.out.2]
          exact HI.out
         ·exact HA.out k' (by omega))
        go_wp2
        go_roundg (G - 1)
        case measure => have := HJ.out; omega
        case rel => exact ⟨k + 1, by simp, by have := HJ.out; omega, S1.out, HB.out⟩
     ·have F := hid (show AnsRank w sg rk (.returned (.bool false)) wr from ⟨by rw [prec_rank (rank_out (i := j) (by rw [HL.out.2]; exact hlt) (by rw [ex.out, HL.out.2]; exact hin))], HB.out⟩)
      have HI := hid hin
      clear hin
      go_wp2_with (first
       | (go_at_call 85; refine (inNo _ _ _ _ HI.out).mono ?_; rintro e w2 ⟨rfl, rfl⟩))
      go_wp2
      go_ret
      exact F.out
    ·have F := hid (show AnsRank w sg rk (.returned (.bool true)) wr from ⟨by rw [prec_yes HS.out (rank_spec (by rw [HL.out.1, HL.out.2]) (fun i hi => (HA.out i (by rw [HL.out.2] at hi; omega)).1) fun i k hi hk => (HA.out i (by rw [HL.out.2] at hi; omega)).2 k hk)], bel⟩)
     clear bel
     go_wp2
     go_ret
     exact F.out
  ·have F := hid (show AnsRank w sg rk (.returned (.bool false)) w1 from ⟨by rw [prec_rank (rank_len (by rw [HL.out.1, HL.out.2]; exact hmn))], bel⟩)
   have hne : ¬ (m : Int) = (n : Int) := by omega
   clear bel rA
   go_wp2
   go_ret
   exact F.out
set_option maxHeartbeats 2000000 in
theorem implRankOk (A A' : Option Addr) (n c m c' : Nat) (sg rk : List Int) (w : World) (h : Seg w w.heap.size A n sg) (h' : Seg w w.heap.size A' m rk) (hn : n ≤ 1048576) (hm : m ≤ 1048576) :
  Calls Try.prog 140 #[.agg #[.slice A n c], .slice A' m c'] w (AnsRank w sg rk) := by
 have HL := hid (And.intro h.1 h'.1)
 obtain ⟨W, hW, rA, bel⟩ := box1 w 29 #[.slice A n c]
 have k0 : W.cell? ⟨w.heap.size, 0, none⟩ = some (.slice A n c) := rA.cell 0
 rw [hW] at k0
 have HW := hid hW
 have L1 := hid (implSigOk A n c sg W ((h.below bel).more bel.size) hn)
 have L2 := hid (fun (w1 : World) (bb : Below w.heap.size w w1) (x : Int) => containsI A' m c' rk x w1 ((h'.below bb).more bb.size) hm)
 obtain ⟨bs, hbs⟩ : ∃ b, sigOkB sg = b := ⟨_, rfl⟩
 have HS := hid hbs
 clear hW h h' hbs
 go_enter Try.func140, Try.ntmps140
 go_wp2_with fail
 rw [← HW.out]
 refine L1.out.mono ?_
 rintro e w1 ⟨he, bb⟩
 rw [HS.out] at he
 subst he
 replace bel := next_trans bel bb
 replace rA := rA.next bb
 clear k0 L1 bb HW
 cases bs with
 | false =>
  have F := hid (show AnsRank w sg rk (.returned (.bool false)) w1 from ⟨by rw [prec_sig HS.out], bel⟩)
  clear bel rA
  go_wp2
  go_ret
  exact F.out
 | true =>
  have k0 : w1.cell? ⟨w.heap.size, 0, none⟩ = some (.slice A n c) := rA.cell 0
  by_cases hmn : m = n
  ·subst hmn
   have S0 := hid bel
   clear bel rA
   go_wp2_with fail
   go_loopw [19] (fun i wr => ∃ j : Nat, i = .int .i64 (j : Int) ∧ j ≤ m ∧ (∀ k : Nat, k < j → (k : Int) ∈ rk) ∧ Below w.heap.size w wr) (fun i _ => m - (intOf i).toNat)
   case atStart => exact ⟨0, rfl, Nat.zero_le _, (fun k hk => absurd hk (Nat.not_lt_zero _)), S0.out⟩
   case round =>
    clear S0 k0
    obtain ⟨j, rfl, hj, hall, bel⟩ := hrel
    have HA := hid hall
    clear hall
    by_cases hlt : j < m
    ·have LL := hid (L2.out wr bel (j : Int))
     have HB := hid bel
     have i0 : (0 : Int) ≤ (j : Int) := by omega
     have i1 : (j : Int) < (m : Int) := by omega
     clear bel
     by_cases hin : (j : Int) ∈ rk
     ·have S1 := hid (show ∀ k : Nat, k < j + 1 → (k : Int) ∈ rk from fun k hk => by
       by_cases e : k = j
       ·rw [e]; exact hin
       ·exact HA.out k (by omega))
      have e1 : decide ((j : Int) ∈ rk) = true := decide_eq_true hin
      rw [e1] at LL
      clear e1 hin
      go_wp2_with (first
       | (go_at_call 152; refine LL.out.mono ?_; rintro e w2 ⟨rfl, rfl⟩))
      go_wp2
      go_roundw
      case rel => exact ⟨j + 1, by simp, hlt, S1.out, HB.out⟩
      case measure => simp [intOf]; omega
     ·have F := hid (show AnsRank w sg rk (.returned (.bool false)) wr from ⟨by rw [prec_rank (rank_miss (k := j) (by rw [HL.out.2]; exact hlt) hin)], HB.out⟩)
      have e1 : decide ((j : Int) ∈ rk) = false := decide_eq_false hin
      rw [e1] at LL
      clear e1 hin
      go_wp2_with (first
       | (go_at_call 152; refine LL.out.mono ?_; rintro e w2 ⟨rfl, rfl⟩))
      go_wp2
      go_ret
      exact F.out
    ·have F := hid (show AnsRank w sg rk (.returned (.bool true)) wr from ⟨by rw [prec_yes HS.out (rank_yes (by rw [HL.out.1, HL.out.2]) fun k hk => HA.out k (by rw [HL.out.2] at hk; omega))], bel⟩)
     clear bel
     go_wp2
     go_ret
     exact F.out
  ·have F := hid (show AnsRank w sg rk (.returned (.bool false)) w1 from ⟨by rw [prec_rank (rank_len (by rw [HL.out.1, HL.out.2]; exact hmn))], bel⟩)
   have hne : ¬ (m : Int) = (n : Int) := by omega
   clear bel rA
   go_wp2
   go_ret
   exact F.out
end rankSpec
end
section
namespace dice
open Go.RowKit base ints cursor
section
variable {w w' : World} {p : Nat} {A : Option Addr} {n c i : Nat} {h : Int}
end
end dice
end
section
namespace drawSig
open Go.RowKit base ints sig cursor marks app sym dice
set_option maxRecDepth 100000
section
variable {w : World} {p : Nat} {A : Option Addr} {n c v : Nat} {wr : World} {O : Option Addr} {on oc : Nat} {xs : List Int}
end
def Short (xs : List Int) : Prop := xs.length ≤ 9
end drawSig
end
section
namespace drawTerm
open Go.RowKit base ints sig term cursor marks app sym dice drawSig
set_option maxRecDepth 100000
def Rd (w : World) (p B : Nat) (A : Option Addr) (n : Nat) (xs : List Int) : Prop :=
 xs.length = n ∧ (0 < n → ∃ b off, A = some ⟨b, off, none⟩ ∧ b < B ∧ b ≠ p ∧ ∀ j, j < n → w.cell? ⟨b, off + j, none⟩ = some (.int .i64 (xs.getD j 0)))
theorem Rd.more {w : World} {p B B' : Nat} {A : Option Addr} {n : Nat} {xs : List Int} (h : Rd w p B A n xs) (hB : B ≤ B') : Rd w p B' A n xs :=
 ⟨h.1, fun hn => by obtain ⟨b, off, e, hb, hne, hc⟩ := h.2 hn; exact ⟨b, off, e, by omega, hne, hc⟩⟩
theorem Rd.keep {w w' : World} {p B : Nat} {A : Option Addr} {n : Nat} {xs : List Int} (h : Rd w p B A n xs) (hk : ∀ q : Addr, q.block < B → q.block ≠ p → w'.cell? q = w.cell? q) : Rd w' p B A n xs :=
 ⟨h.1, fun hn => by obtain ⟨b, off, e, hb, hne, hc⟩ := h.2 hn; exact ⟨b, off, e, hb, hne, fun j hj => (hk ⟨b, off + j, none⟩ hb hne).trans (hc j hj)⟩⟩
theorem Rd.below {w w' : World} {p B B' : Nat} {A : Option Addr} {n : Nat} {xs : List Int} (h : Rd w p B A n xs) (hb : Below B' w w') (hB : B ≤ B') : Rd w' p B A n xs :=
 h.keep fun q hq _ => hb.cell (by omega)
section
variable {w : World} {p : Nat} {A : Option Addr} {n c : Nat} {S : Option Addr} {sn sc : Nat} {sg : List Int} {wr w' : World}
end
end drawTerm
end
section
namespace drawAny
open Go.RowKit base ints sig term cursor termOk marks app sym dice drawSig drawTerm
set_option maxRecDepth 100000
theorem Own.cap {w : World} {base : Nat} {O : Option Addr} {on oc : Nat} {xs : List Int} (h : Own w base (.slice O on oc) xs) : on ≤ oc ∧ oc ≤ 9223372036854775807 := by
 rcases h.2 with ⟨e, _⟩ | ⟨g, cap, cur, e, _, _, h1, h2, _⟩
 ·injection e with _ e1 e2; omega
 ·injection e with _ e1 e2
  have := Own.len h
  unfold maxLen at h2
  omega
end drawAny
end
section
namespace drawX
open Go.RowKit base ints sig cursor marks app appAt sym segs shape dice
def RdQ (w : World) (Q : Nat → Prop) : (s : Sh) → List Value → Dat s → Prop
 | .num, cs, (x : Int) => cs = [.int .i64 x]
 | .bit, cs, (x : Bool) => cs = [.bool x]
 | .row _ s, cs, (d : List (Dat s)) => ∃ A n c, cs = [.slice A n c] ∧ Cap A n c ∧ d.length = n ∧
   (0 < n → ∃ b off, A = some ⟨b, off, none⟩ ∧ Q b ∧ ∀ j, j < n → ∃ es, es.length = nc s ∧ Piece w b (off + j * nc s) es ∧ RdQ w Q s es (d.getD j (dft s)))
 | .cat a b, cs, d => ∃ ca cb, cs = ca ++ cb ∧ RdQ w Q a ca d.1 ∧ RdQ w Q b cb d.2
section
variable {w w' : World} {Q Q' : Nat → Prop} {B : Nat}
theorem RdQ.keep (hk : ∀ b, Q b → w'.heap[b]? = w.heap[b]?) : ∀ {s : Sh} {cs : List Value} {d : Dat s}, RdQ w Q s cs d → RdQ w' Q s cs d
 | .num, _, _, h => h
 | .bit, _, _, h => h
 | .row _ s, _, _, h => by
  obtain ⟨A, n, c, e, hc, hl, h1⟩ := h
  refine ⟨A, n, c, e, hc, hl, fun hn => ?_⟩
  obtain ⟨b, off, e2, hb, h2⟩ := h1 hn
  refine ⟨b, off, e2, hb, fun j hj => ?_⟩
  obtain ⟨es, he, hp, hr⟩ := h2 j hj
  exact ⟨es, he, hp.keep (fun p hp => World.cell?_of_block (by rw [hp]; exact hk b hb)), hr.keep hk⟩
 | .cat a b, _, _, h => by
  obtain ⟨ca, cb, e, h1, h2⟩ := h
  exact ⟨ca, cb, e, h1.keep hk, h2.keep hk⟩
theorem RdQ.len : ∀ {s : Sh} {cs : List Value} {d : Dat s}, RdQ w Q s cs d → cs.length = nc s
 | .num, _, _, h => by have h : _ = _ := h; rw [h]; rfl
 | .bit, _, _, h => by have h : _ = _ := h; rw [h]; rfl
 | .row _ _, _, _, h => by obtain ⟨A, n, c, e, _⟩ := h; rw [e]; rfl
 | .cat a b, _, _, h => by
  obtain ⟨ca, cb, e, h1, h2⟩ := h
  rw [e, List.length_append, h1.len, h2.len]; rfl
theorem RdQ.cat {a b : Sh} {ca cb : List Value} {x : Dat a} {y : Dat b} (h1 : RdQ w Q a ca x) (h2 : RdQ w Q b cb y) : RdQ w Q (.cat a b) (ca ++ cb) (x, y) := ⟨ca, cb, rfl, h1, h2⟩
end
def OutR (w : World) (p : Nat) (r : Option Nat) (b : Nat) : Prop := b < w.heap.size ∧ b ≠ p ∧ some b ≠ r
section
variable {w w' : World} {p : Nat} {r : Option Nat} {s : Sh} {cs : List Value} {d : Dat s}
end
def cellsOf (k : Nat) (vs : List Value) (j : Nat) : List Value := (vs.drop (j * k)).take k
def OwnQ (w : World) (p lo : Nat) (e : TypeId) (s : Sh) (A : Option Addr) (n c : Nat) (D : List (Dat s)) : Prop :=
 D.length = n ∧ ∃ vs : List Value, w.ownsRow lo e (nc s) (.slice A n c) n vs ∧ ∀ j, j < n → RdQ w (OutR w p (blk A)) s (cellsOf (nc s) vs j) (D.getD j (dft s))
section
variable {w w' : World} {p lo n c : Nat} {e : TypeId} {s : Sh} {A : Option Addr} {D : List (Dat s)}
theorem OwnQ.nil (w : World) (p lo : Nat) (e : TypeId) (s : Sh) : OwnQ w p lo e s none 0 0 [] := ⟨rfl, [], ⟨by simp, .inl ⟨rfl, rfl⟩⟩, fun j hj => absurd hj (Nat.not_lt_zero _)⟩
end
end drawX
end
section
namespace stk
open Go.RowKit base ints marks app sym appAt segs segsMark kinds shape drawX
set_option maxRecDepth 100000
def Stk (w : World) (Q : Nat → Prop) (lo : Nat) (A : Option Addr) (n c : Nat) (D : List (List Int)) : Prop :=
 D.length = n ∧ ∃ vs : List Value, w.ownsRow lo 27 1 (.slice A n c) n vs ∧ ∀ j, j < n → RdQ w Q sI [vs.getD j undef] (D.getD j [])
section
variable {w w' : World} {Q Q' : Nat → Prop} {lo n c : Nat} {A : Option Addr} {D : List (List Int)}
theorem Stk.nil (w : World) (Q : Nat → Prop) (lo : Nat) : Stk w Q lo none 0 0 [] := ⟨rfl, [], World.ownsRow_nil w lo _ _, fun j hj => absurd hj (Nat.not_lt_zero j)⟩
end
end stk
end
section
namespace partsSpec
open Go.RowKit base ints sig term arity endOf marks app segs kinds shape drawX forest stk
set_option maxRecDepth 100000
theorem Fo.le {sg : List Int} {q : Nat} {l : List Int} (h : Fo sg q l) : q ≤ l.length := by
 induction h with
 | nil => exact Nat.zero_le _
 | var x r q h h1 ih => simp; exact ih
 | app x r q h h2 h1 ih => simp; omega
end partsSpec
end
section
namespace kboLink
open sig term termOk forest partsSpec lpoMath lpoLink rankMath rankSpec kboMath
def admB (sg : List Int) (v : Int) (sy rk : List Int) (f : Nat) : Bool :=
 decide (0 ≤ sy.getD f 0 ∧ sy.getD f 0 ≤ 20 ∧ (sg.getD f 0 = 0 → v ≤ sy.getD f 0) ∧ (sg.getD f 0 = 1 → sy.getD f 0 = 0 → rk.getD f 0 = (rk.length : Int) - 1))
def wB (sg : List Int) (v : Int) (sy rk : List Int) : Bool := precB sg rk && (decide (1 ≤ v ∧ v ≤ 20) && (decide (sy.length = sg.length) && (List.range sy.length).all (admB sg v sy rk)))
variable {sg sy rk : List Int} {v : Int}
theorem w_prec (h : precB sg rk = false) : wB sg v sy rk = false := by unfold wB; rw [h]; rfl
theorem w_var (h : ¬ (1 ≤ v ∧ v ≤ 20)) : wB sg v sy rk = false := by unfold wB; rw [decide_eq_false h]; simp
theorem w_len (h : ¬ sy.length = sg.length) : wB sg v sy rk = false := by unfold wB; rw [decide_eq_false h]; simp
theorem w_bad {f : Nat} (hf : f < sy.length) (h : admB sg v sy rk f = false) : wB sg v sy rk = false := by
 have : (List.range sy.length).all (admB sg v sy rk) = false := by
  rw [List.all_eq_false]
  exact ⟨f, List.mem_range.2 hf, by rw [h]; decide⟩
 unfold wB
 rw [this]
 simp
theorem w_yes (h1 : precB sg rk = true) (h2 : 1 ≤ v ∧ v ≤ 20) (h3 : sy.length = sg.length) (h4 : ∀ f, f < sy.length → admB sg v sy rk f = true) : wB sg v sy rk = true := by
 unfold wB
 rw [h1, decide_eq_true h2, decide_eq_true h3]
 simp only [Bool.true_and]
 rw [List.all_eq_true]
 intro f hf
 exact h4 f (List.mem_range.1 hf)
theorem w_parts (h : wB sg v sy rk = true) : precB sg rk = true ∧ (1 ≤ v ∧ v ≤ 20) ∧ sy.length = sg.length ∧ ∀ f, f < sy.length → admB sg v sy rk f = true := by
 unfold wB at h
 simp only [Bool.and_eq_true, decide_eq_true_iff, List.all_eq_true] at h
 exact ⟨h.1, h.2.1, h.2.2.1, fun f hf => h.2.2.2 f (List.mem_range.2 hf)⟩
end kboLink
end
section
namespace anyJ
open Go.RowKit base ints sig anyR
set_option maxRecDepth 100000
end anyJ
end
section
namespace whole
open Go.RowKit base segs matchMath
set_option maxRecDepth 100000
section
variable {w w' : World} {B B' g : Nat} {cs : Array Value} {s : List (List Int)} {t : TypeId}
end
end whole
end
section
namespace inside
open Go.RowKit base ints sig term arity endOf cursor termOk endAt
set_option maxRecDepth 100000
structure Fr (w wr : World) (A : Option Addr) (n c : Nat) (sg : List Int) (A' : Option Addr) (m : Nat) (t : List Int) : Prop where
 r : Row wr w.heap.size 29 #[.slice A n c]
 s : Seg wr w.heap.size A n sg
 s' : Seg wr w.heap.size A' m t
 b : Below w.heap.size w wr
section
variable {w wr w' : World} {A : Option Addr} {n c : Nat} {sg : List Int} {A' : Option Addr} {m : Nat} {t : List Int}
theorem Fr.over (f : Fr w wr A n c sg A' m t) (hb : Below (w.heap.size + 1) wr w') : Fr w w' A n c sg A' m t :=
 have b : Below w.heap.size wr w' := hb.mono (Nat.le_succ _)
 ⟨f.r.below hb (Nat.lt_succ_self _), f.s.below b, f.s'.below b, f.b.trans b⟩
theorem Fr.s1 (f : Fr w wr A n c sg A' m t) : Seg wr wr.heap.size A n sg := f.s.more (Nat.le_of_lt f.r.lt)
theorem Fr.t1 (f : Fr w wr A n c sg A' m t) : Seg wr wr.heap.size A' m t := f.s'.more (Nat.le_of_lt f.r.lt)
theorem Fr.size (f : Fr w wr A n c sg A' m t) : w.heap.size < wr.heap.size := f.r.lt
end
end inside
end
section
namespace plain
open Go.RowKit base ints cursor same marks app appAt sym sub segs segsHelp kinds fillMath Go.Proofs.Ytiimbmkofpnebaa.look plainMath
set_option maxRecDepth 100000
end plain
end
section
namespace plainOf
open Go.RowKit base ints sig cursor marks app appAt sym sub segs segsHelp kinds varsOf fillMath Go.Proofs.Ytiimbmkofpnebaa.look substOk gives plainMath plain
set_option maxRecDepth 100000
end plainOf
end
section
namespace matchSpec
open Go.RowKit base ints sig same term termOk endAt inside marks app sym sub segs segsHelp termFacts termMath posMath plainMath plain plainOf gives cursor matchMath
set_option maxRecDepth 100000
structure Tab (w : World) (T : Nat) (s : List (List Int)) : Prop where
 len : s.length = 24
 row : ∃ cs, Row w T 27 cs ∧ cs.size = 24 ∧ ∀ j, j < 24 → ∃ A n c, cs[j]? = some (.slice A n c) ∧ Own w (T + 1) (.slice A n c) (s.getD j [])
section
variable {w w' : World} {T : Nat} {s : List (List Int)}
theorem Tab.at (h : Tab w T s) {j : Nat} (hj : j < 24) : ∃ A n c, w.cell? ⟨T, j, none⟩ = some (.slice A n c) ∧ Own w (T + 1) (.slice A n c) (s.getD j []) := by
 obtain ⟨cs, hr, hs, hc⟩ := h.row
 obtain ⟨A, n, c, e, ho⟩ := hc j hj
 exact ⟨A, n, c, by rw [hr.cell j, e], ho⟩
end
section
variable {w wr w' : World} {A : Option Addr} {n c : Nat} {sg : List Int} {P : Option Addr} {pn : Nat} {p : List Int} {Q : Option Addr} {m : Nat} {t : List Int} {s : List (List Int)}
end
section
variable {w wr w' : World} {A : Option Addr} {n c : Nat} {sg : List Int} {P : Option Addr} {pn : Nat} {p : List Int} {Q : Option Addr} {m : Nat} {t : List Int}
end
end matchSpec
end
section
namespace whole
open Go.RowKit base cursor marks app sym segs matchMath matchSpec
set_option maxRecDepth 100000
section
variable {P : Program} {ops : Array Oper} {rest : List Oper} {o : Oper} {a : Act} {w : World} {Q : Exit → Act → World → Prop}
theorem rowStore (hgd : o.guard = none) (ty : TypeId) (x y : Operand) (ho : o.op = .store ty x y) (g : Nat) (cells old : Array Value) (t : TypeId) (hx : a.eval x = .pointer (some ⟨g, 0, none⟩)) (hy : a.eval y = .agg cells)
  (hg : w.heap[g]? = some (.cells old t (0, 0))) (hi : (P.info? ty).map (·.size) = some cells.size) (hs : old.size = cells.size) (h1 : cells.all (·.oneCell') = true)
  (h : wpList P ops Q rest (a.put o.dst undef) (w.setRow g cells)) : wpList P ops Q (o :: rest) a w :=
 wpList_plain hgd fun _ hK => by
  unfold Oper.wp execOp
  simp only [ho, hx, hy, Instr.storeAt, Instr.sureAddr, Sem.run_bind, Sem.run_pure, Result.andThen_ok, run_storeVar_row w g t ty old cells hg hi hs h1]
  exact hK _ _ h
theorem results_row_tmp {fn : Func} {p u : Tmp} {ty : TypeId} (h : fn.results = #[.cell p ty, .tmp u]) (tmps : Array Value) (g : Nat) (t : TypeId) (cs : Array Value) (d : TypeDesc)
  (hp : tmps.getD p undef = .pointer (some ⟨g, 0, none⟩)) (hg : w.heap[g]? = some (.cells cs t (0, 0)))
  (hu : P.underlying ty = some d) (hd : (match d with | .struct _ | .array _ _ => true | _ => false) = true) (hi : (P.info? ty).map (·.size) = some cs.size) :
  (results fn tmps).run P w = .ok (.tuple #[.agg cs, tmps.getD u undef]) w := by
 rw [results_cell_tmp h, hp]
 simp [asAddr, Result.andThen, run_loadVar_row w g t ty cs (0, 0) d hg hu hd hi]
end
section
variable {w w' : World} {B B' g : Nat} {cs : Array Value} {s : List (List Int)} {t : TypeId}
theorem Row.setRow (h : Row w g t cs) (c' : Array Value) : Row (w.setRow g c') g t c' := setRow_heap w g cs c' t (0, 0) h
theorem grown_setRow (w : World) (g : Nat) (c' : Array Value) : w.grownBy (w.setRow g c') (some g) :=
 ⟨rfl, rfl, rfl, by simp, fun k _ hk => setRow_other w g k c' (fun e => hk (by rw [e]))⟩
end
end whole
end
section
namespace kboOft
open Go.RowKit base ints sig term termOk termFacts marks sym count varsOf ruleSpec anyJ whole kboMath kboLink
set_option maxRecDepth 100000
end kboOft
end
section
namespace kboWt
open Go.RowKit base ints sig term termOk termFacts marks sym ruleSpec lpoLink kboMath kboLink kboOft
set_option maxRecDepth 100000
def AnsI (w : World) (z : Int) (e : Ending) (w' : World) : Prop := e = .returned (.int .i64 z) ∧ Below w.heap.size w w'
end kboWt
end
section
namespace lpoPrec
open Go.RowKit base ints sig term marks app sym shape rankMath rankSpec ruleSpec
set_option maxRecDepth 100000
def AnsPrec (w : World) (v u : Value) (b : Bool) (e : Ending) (w' : World) : Prop := e = .returned (.tuple #[if b then .agg #[v, u] else .agg #[.slice none 0 0, .slice none 0 0], .bool b]) ∧ Below w.heap.size w w'
set_option maxHeartbeats 4000000 in
theorem precedenceOf (A R : Option Addr) (n c rn rc : Nat) (sg rk : List Int) (w : World) (hA : Seg w w.heap.size A n sg) (hR : Seg w w.heap.size R rn rk) (hn : n ≤ 1048576) (hrn : rn ≤ 1048576) :
  Calls Try.prog 110 #[.agg #[.slice A n c], .slice R rn rc] w (AnsPrec w (.slice A n c) (.slice R rn rc) (precB sg rk)) := by
 obtain ⟨W, hW, rA, rR, bel⟩ := box2 w 29 94 #[.slice A n c] #[.slice none 0 0, .slice none 0 0]
 have k0 : W.cell? ⟨w.heap.size, 0, none⟩ = some (.slice A n c) := rA.cell 0
 rw [hW] at k0
 have HW := Lib.hid hW
 have L1 := Lib.hid (implRankOk A R n c rn rc sg rk W (hA.next bel) (hR.next bel) hn hrn)
 clear hW hA hR
 cases ok1 : precB sg rk with
 | false =>
  have HS := Lib.hid ok1
  clear ok1
  go_enter Try.func110, Try.ntmps110
  go_wp2_with fail
  rw [← HW.out]
  refine L1.out.mono ?_
  rintro e w1 ⟨he, bb⟩
  rw [HS.out] at he
  subst he
  replace rR := rR.next bb
  replace bel := next_trans bel bb
  have y0 : w1.cell? ⟨w.heap.size + 1, 0, none⟩ = some (.slice none 0 0) := rR.cell 0
  have y1 : w1.cell? ⟨w.heap.size + 1, 1, none⟩ = some (.slice none 0 0) := rR.cell 1
  have f0 := rR.free 0
  have f1 := rR.free 1
  have r1 := rR.put 0 (.slice none 0 0)
  have y2 : (w1.setCell ⟨w.heap.size + 1, 0, none⟩ (.slice none 0 0)).cell? ⟨w.heap.size + 1, 1, none⟩ = some (.slice none 0 0) := r1.cell 1
  have f2 := r1.free 1
  have r2 := r1.put 1 (.slice none 0 0)
  have u0 : ((w1.setCell ⟨w.heap.size + 1, 0, none⟩ (.slice none 0 0)).setCell ⟨w.heap.size + 1, 1, none⟩ (.slice none 0 0)).cell? ⟨w.heap.size + 1, 0, none⟩ = some (.slice none 0 0) := r2.cell 0
  have u1 : ((w1.setCell ⟨w.heap.size + 1, 0, none⟩ (.slice none 0 0)).setCell ⟨w.heap.size + 1, 1, none⟩ (.slice none 0 0)).cell? ⟨w.heap.size + 1, 1, none⟩ = some (.slice none 0 0) := r2.cell 1
  have F : AnsPrec w (.slice A n c) (.slice R rn rc) false (.returned (.tuple #[.agg #[.slice none 0 0, .slice none 0 0], .bool false])) ((w1.setCell ⟨w.heap.size + 1, 0, none⟩ (.slice none 0 0)).setCell ⟨w.heap.size + 1, 1, none⟩ (.slice none 0 0)) :=
   ⟨rfl, (bel.setCell (by simp) _).setCell (by simp) _⟩
  have HF := Lib.hid F
  clear F bel rA rR bb r1 r2
  go_wp2
  exact bodyPost_ret (v := .tuple #[.agg #[.slice none 0 0, .slice none 0 0], .bool false]) (by simp [results, Try.results110, go_sem, u0, u1]) rfl HF.out
 | true =>
  have HS := Lib.hid ok1
  clear ok1
  go_enter Try.func110, Try.ntmps110
  go_wp2_with fail
  rw [← HW.out]
  refine L1.out.mono ?_
  rintro e w1 ⟨he, bb⟩
  rw [HS.out] at he
  subst he
  replace rR := rR.next bb
  replace rA := rA.next bb
  replace bel := next_trans bel bb
  have x0 : w1.cell? ⟨w.heap.size, 0, none⟩ = some (.slice A n c) := rA.cell 0
  have y0 : w1.cell? ⟨w.heap.size + 1, 0, none⟩ = some (.slice none 0 0) := rR.cell 0
  have y1 : w1.cell? ⟨w.heap.size + 1, 1, none⟩ = some (.slice none 0 0) := rR.cell 1
  have f0 := rR.free 0
  have f1 := rR.free 1
  have r1 := rR.put 0 (.slice A n c)
  have y2 : (w1.setCell ⟨w.heap.size + 1, 0, none⟩ (.slice A n c)).cell? ⟨w.heap.size + 1, 1, none⟩ = some (.slice none 0 0) := r1.cell 1
  have f2 := r1.free 1
  have r2 := r1.put 1 (.slice R rn rc)
  have u0 : ((w1.setCell ⟨w.heap.size + 1, 0, none⟩ (.slice A n c)).setCell ⟨w.heap.size + 1, 1, none⟩ (.slice R rn rc)).cell? ⟨w.heap.size + 1, 0, none⟩ = some (.slice A n c) := r2.cell 0
  have u1 : ((w1.setCell ⟨w.heap.size + 1, 0, none⟩ (.slice A n c)).setCell ⟨w.heap.size + 1, 1, none⟩ (.slice R rn rc)).cell? ⟨w.heap.size + 1, 1, none⟩ = some (.slice R rn rc) := r2.cell 1
  have F : AnsPrec w (.slice A n c) (.slice R rn rc) true (.returned (.tuple #[.agg #[.slice A n c, .slice R rn rc], .bool true])) ((w1.setCell ⟨w.heap.size + 1, 0, none⟩ (.slice A n c)).setCell ⟨w.heap.size + 1, 1, none⟩ (.slice R rn rc)) :=
   ⟨rfl, (bel.setCell (by simp) _).setCell (by simp) _⟩
  have HF := Lib.hid F
  clear F bel rA rR bb r1 r2
  go_wp2
  exact bodyPost_ret (v := .tuple #[.agg #[.slice A n c, .slice R rn rc], .bool true]) (by simp [results, Try.results110, go_sem, u0, u1]) rfl HF.out
end lpoPrec
end
section
open Go.Lib (hid)
namespace kboOk
open Go.RowKit base ints sig term termOk termFacts marks sym varsOf ruleSpec rankMath rankSpec lpoLink lpoPrec kboMath kboLink kboOft kboWt
set_option maxRecDepth 100000
theorem adm_val {sg sy rk : List Int} {v a y r : Int} {f : Nat} (ha : sg.getD f 0 = a) (hy : sy.getD f 0 = y) (hr : rk.getD f 0 = r) : admB sg v sy rk f = decide (0 ≤ y ∧ y ≤ 20 ∧ (a = 0 → v ≤ y) ∧ (a = 1 → y = 0 → r = (rk.length : Int) - 1)) := by
 unfold admB
 rw [ha, hy, hr]
structure R2 (w : World) (TA TB : TypeId) (ca cb : Array Value) (wr : World) : Prop where
 a : Row wr w.heap.size TA ca
 b : Row wr (w.heap.size + 1) TB cb
 l : Below w.heap.size w wr
theorem R2.next {w wr w' : World} {TA TB : TypeId} {ca cb : Array Value} (h : R2 w TA TB ca cb wr) (hb : Below wr.heap.size wr w') : R2 w TA TB ca cb w' := ⟨h.a.next hb, h.b.next hb, next_trans h.l hb⟩
theorem R2.drewN {w wr : World} {TA TB : TypeId} {ca cb : Array Value} (h : R2 w TA TB ca cb wr) (d : Nat) : R2 w TA TB ca cb (wr.drewN d) := ⟨h.a.drewN d, h.b.drewN d, below_drewN h.l d⟩
theorem r2_new (w : World) (TA TB : TypeId) (ca cb : Array Value) : ∃ W, W = (w.alloc (.cells ca TA)).alloc (.cells cb TB) ∧ R2 w TA TB ca cb W := by
 obtain ⟨W, h, a, b, l⟩ := box2 w TA TB ca cb
 exact ⟨W, h, a, b, l⟩
def HeadA (w : World) (TA TB : TypeId) (ca cb : Array Value) (n : Nat) (g : Nat → Bool) (i : Value) (wr : World) : Prop := ∃ k : Nat, k ≤ n ∧ i = .int .i64 k ∧ (∀ j, j < k → g j = true) ∧ R2 w TA TB ca cb wr
theorem headA_step {w wr : World} {TA TB : TypeId} {ca cb : Array Value} {n k : Nat} {g : Nat → Bool} (hk : k < n) (hlow : ∀ j, j < k → g j = true) (h : g k = true) (hr : R2 w TA TB ca cb wr) : HeadA w TA TB ca cb n g (.int .i64 ((k : Int) + 1)) wr :=
 ⟨k + 1, hk, by simp, fun j hj => by
  by_cases e : j = k
  ·rw [e]; exact h
  ·exact hlow j (by omega), hr⟩
set_option maxHeartbeats 8000000 in
theorem specWeightsOk (A Y R : Option Addr) (n c yn yc rn rc : Nat) (v : Int) (sg sy rk : List Int) (w : World) (hA : Seg w w.heap.size A n sg) (hY : Seg w w.heap.size Y yn sy) (hR : Seg w w.heap.size R rn rk) (hn : n ≤ 1048576) (hyn : yn ≤ 1048576) (hrn : rn ≤ 1048576) :
  Calls Try.prog 37 #[.agg #[.slice A n c], .agg #[.int .i64 v, .slice Y yn yc, .slice R rn rc]] w (AnsB w (wB sg v sy rk)) := by
 obtain ⟨W, hW, q⟩ := r2_new w 29 32 #[.slice A n c] #[.int .i64 v, .slice Y yn yc, .slice R rn rc]
 have HW := hid hW
 have HAL := hid hA.1
 have HYL := hid hY.1
 have HRL := hid hR.1
 have L1 := hid (specRankOk A R n c rn rc sg rk W (hA.next q.l) (hR.next q.l) hn hrn)
 have k0 : W.cell? ⟨w.heap.size, 0, none⟩ = some (.slice A n c) := q.a.cell 0
 have k1 : W.cell? ⟨w.heap.size + 1, 0, none⟩ = some (.int .i64 v) := q.b.cell 0
 have k2 : W.cell? ⟨w.heap.size + 1, 1, none⟩ = some (.slice Y yn yc) := q.b.cell 1
 have k3 : W.cell? ⟨w.heap.size + 1, 2, none⟩ = some (.slice R rn rc) := q.b.cell 2
 rw [hW] at k0 k1 k2 k3
 clear hW
 cases hp : precB sg rk with
 | false =>
  have HP := hid hp
  clear hp
  go_enter Try.func37, Try.ntmps37
  go_wp2_with fail
  rw [← HW.out]
  clear k0 k1 k2 k3
  refine L1.out.mono ?_
  rintro e w1 ⟨he, bb⟩
  rw [HP.out] at he
  subst he
  replace q := q.next bb
  clear bb L1
  have k0 : w1.cell? ⟨w.heap.size, 0, none⟩ = some (.slice A n c) := q.a.cell 0
  have k1 : w1.cell? ⟨w.heap.size + 1, 0, none⟩ = some (.int .i64 v) := q.b.cell 0
  have k2 : w1.cell? ⟨w.heap.size + 1, 1, none⟩ = some (.slice Y yn yc) := q.b.cell 1
  have F := hid (ansB (b := wB sg v sy rk) (a := false) (by rw [w_prec HP.out]) q.l)
  clear q
  go_wp2
  go_ret
  exact F.out
 | true =>
  have HP := hid hp
  clear hp
  go_enter Try.func37, Try.ntmps37
  go_wp2_with fail
  rw [← HW.out]
  clear k0 k1 k2 k3
  refine L1.out.mono ?_
  rintro e w1 ⟨he, bb⟩
  rw [HP.out] at he
  subst he
  replace q := q.next bb
  clear bb L1
  have k0 : w1.cell? ⟨w.heap.size, 0, none⟩ = some (.slice A n c) := q.a.cell 0
  have k1 : w1.cell? ⟨w.heap.size + 1, 0, none⟩ = some (.int .i64 v) := q.b.cell 0
  have k2 : w1.cell? ⟨w.heap.size + 1, 1, none⟩ = some (.slice Y yn yc) := q.b.cell 1
  by_cases hv : 1 ≤ v ∧ v ≤ 20
  case neg =>
   have HV := hid hv
   clear hv
   have F := hid (ansB (b := wB sg v sy rk) (a := false) (by rw [w_var HV.out]) q.l)
   clear q
   go_wp2_with (first
    | (go_at_call 85; refine (inNo _ _ _ _ HV.out).mono ?_; rintro e w2 ⟨rfl, rfl⟩))
   go_ret
   exact F.out
  have HV := hid hv
  clear hv
  by_cases hly : yn = n
  case neg =>
   have F := hid (ansB (b := wB sg v sy rk) (a := false) (by rw [w_len (by rw [HYL.out, HAL.out]; exact hly)]) q.l)
   have e1 : ((yn : Int) != (n : Int)) = true := by simp; omega
   clear q
   go_wp2_with (first
    | (go_at_call 85; refine (inYes _ _ _ _ HV.out).mono ?_; rintro e w2 ⟨rfl, rfl⟩))
   go_ret
   exact F.out
  subst hly
  have hrl : rn = yn := by
   have := (rank_parts (prec_parts HP.out).2).1
   rw [HAL.out, HRL.out] at this
   exact this
  subst hrl
  have e1 : ((rn : Int) != (rn : Int)) = false := by simp
  have H0 : Hid (HeadA w 29 32 #[.slice A rn c] #[.int .i64 v, .slice Y rn yc, .slice R rn rc] rn (admB sg v sy rk) (.int .i64 0) w1) := hid ⟨0, Nat.zero_le _, rfl, fun j hj => absurd hj (Nat.not_lt_zero _), q⟩
  clear q
  go_wp2_with (first
   | (go_at_call 85; refine (inYes _ _ _ _ HV.out).mono ?_; rintro e w2 ⟨rfl, rfl⟩))
  clear k0 k1 k2
  go_loopw [5] (fun i wr => HeadA w 29 32 #[.slice A rn c] #[.int .i64 v, .slice Y rn yc, .slice R rn rc] rn (admB sg v sy rk) i wr) (fun i _ => rn - (intOf i).toNat)
  case atStart => exact H0.out
  case round =>
   clear H0 e1
   obtain ⟨k, hk, rfl, hlow, q⟩ := hrel
   have HLOW := hid hlow
   clear hlow
   have k0 : wr.cell? ⟨w.heap.size, 0, none⟩ = some (.slice A rn c) := q.a.cell 0
   have k1 : wr.cell? ⟨w.heap.size + 1, 0, none⟩ = some (.int .i64 v) := q.b.cell 0
   have k2 : wr.cell? ⟨w.heap.size + 1, 1, none⟩ = some (.slice Y rn yc) := q.b.cell 1
   have k3 : wr.cell? ⟨w.heap.size + 1, 2, none⟩ = some (.slice R rn rc) := q.b.cell 2
   by_cases hlt : k < rn
   case neg =>
    have F := hid (ansB (b := wB sg v sy rk) (a := true) (by rw [w_yes HP.out HV.out (by rw [HYL.out, HAL.out]) (fun f hf => HLOW.out f (by have := HYL.out; omega))]) q.l)
    clear q
    go_wp2
    go_ret
    exact F.out
   obtain ⟨ba, oa, a, rfl, zA, ca, ea⟩ := hA.spot hlt
   obtain ⟨by_, oy, y, rfl, zY, cy, ey⟩ := hY.spot hlt
   obtain ⟨br, orr, r, rfl, zR, cr, er⟩ := hR.spot hlt
   have ca' : wr.cell? ⟨ba, oa + k, none⟩ = some (.int .i64 a) := (q.l.cell (p := ⟨ba, oa + k, none⟩) zA).trans ca
   have cy' : wr.cell? ⟨by_, oy + k, none⟩ = some (.int .i64 y) := (q.l.cell (p := ⟨by_, oy + k, none⟩) zY).trans cy
   have cr' : wr.cell? ⟨br, orr + k, none⟩ = some (.int .i64 r) := (q.l.cell (p := ⟨br, orr + k, none⟩) zR).trans cr
   clear ca cy cr zA zY zR
   have i0 : (0 : Int) ≤ (k : Int) := by omega
   have i1 : (k : Int) < (rn : Int) := by omega
   have AV := hid (adm_val (v := v) ea.out ey.out er.out)
   have Q := hid (fun dd => q.drewN dd)
   have hrk : (rk.length : Int) = (rn : Int) := by rw [HRL.out]
   have HRK := hid hrk
   clear q hrk
   by_cases hin : 0 ≤ y ∧ y ≤ 20
   case neg =>
    have HI := hid hin
    have F := hid (fun dd => ansB (w' := wr.drewN dd) (b := wB sg v sy rk) (a := false) (by rw [w_bad (f := k) (by rw [HYL.out]; exact hlt) (by rw [AV.out]; exact decide_eq_false (fun h => HI.out ⟨h.1, h.2.1⟩))]) (Q.out dd).l)
    clear hin
    go_wp2_with fail
    go_quiet ((go_at_call 85; exact Calls.quiet_of_same (v := .bool false) ((inNo _ _ _ _ HI.out).mono fun _ _ ⟨h1, h2⟩ => ⟨h2, h1.symm⟩)))
    go_wp2
    go_ret
    exact F.out _
   have HI := hid hin
   clear hin
   by_cases a0 : a = 0
   ·subst a0
    have ha : ((0 : Int) == 0) = true := by simp
    have ha1 : ((0 : Int) == 1) = false := by simp
    by_cases hyv : y < v
    ·have hd : decide (y < v) = true := decide_eq_true hyv
     have F := hid (fun dd => ansB (w' := wr.drewN dd) (b := wB sg v sy rk) (a := false) (by rw [w_bad (f := k) (by rw [HYL.out]; exact hlt) (by rw [AV.out, HRK.out]; exact decide_eq_false (fun h => by have := h.2.2.1 rfl; omega))]) (Q.out dd).l)
     go_wp2_with fail
     go_quiet ((go_at_call 85; exact Calls.quiet_of_same (v := .bool true) ((inYes _ _ _ _ HI.out).mono fun _ _ ⟨h1, h2⟩ => ⟨h2, h1.symm⟩)))
     go_wp2
     go_ret
     first
      | exact F.out _
      | (rw [World.drewN_drewN]; exact F.out _)
    ·have hd : decide (y < v) = false := decide_eq_false hyv
     have S1 := hid (fun dd => headA_step hlt HLOW.out (by rw [AV.out, HRK.out]; exact decide_eq_true ⟨HI.out.1, HI.out.2, fun _ => Int.not_lt.1 hyv, fun h => by omega⟩) (Q.out dd))
     go_wp2_with fail
     go_quiet ((go_at_call 85; exact Calls.quiet_of_same (v := .bool true) ((inYes _ _ _ _ HI.out).mono fun _ _ ⟨h1, h2⟩ => ⟨h2, h1.symm⟩)))
     go_wp2_with fail
     go_quiet (fail)
     go_wp2
     go_roundw
     case rel => exact S1.out _
     case measure => simp [intOf]; omega
   ·have ha : (a == 0) = false := by simp [a0]
    by_cases a1 : a = 1
    ·subst a1
     have ha1 : ((1 : Int) == 1) = true := by simp
     by_cases y0 : y = 0
     ·subst y0
      have hy0 : ((0 : Int) == 0) = true := by simp
      by_cases hr : r = (rn : Int) - 1
      ·have hd : (r != (rn : Int) - 1) = false := by simp [hr]
       have S1 := hid (fun dd => headA_step hlt HLOW.out (by rw [AV.out, HRK.out]; exact decide_eq_true ⟨HI.out.1, HI.out.2, fun h => by omega, fun _ _ => hr⟩) (Q.out dd))
       go_wp2_with fail
       go_quiet ((go_at_call 85; exact Calls.quiet_of_same (v := .bool true) ((inYes _ _ _ _ HI.out).mono fun _ _ ⟨h1, h2⟩ => ⟨h2, h1.symm⟩)))
       go_wp2_with fail
       go_quiet (fail)
       go_wp2
       go_roundw
       case rel => exact S1.out _
       case measure => simp [intOf]; omega
      ·have hd : (r != (rn : Int) - 1) = true := by simp [hr]
       have F := hid (fun dd => ansB (w' := wr.drewN dd) (b := wB sg v sy rk) (a := false) (by rw [w_bad (f := k) (by rw [HYL.out]; exact hlt) (by rw [AV.out, HRK.out]; exact decide_eq_false (fun h => hr (h.2.2.2 rfl rfl)))]) (Q.out dd).l)
       go_wp2_with fail
       go_quiet ((go_at_call 85; exact Calls.quiet_of_same (v := .bool true) ((inYes _ _ _ _ HI.out).mono fun _ _ ⟨h1, h2⟩ => ⟨h2, h1.symm⟩)))
       go_wp2_with fail
       go_quiet (fail)
       go_wp2
       go_ret
       first
        | exact F.out _
        | (rw [World.drewN_drewN]; exact F.out _)
     ·have hy0 : (y == 0) = false := by simp [y0]
      have S1 := hid (fun dd => headA_step hlt HLOW.out (by rw [AV.out, HRK.out]; exact decide_eq_true ⟨HI.out.1, HI.out.2, fun h => by omega, fun _ h => absurd h y0⟩) (Q.out dd))
      go_wp2_with fail
      go_quiet ((go_at_call 85; exact Calls.quiet_of_same (v := .bool true) ((inYes _ _ _ _ HI.out).mono fun _ _ ⟨h1, h2⟩ => ⟨h2, h1.symm⟩)))
      go_wp2_with fail
      go_quiet (fail)
      go_wp2
      go_roundw
      case rel => exact S1.out _
      case measure => simp [intOf]; omega
    ·have ha1 : (a == 1) = false := by simp [a1]
     have S1 := hid (fun dd => headA_step hlt HLOW.out (by rw [AV.out, HRK.out]; exact decide_eq_true ⟨HI.out.1, HI.out.2, fun h => absurd h a0, fun h => absurd h a1⟩) (Q.out dd))
     go_wp2_with fail
     go_quiet ((go_at_call 85; exact Calls.quiet_of_same (v := .bool true) ((inYes _ _ _ _ HI.out).mono fun _ _ ⟨h1, h2⟩ => ⟨h2, h1.symm⟩)))
     go_wp2_with fail
     go_quiet (fail)
     go_wp2
     go_roundw
     case rel => exact S1.out _
     case measure => simp [intOf]; omega
set_option maxHeartbeats 4000000 in
theorem admits (A R Y : Option Addr) (n c rc yc : Nat) (v : Int) (sg rk sy : List Int) (k : Nat) (w : World) (hA : Seg w w.heap.size A n sg) (hR : Seg w w.heap.size R n rk) (hY : Seg w w.heap.size Y n sy) (hn : n ≤ 1048576) (hk : k < n) :
  Calls Try.prog 111 #[.agg #[.slice A n c, .slice R n rc, .int .i64 v, .slice Y n yc], .int .i64 (k : Int)] w (AnsB w (admB sg v sy rk k)) := by
 obtain ⟨W, hW, rA, bel⟩ := box1 w 96 #[.slice A n c, .slice R n rc, .int .i64 v, .slice Y n yc]
 have HRL := hid hR.1
 obtain ⟨ba, oa, a, rfl, zA, ca, ea⟩ := (hA.next bel).spot hk
 obtain ⟨by_, oy, y, rfl, zY, cy, ey⟩ := (hY.next bel).spot hk
 obtain ⟨br, orr, r, rfl, zR, cr, er⟩ := (hR.next bel).spot hk
 have i0 : (0 : Int) ≤ (k : Int) := by omega
 have i1 : (k : Int) < (n : Int) := by omega
 have AV := hid (adm_val (v := v) ea.out ey.out er.out)
 have hrk : (rk.length : Int) = (n : Int) := by rw [HRL.out]
 rw [hrk] at AV
 have k0 : W.cell? ⟨w.heap.size, 0, none⟩ = some (.slice (some ⟨ba, oa, none⟩) n c) := rA.cell 0
 have k1 : W.cell? ⟨w.heap.size, 1, none⟩ = some (.slice (some ⟨br, orr, none⟩) n rc) := rA.cell 1
 have k2 : W.cell? ⟨w.heap.size, 2, none⟩ = some (.int .i64 v) := rA.cell 2
 have k3 : W.cell? ⟨w.heap.size, 3, none⟩ = some (.slice (some ⟨by_, oy, none⟩) n yc) := rA.cell 3
 have HW := hid hW
 have Q := hid (fun dd => below_drewN bel dd)
 rw [hW] at k0 k1 k2 k3 ca cy cr
 clear hW rA bel hA hR hY hrk
 by_cases h0 : y < 0
 ·have d0 : decide (y < 0) = true := decide_eq_true h0
  have F := hid (fun dd => ansB (w := w) (w' := W.drewN dd) (b := admB sg v sy rk k) (a := false) (by rw [AV.out]; symm; exact decide_eq_false (fun h => by omega)) (Q.out dd))
  rw [HW.out] at F
  go_enter Try.func111, Try.ntmps111
  go_wp2_with fail
  go_quiet (fail)
  go_wp2
  go_ret
  exact F.out _
 have d0 : decide (y < 0) = false := decide_eq_false h0
 by_cases h20 : 20 < y
 ·have d1 : decide (20 < y) = true := decide_eq_true h20
  have F := hid (fun dd => ansB (w := w) (w' := W.drewN dd) (b := admB sg v sy rk k) (a := false) (by rw [AV.out]; symm; exact decide_eq_false (fun h => by omega)) (Q.out dd))
  rw [HW.out] at F
  go_enter Try.func111, Try.ntmps111
  go_wp2_with fail
  go_quiet (fail)
  go_wp2
  go_ret
  exact F.out _
 have d1 : decide (20 < y) = false := decide_eq_false h20
 by_cases a0 : a = 0
 ·subst a0
  have e0 : ((0 : Int) == 0) = true := by simp
  by_cases hv : v ≤ y
  ·have d2 : decide (v ≤ y) = true := decide_eq_true hv
   have F := hid (fun dd => ansB (w := w) (w' := W.drewN dd) (b := admB sg v sy rk k) (a := true) (by rw [AV.out]; symm; exact decide_eq_true ⟨by omega, by omega, fun _ => hv, fun h => by omega⟩) (Q.out dd))
   rw [HW.out] at F
   go_enter Try.func111, Try.ntmps111
   go_wp2_with fail
   go_quiet (fail)
   go_wp2
   go_ret
   exact F.out _
  ·have d2 : decide (v ≤ y) = false := decide_eq_false hv
   have F := hid (fun dd => ansB (w := w) (w' := W.drewN dd) (b := admB sg v sy rk k) (a := false) (by rw [AV.out]; symm; exact decide_eq_false (fun h => hv (h.2.2.1 rfl))) (Q.out dd))
   rw [HW.out] at F
   go_enter Try.func111, Try.ntmps111
   go_wp2_with fail
   go_quiet (fail)
   go_wp2
   go_ret
   exact F.out _
 ·have e0 : (a == 0) = false := by simp [a0]
  by_cases a1 : a = 1
  ·subst a1
   have e1 : ((1 : Int) == 1) = true := by simp
   by_cases y0 : 0 < y
   ·have d2 : decide (0 < y) = true := decide_eq_true y0
    have F := hid (fun dd => ansB (w := w) (w' := W.drewN dd) (b := admB sg v sy rk k) (a := true) (by rw [AV.out]; symm; exact decide_eq_true ⟨by omega, by omega, fun h => by omega, fun _ h => by omega⟩) (Q.out dd))
    rw [HW.out] at F
    go_enter Try.func111, Try.ntmps111
    go_wp2_with fail
    go_quiet (fail)
    go_wp2
    go_ret
    exact F.out _
   ·have d2 : decide (0 < y) = false := decide_eq_false y0
    by_cases hr : r = (n : Int) - 1
    ·have d3 : (r == (n : Int) - 1) = true := by simp [hr]
     have F := hid (fun dd => ansB (w := w) (w' := W.drewN dd) (b := admB sg v sy rk k) (a := true) (by rw [AV.out]; symm; exact decide_eq_true ⟨by omega, by omega, fun h => by omega, fun _ _ => hr⟩) (Q.out dd))
     rw [HW.out] at F
     go_enter Try.func111, Try.ntmps111
     go_wp2_with fail
     go_quiet (fail)
     go_wp2
     go_ret
     exact F.out _
    ·have d3 : (r == (n : Int) - 1) = false := by simp [hr]
     have F := hid (fun dd => ansB (w := w) (w' := W.drewN dd) (b := admB sg v sy rk k) (a := false) (by rw [AV.out]; symm; exact decide_eq_false (fun h => hr (h.2.2.2 rfl (by omega)))) (Q.out dd))
     rw [HW.out] at F
     go_enter Try.func111, Try.ntmps111
     go_wp2_with fail
     go_quiet (fail)
     go_wp2
     go_ret
     exact F.out _
  ·have e1 : (a == 1) = false := by simp [a1]
   have F := hid (fun dd => ansB (w := w) (w' := W.drewN dd) (b := admB sg v sy rk k) (a := true) (by rw [AV.out]; symm; exact decide_eq_true ⟨by omega, by omega, fun h => absurd h a0, fun h => absurd h a1⟩) (Q.out dd))
   rw [HW.out] at F
   go_enter Try.func111, Try.ntmps111
   go_wp2_with fail
   go_quiet (fail)
   go_wp2
   go_ret
   exact F.out _
end kboOk
end
section
open Go.Lib (hid)
namespace kboScale
open Go.RowKit base ints sig term termOk termFacts marks sym varsOf ruleSpec rankMath rankSpec lpoLink lpoPrec kboMath kboLink kboOft kboWt kboOk whole
set_option maxRecDepth 100000
def scV (A R Y : Option Addr) (n c rn rc yn yc : Nat) (v : Int) (b : Bool) : Value := if b then .agg #[.slice A n c, .slice R rn rc, .int .i64 v, .slice Y yn yc] else .agg #[.slice none 0 0, .slice none 0 0, .int .i64 0, .slice none 0 0]
theorem size_p : (Try.prog.info? 94).map (·.size) = some 2 := by kernel_rfl
theorem size_s : (Try.prog.info? 96).map (·.size) = some 4 := by kernel_rfl
def AnsSc (w : World) (s : Bool → Value) (b : Bool) (e : Ending) (w' : World) : Prop := e = .returned (.tuple #[s b, .bool b]) ∧ Below w.heap.size w w'
structure R3 (w : World) (ca cb cc : Array Value) (wr : World) : Prop where
 a : Row wr w.heap.size 29 ca
 b : Row wr (w.heap.size + 1) 32 cb
 c : Row wr (w.heap.size + 1 + 1) 96 cc
 l : Below w.heap.size w wr
theorem R3.next {w wr w' : World} {ca cb cc : Array Value} (h : R3 w ca cb cc wr) (hb : Below wr.heap.size wr w') : R3 w ca cb cc w' := ⟨h.a.next hb, h.b.next hb, h.c.next hb, next_trans h.l hb⟩
theorem r3_new (w : World) (ca cb cc : Array Value) : ∃ W, W = ((w.alloc (.cells ca 29)).alloc (.cells cb 32)).alloc (.cells cc 96) ∧ R3 w ca cb cc W := by
 obtain ⟨W1, h, a, b, l⟩ := box2 w 29 32 ca cb
 have hs : W1.heap.size = w.heap.size + 1 + 1 := by rw [h]; simp
 refine ⟨_, rfl, ?_, ?_, ?_, ?_⟩
 ·rw [← h]; exact a.alloc _
 ·rw [← h]; exact b.alloc _
 ·rw [← h, ← hs]; exact Row.new _ _ _
 ·rw [← h]; exact l.alloc l.size _
theorem below_setRow {w wr : World} {B g : Nat} {cs : Array Value} (h : Below B w wr) (hg : B ≤ g) (hB : B ≤ wr.heap.size) : Below B w (wr.setRow g cs) := h.grown (grown_setRow wr g cs) hB (fun k e => by injection e; omega)
theorem box_one (w : World) (t : TypeId) (cs : Array Value) : ∃ W, W = w.alloc (.cells cs t) ∧ Row W w.heap.size t cs ∧ Below w.heap.size w W := box1 w t cs
def HeadSc (w : World) (g : Nat) (ca cb cc cs : Array Value) (n : Nat) (f : Nat → Bool) (i : Value) (wr : World) : Prop := ∃ k : Nat, k ≤ n ∧ i = .int .i64 k ∧ (∀ j, j < k → f j = true) ∧ R3 w ca cb cc wr ∧ Row wr g 96 cs
set_option maxHeartbeats 4000000 in
theorem scaleOf (A Y R : Option Addr) (n c yn yc rn rc : Nat) (v : Int) (sg sy rk : List Int) (w : World) (hA : Seg w w.heap.size A n sg) (hY : Seg w w.heap.size Y yn sy) (hR : Seg w w.heap.size R rn rk) (hn : n ≤ 1048576) (hyn : yn ≤ 1048576) (hrn : rn ≤ 1048576) :
  Calls Try.prog 71 #[.agg #[.slice A n c], .agg #[.int .i64 v, .slice Y yn yc, .slice R rn rc]] w (AnsSc w (scV A R Y n c rn rc yn yc v) (wB sg v sy rk)) := by
 obtain ⟨W, hW, q⟩ := r3_new w #[.slice A n c] #[.int .i64 v, .slice Y yn yc, .slice R rn rc] #[.slice none 0 0, .slice none 0 0, .int .i64 0, .slice none 0 0]
 have HW := hid hW
 have HAL := hid hA.1
 have HYL := hid hY.1
 have HRL := hid hR.1
 have L1 := hid (precedenceOf A R n c rn rc sg rk W (hA.next q.l) (hR.next q.l) hn hrn)
 have LA := hid (fun (w1 : World) (bb : Below w.heap.size w w1) (k : Nat) (hk : k < n) (e1 : rn = n) (e2 : yn = n) => admits A R Y n c rc yc v sg rk sy k w1 (hA.next bb) (e1 ▸ hR.next bb) (e2 ▸ hY.next bb) hn hk)
 have k0 : W.cell? ⟨w.heap.size, 0, none⟩ = some (.slice A n c) := q.a.cell 0
 have k1 : W.cell? ⟨w.heap.size + 1, 0, none⟩ = some (.int .i64 v) := q.b.cell 0
 have k2 : W.cell? ⟨w.heap.size + 1, 1, none⟩ = some (.slice Y yn yc) := q.b.cell 1
 have k3 : W.cell? ⟨w.heap.size + 1, 2, none⟩ = some (.slice R rn rc) := q.b.cell 2
 rw [hW] at k0 k1 k2 k3
 clear hW hA hY hR
 cases hp : precB sg rk with
 | false =>
  have HP := hid hp
  clear hp
  go_enter Try.func71, Try.ntmps71
  go_wp2_with fail
  rw [← HW.out]
  clear k0 k1 k2 k3
  refine L1.out.mono ?_
  rintro e w1 ⟨he, bb⟩
  rw [HP.out] at he
  subst he
  replace q := q.next bb
  have zb := q.c.lt
  clear bb L1
  obtain ⟨w2, hw2, rp, bb⟩ := box_one w1 94 #[.slice none 0 0, .slice none 0 0]
  have H2 := hid hw2
  replace q := q.next bb
  clear hw2 bb rp
  go_wp2_with (first
   | (refine rowStore rfl 94 _ _ rfl w1.heap.size #[.slice none 0 0, .slice none 0 0] #[.slice none 0 0, .slice none 0 0] 94 rfl rfl (heap_alloc_new w1 _) size_p rfl (by simp [Value.oneCell']) ?_; rw [World.setRow_alloc_new]; rw [← H2.out]; refine (?_ : Hid _).out))
  refine hid ?_
  have k0 : w2.cell? ⟨w.heap.size, 0, none⟩ = some (.slice A n c) := q.a.cell 0
  have k1 : w2.cell? ⟨w.heap.size + 1, 0, none⟩ = some (.int .i64 v) := q.b.cell 0
  have k2 : w2.cell? ⟨w.heap.size + 1, 1, none⟩ = some (.slice Y yn yc) := q.b.cell 1
  have F := hid (show AnsSc w (scV A R Y n c rn rc yn yc v) (wB sg v sy rk) (.returned (.tuple #[.agg #[.slice none 0 0, .slice none 0 0, .int .i64 0, .slice none 0 0], .bool false])) (w2.setRow (w.heap.size + 1 + 1) #[.slice none 0 0, .slice none 0 0, .int .i64 0, .slice none 0 0]) from ⟨by rw [w_prec HP.out]; rfl, below_setRow q.l (by omega) q.l.size⟩)
  have hz := q.c
  have h3 := Row.setRow q.c #[.slice none 0 0, .slice none 0 0, .int .i64 0, .slice none 0 0]
  unfold Row at hz
  have HZ := hid hz
  have H3 := hid h3
  clear hz h3 q
  go_wp2_with (first
   | (refine rowStore rfl 96 _ _ rfl (w.heap.size + 1 + 1) #[.slice none 0 0, .slice none 0 0, .int .i64 0, .slice none 0 0] #[.slice none 0 0, .slice none 0 0, .int .i64 0, .slice none 0 0] 96 rfl rfl HZ.out size_s rfl (by simp [Value.oneCell']) ?_))
  (try simp only [Exit.inBlock, Exit.then])
  refine bodyPost_ret (v := .tuple #[.agg #[.slice none 0 0, .slice none 0 0, .int .i64 0, .slice none 0 0], .bool false]) ?_ rfl F.out
  exact results_row_tmp Try.results71 _ (w.heap.size + 1 + 1) 96 #[.slice none 0 0, .slice none 0 0, .int .i64 0, .slice none 0 0] _ rfl H3.out Try.underlying96 rfl size_s
 | true =>
  have HP := hid hp
  clear hp
  go_enter Try.func71, Try.ntmps71
  go_wp2_with fail
  rw [← HW.out]
  clear k0 k1 k2 k3
  refine L1.out.mono ?_
  rintro e w1 ⟨he, bb⟩
  rw [HP.out] at he
  subst he
  replace q := q.next bb
  have zb := q.c.lt
  clear bb L1
  obtain ⟨w2, hw2, rp, bb⟩ := box_one w1 94 #[.slice A n c, .slice R rn rc]
  have H2 := hid hw2
  replace q := q.next bb
  clear hw2 bb rp
  go_wp2_with (first
   | (refine rowStore rfl 94 _ _ rfl w1.heap.size #[.slice A n c, .slice R rn rc] #[.slice none 0 0, .slice none 0 0] 94 rfl rfl (heap_alloc_new w1 _) size_p rfl (by simp [Value.oneCell']) ?_; rw [World.setRow_alloc_new]; rw [← H2.out]; refine (?_ : Hid _).out))
  refine hid ?_
  have k0 : w2.cell? ⟨w.heap.size, 0, none⟩ = some (.slice A n c) := q.a.cell 0
  have k1 : w2.cell? ⟨w.heap.size + 1, 0, none⟩ = some (.int .i64 v) := q.b.cell 0
  have k2 : w2.cell? ⟨w.heap.size + 1, 1, none⟩ = some (.slice Y yn yc) := q.b.cell 1
  have k4 : w2.cell? ⟨w1.heap.size, 0, none⟩ = some (.slice A n c) := by rw [H2.out]; exact (Row.new w1 _ _).cell 0
  have k5 : w2.cell? ⟨w1.heap.size, 1, none⟩ = some (.slice R rn rc) := by rw [H2.out]; exact (Row.new w1 _ _).cell 1
  by_cases hly : yn = n
  case neg =>
   have e1 : ((yn : Int) != (n : Int)) = true := by simp; omega
   have F := hid (show AnsSc w (scV A R Y n c rn rc yn yc v) (wB sg v sy rk) (.returned (.tuple #[.agg #[.slice none 0 0, .slice none 0 0, .int .i64 0, .slice none 0 0], .bool false])) (w2.setRow (w.heap.size + 1 + 1) #[.slice none 0 0, .slice none 0 0, .int .i64 0, .slice none 0 0]) from ⟨by rw [w_len (by rw [HYL.out, HAL.out]; exact hly)]; rfl, below_setRow q.l (by omega) q.l.size⟩)
   have hz := q.c
   have h3 := Row.setRow q.c #[.slice none 0 0, .slice none 0 0, .int .i64 0, .slice none 0 0]
   unfold Row at hz
   have HZ := hid hz
   have H3 := hid h3
   clear hz h3 q
   go_wp2_with (first
    | (refine rowStore rfl 96 _ _ rfl (w.heap.size + 1 + 1) #[.slice none 0 0, .slice none 0 0, .int .i64 0, .slice none 0 0] #[.slice none 0 0, .slice none 0 0, .int .i64 0, .slice none 0 0] 96 rfl rfl HZ.out size_s rfl (by simp [Value.oneCell']) ?_))
   (try simp only [Exit.inBlock, Exit.then])
   refine bodyPost_ret (v := .tuple #[.agg #[.slice none 0 0, .slice none 0 0, .int .i64 0, .slice none 0 0], .bool false]) ?_ rfl F.out
   exact results_row_tmp Try.results71 _ (w.heap.size + 1 + 1) 96 #[.slice none 0 0, .slice none 0 0, .int .i64 0, .slice none 0 0] _ rfl H3.out Try.underlying96 rfl size_s
  subst hly
  have hrl : rn = yn := by
   have := (rank_parts (prec_parts HP.out).2).1
   rw [HAL.out, HRL.out] at this
   exact this
  subst hrl
  have e1 : ((rn : Int) != (rn : Int)) = false := by simp
  by_cases hv1 : v < 1
  ·have d1 : decide (v < 1) = true := decide_eq_true hv1
   have F := hid (show AnsSc w (scV A R Y rn c rn rc rn yc v) (wB sg v sy rk) (.returned (.tuple #[.agg #[.slice none 0 0, .slice none 0 0, .int .i64 0, .slice none 0 0], .bool false])) (w2.setRow (w.heap.size + 1 + 1) #[.slice none 0 0, .slice none 0 0, .int .i64 0, .slice none 0 0]) from ⟨by rw [w_var (by omega)]; rfl, below_setRow q.l (by omega) q.l.size⟩)
   have hz := q.c
   have h3 := Row.setRow q.c #[.slice none 0 0, .slice none 0 0, .int .i64 0, .slice none 0 0]
   unfold Row at hz
   have HZ := hid hz
   have H3 := hid h3
   clear hz h3 q
   go_wp2_with (first
    | (refine rowStore rfl 96 _ _ rfl (w.heap.size + 1 + 1) #[.slice none 0 0, .slice none 0 0, .int .i64 0, .slice none 0 0] #[.slice none 0 0, .slice none 0 0, .int .i64 0, .slice none 0 0] 96 rfl rfl HZ.out size_s rfl (by simp [Value.oneCell']) ?_))
   (try simp only [Exit.inBlock, Exit.then])
   refine bodyPost_ret (v := .tuple #[.agg #[.slice none 0 0, .slice none 0 0, .int .i64 0, .slice none 0 0], .bool false]) ?_ rfl F.out
   exact results_row_tmp Try.results71 _ (w.heap.size + 1 + 1) 96 #[.slice none 0 0, .slice none 0 0, .int .i64 0, .slice none 0 0] _ rfl H3.out Try.underlying96 rfl size_s
  have d1 : decide (v < 1) = false := decide_eq_false hv1
  by_cases hv2 : 20 < v
  ·have d2 : decide (20 < v) = true := decide_eq_true hv2
   have F := hid (show AnsSc w (scV A R Y rn c rn rc rn yc v) (wB sg v sy rk) (.returned (.tuple #[.agg #[.slice none 0 0, .slice none 0 0, .int .i64 0, .slice none 0 0], .bool false])) (w2.setRow (w.heap.size + 1 + 1) #[.slice none 0 0, .slice none 0 0, .int .i64 0, .slice none 0 0]) from ⟨by rw [w_var (by omega)]; rfl, below_setRow q.l (by omega) q.l.size⟩)
   have hz := q.c
   have h3 := Row.setRow q.c #[.slice none 0 0, .slice none 0 0, .int .i64 0, .slice none 0 0]
   unfold Row at hz
   have HZ := hid hz
   have H3 := hid h3
   clear hz h3 q
   go_wp2_with (first
    | (refine rowStore rfl 96 _ _ rfl (w.heap.size + 1 + 1) #[.slice none 0 0, .slice none 0 0, .int .i64 0, .slice none 0 0] #[.slice none 0 0, .slice none 0 0, .int .i64 0, .slice none 0 0] 96 rfl rfl HZ.out size_s rfl (by simp [Value.oneCell']) ?_))
   (try simp only [Exit.inBlock, Exit.then])
   refine bodyPost_ret (v := .tuple #[.agg #[.slice none 0 0, .slice none 0 0, .int .i64 0, .slice none 0 0], .bool false]) ?_ rfl F.out
   exact results_row_tmp Try.results71 _ (w.heap.size + 1 + 1) 96 #[.slice none 0 0, .slice none 0 0, .int .i64 0, .slice none 0 0] _ rfl H3.out Try.underlying96 rfl size_s
  have d2 : decide (20 < v) = false := decide_eq_false hv2
  obtain ⟨w3, hw3, rs, bb⟩ := box_one w2 96 #[.slice A rn c, .slice R rn rc, .int .i64 v, .slice Y rn yc]
  have H3 := hid hw3
  replace q := q.next bb
  have h2 : w2.heap.size = w1.heap.size + 1 := by rw [H2.out]; simp
  have hg3 : w.heap.size + 1 + 1 < w2.heap.size := by omega
  clear h2
  have H0 : Hid (HeadSc w w2.heap.size #[.slice A rn c] #[.int .i64 v, .slice Y rn yc, .slice R rn rc] #[.slice none 0 0, .slice none 0 0, .int .i64 0, .slice none 0 0] #[.slice A rn c, .slice R rn rc, .int .i64 v, .slice Y rn yc] rn (admB sg v sy rk) (.int .i64 0) w3) := hid ⟨0, Nat.zero_le _, rfl, fun j hj => absurd hj (Nat.not_lt_zero _), q, rs⟩
  clear hw3 bb rs q
  go_wp2_with (first
   | (refine rowStore rfl 96 _ _ rfl w2.heap.size #[.slice A rn c, .slice R rn rc, .int .i64 v, .slice Y rn yc] #[.slice none 0 0, .slice none 0 0, .int .i64 0, .slice none 0 0] 96 rfl rfl (heap_alloc_new w2 _) size_s rfl (by simp [Value.oneCell']) ?_; rw [World.setRow_alloc_new]; rw [← H3.out]; refine (?_ : Hid _).out))
  refine hid ?_
  have m0 : w3.cell? ⟨w.heap.size + 1, 1, none⟩ = some (.slice Y rn yc) := by obtain ⟨_, _, _, _, q, _⟩ := H0.out; exact q.b.cell 1
  clear k0 k1 k2 k4 k5
  go_wp2
  go_loopw [48] (fun i wr => HeadSc w w2.heap.size #[.slice A rn c] #[.int .i64 v, .slice Y rn yc, .slice R rn rc] #[.slice none 0 0, .slice none 0 0, .int .i64 0, .slice none 0 0] #[.slice A rn c, .slice R rn rc, .int .i64 v, .slice Y rn yc] rn (admB sg v sy rk) i wr) (fun i _ => rn - (intOf i).toNat)
  case atStart => exact H0.out
  case round =>
   clear H0 m0
   obtain ⟨k, hk, rfl, hlow, q, rs⟩ := hrel
   have HLOW := hid hlow
   clear hlow
   have k0 : wr.cell? ⟨w2.heap.size, 0, none⟩ = some (.slice A rn c) := rs.cell 0
   have k1 : wr.cell? ⟨w2.heap.size, 1, none⟩ = some (.slice R rn rc) := rs.cell 1
   have k2 : wr.cell? ⟨w2.heap.size, 2, none⟩ = some (.int .i64 v) := rs.cell 2
   have k3 : wr.cell? ⟨w2.heap.size, 3, none⟩ = some (.slice Y rn yc) := rs.cell 3
   by_cases hlt : k < rn
   case neg =>
    have F := hid (show AnsSc w (scV A R Y rn c rn rc rn yc v) (wB sg v sy rk) (.returned (.tuple #[.agg #[.slice A rn c, .slice R rn rc, .int .i64 v, .slice Y rn yc], .bool true])) (wr.setRow (w.heap.size + 1 + 1) #[.slice A rn c, .slice R rn rc, .int .i64 v, .slice Y rn yc]) from ⟨by rw [w_yes HP.out (by omega) (by rw [HYL.out, HAL.out]) (fun f hf => HLOW.out f (by have := HYL.out; omega))]; rfl, below_setRow q.l (by omega) q.l.size⟩)
    have hz := q.c
    have h3 := Row.setRow q.c #[.slice A rn c, .slice R rn rc, .int .i64 v, .slice Y rn yc]
    unfold Row at hz
    have HZ := hid hz
    have H3 := hid h3
    clear hz h3 q rs
    go_wp2_with (first
     | (refine rowStore rfl 96 _ _ rfl (w.heap.size + 1 + 1) #[.slice A rn c, .slice R rn rc, .int .i64 v, .slice Y rn yc] #[.slice none 0 0, .slice none 0 0, .int .i64 0, .slice none 0 0] 96 rfl rfl HZ.out size_s rfl (by simp [Value.oneCell']) ?_))
    (try simp only [Exit.inBlock, Exit.then])
    refine bodyPost_ret (v := .tuple #[.agg #[.slice A rn c, .slice R rn rc, .int .i64 v, .slice Y rn yc], .bool true]) ?_ rfl F.out
    exact results_row_tmp Try.results71 _ (w.heap.size + 1 + 1) 96 #[.slice A rn c, .slice R rn rc, .int .i64 v, .slice Y rn yc] _ rfl H3.out Try.underlying96 rfl size_s
   have LX := hid (LA.out wr q.l k hlt (by first | rfl | trivial) (by first | rfl | trivial))
   obtain ⟨u, hu⟩ : ∃ u, admB sg v sy rk k = u := ⟨_, rfl⟩
   rw [hu] at LX
   have HU := hid hu
   have Q := hid q
   have RS := hid rs
   clear hu q rs
   go_wp2_with fail
   refine LX.out.mono ?_
   rintro e w4 ⟨rfl, bb⟩
   have q := Q.out.next bb
   have rs := RS.out.next bb
   clear bb Q RS k0 k1 k2 k3 LX
   cases u with
   | false =>
    have F := hid (show AnsSc w (scV A R Y rn c rn rc rn yc v) (wB sg v sy rk) (.returned (.tuple #[.agg #[.slice none 0 0, .slice none 0 0, .int .i64 0, .slice none 0 0], .bool false])) (w4.setRow (w.heap.size + 1 + 1) #[.slice none 0 0, .slice none 0 0, .int .i64 0, .slice none 0 0]) from ⟨by rw [w_bad (f := k) (by rw [HYL.out]; exact hlt) HU.out]; rfl, below_setRow q.l (by omega) q.l.size⟩)
    have hz := q.c
    have h3 := Row.setRow q.c #[.slice none 0 0, .slice none 0 0, .int .i64 0, .slice none 0 0]
    unfold Row at hz
    have HZ := hid hz
    have H3 := hid h3
    clear hz h3 q rs
    go_wp2_with (first
     | (refine rowStore rfl 96 _ _ rfl (w.heap.size + 1 + 1) #[.slice none 0 0, .slice none 0 0, .int .i64 0, .slice none 0 0] #[.slice none 0 0, .slice none 0 0, .int .i64 0, .slice none 0 0] 96 rfl rfl HZ.out size_s rfl (by simp [Value.oneCell']) ?_))
    (try simp only [Exit.inBlock, Exit.then])
    refine bodyPost_ret (v := .tuple #[.agg #[.slice none 0 0, .slice none 0 0, .int .i64 0, .slice none 0 0], .bool false]) ?_ rfl F.out
    exact results_row_tmp Try.results71 _ (w.heap.size + 1 + 1) 96 #[.slice none 0 0, .slice none 0 0, .int .i64 0, .slice none 0 0] _ rfl H3.out Try.underlying96 rfl size_s
   | true =>
    have S1 := hid (show HeadSc w w2.heap.size #[.slice A rn c] #[.int .i64 v, .slice Y rn yc, .slice R rn rc] #[.slice none 0 0, .slice none 0 0, .int .i64 0, .slice none 0 0] #[.slice A rn c, .slice R rn rc, .int .i64 v, .slice Y rn yc] rn (admB sg v sy rk) (.int .i64 ((k : Int) + 1)) w4 from ⟨k + 1, hlt, by simp, fun j hj => by
     by_cases e : j = k
     ·rw [e]; exact HU.out
     ·exact HLOW.out j (by omega), q, rs⟩)
    clear q rs
    go_wp2
    go_roundw
    case rel => exact S1.out
    case measure => simp [intOf]; omega
end kboScale
end
section
namespace kboFun
open Go.RowKit base ints sig term termOk termFacts marks sym varsOf ruleSpec forest rankMath rankSpec lpoLink lpoPrec kboMath kboLink kboOft kboWt kboOk kboScale whole
set_option maxRecDepth 100000
theorem scale2 (A Y R : Option Addr) (n c yn yc rn rc : Nat) (v : Int) (sg sy rk : List Int) (w : World) (hA : Seg w w.heap.size A n sg) (hY : Seg w w.heap.size Y yn sy) (hR : Seg w w.heap.size R rn rk) (hn : n ≤ 1048576) (hyn : yn ≤ 1048576) (hrn : rn ≤ 1048576) :
  (wB sg v sy rk = true → Calls Try.prog 71 #[.agg #[.slice A n c], .agg #[.int .i64 v, .slice Y yn yc, .slice R rn rc]] w fun e w' => e = .returned (.tuple #[.agg #[.slice A n c, .slice R rn rc, .int .i64 v, .slice Y yn yc], .bool true]) ∧ Below w.heap.size w w') ∧
  (wB sg v sy rk = false → Calls Try.prog 71 #[.agg #[.slice A n c], .agg #[.int .i64 v, .slice Y yn yc, .slice R rn rc]] w fun e w' => e = .returned (.tuple #[.agg #[.slice none 0 0, .slice none 0 0, .int .i64 0, .slice none 0 0], .bool false]) ∧ Below w.heap.size w w') :=
 ⟨fun h => (scaleOf A Y R n c yn yc rn rc v sg sy rk w hA hY hR hn hyn hrn).mono fun e w' he => by
  unfold AnsSc at he
  rw [h] at he
  exact he, fun h => (scaleOf A Y R n c yn yc rn rc v sg sy rk w hA hY hR hn hyn hrn).mono fun e w' he => by
  unfold AnsSc at he
  rw [h] at he
  exact he⟩
end kboFun
end
section
namespace shape
open Go.RowKit base ints sig cursor marks app sym appAt segs segsHelp segsMark kinds
theorem Owned.num (w : World) (lo hi : Nat) (x : Int) : Owned w lo hi .num [.int .i64 x] x := ⟨[], ⟨rfl, rfl⟩, List.nodup_nil, fun k hk => by cases hk⟩
theorem Ow.num {w w' : World} {cs : List Value} {x : Int} {F : List Nat} (h : Ow w .num cs x F) (y : Int) : Ow w' .num [.int .i64 y] y F := ⟨rfl, h.2⟩
theorem CpS.init (w : World) (tL tI : TypeId) (cs zs ps : Array Value) : CpS w tL tI cs zs ps (((w.alloc (.cells cs tL)).alloc (.cells zs tI)).alloc (.cells ps tI)) where
 box := by have := ((Row.new w tL cs).alloc (.cells zs tI)).alloc (.cells ps tI); simpa using this
 res := by have := (Row.new (w.alloc (.cells cs tL)) tI zs).alloc (.cells ps tI); simpa using this
 cur := by have := Row.new ((w.alloc (.cells cs tL)).alloc (.cells zs tI)) tI ps; simpa using this
 bel := (((Below.refl _ _).alloc (Nat.le_refl _) _).alloc (by simp) _).alloc (by simp; omega) _
 size := by simp
end shape
end
section
open Go.Lib (hid)
namespace kindsK
open Go.RowKit base ints sig cursor marks app sym appAt segs segsHelp segsMark kinds shape
set_option maxRecDepth 100000
abbrev sWeights : Sh := .cat .num (.cat sI sI)
theorem parts_Weights {w : World} {B : Nat} {v0 v1 : Value} {d : Dat sWeights} (h : Rd w B sWeights [.int .i64 d.1, v0, v1] d) : Rd w B .num [.int .i64 d.1] d.1 ∧ Rd w B sI [v0] d.2.1 ∧ Rd w B sI [v1] d.2.2 := by
 obtain ⟨p0, q0⟩ := Rd.split (ca := [.int .i64 d.1]) (cb := [v0, v1]) h rfl
 obtain ⟨p1, q1⟩ := Rd.split (ca := [v0]) (cb := [v1]) q0 rfl
 exact ⟨p0, p1, q1⟩
theorem join_Weights {w : World} {lo hi : Nat} {v0 v1 : Value} {d : Dat sWeights} {m0 m1 m2 m3 : Nat} (o0 : Owned w m0 m1 .num [.int .i64 d.1] d.1) (o1 : Owned w m1 m2 sI [v0] d.2.1) (o2 : Owned w m2 m3 sI [v1] d.2.2) (l0 : m0 ≤ m1) (l1 : m1 ≤ m2) (l2 : m2 ≤ m3) (hl : lo ≤ m0) (hh : m3 ≤ hi) : Owned w lo hi sWeights [.int .i64 d.1, v0, v1] d := by
 exact ((Owned.cat o0 (Owned.cat o1 o2 (Nat.le_refl _) (by omega) (by omega)) (Nat.le_refl _) (by omega) (by omega)) : Owned w m0 m3 sWeights [.int .i64 d.1, v0, v1] d).wider hl hh
theorem cells_Weights {w : World} {B : Nat} {es : List Value} {d : Dat sWeights} (h : Rd w B sWeights es d) : ∃ (v0 : Value) (v1 : Value), es = [.int .i64 d.1, v0, v1] := by
 obtain ⟨ca0, cb0, e0, p0, q0⟩ := h
 obtain ⟨ca1, cb1, e1, p1, q1⟩ := q0
 obtain ⟨A1, n1, c1, z1, -⟩ := p1
 obtain ⟨A2, n2, c2, z2, -⟩ := q1
 exact ⟨.slice A1 n1 c1, .slice A2 n2 c2, by rw [e0, (show _ = _ from p0), e1, z1, z2] <;> rfl⟩
set_option maxHeartbeats 2000000 in
theorem szK_Weights (v0 v1 : Value) (d : Dat sWeights) (left : Int) (w : World) (h : Rd w w.heap.size sWeights [.int .i64 d.1, v0, v1] d) (h0 : 0 ≤ left) (h1 : left ≤ 1048576) :
  Calls Try.prog 36 #[.agg #[.int .i64 d.1, v0, v1], .int .i64 left] w (AnsSzK w left (sz sWeights d)) := by
 obtain ⟨g0, g1, g2⟩ := parts_Weights h
 obtain ⟨t0, ht0⟩ : ∃ t, sz sI d.2.1 = t := ⟨_, rfl⟩
 obtain ⟨t1, ht1⟩ : ∃ t, sz sI d.2.2 = t := ⟨_, rfl⟩
 have HE : Hid (sz sWeights d = t0 + t1) := hid (by rw [← ht0, ← ht1]; simp only [sz]; try omega)
 have HT0 := hid ht0
 have G0 := hid g1
 have HT1 := hid ht1
 have G1 := hid g2
 obtain ⟨W, hW⟩ : ∃ W, W = w.alloc (.cells #[.int .i64 d.1, v0, v1] 59) := ⟨_, rfl⟩
 have r : Row W w.heap.size 59 #[.int .i64 d.1, v0, v1] := by rw [hW]; exact Row.new _ _ _
 have bel : Below w.heap.size w W := by rw [hW]; exact (Below.refl _ _).alloc (Nat.le_refl _) _
 have HW := hid hW
 clear hW h g0 g1 g2 ht0 ht1
 go_enter Try.func36, Try.ntmps36
 go_wp2_with fail
 rw [← HW.out]
 refine (szK_ints _ _ left W (G0.out.next bel) h0 h1).mono ?_
 rintro e w1 ⟨he, bb⟩
 rw [HT0.out] at he
 replace r := r.next bb
 replace bel := next_trans bel bb
 clear bb
 by_cases q0 : left - (t0 : Int) < 0
 ·rw [if_pos q0] at he
  subst he
  have F : AnsSzK w left (sz sWeights d) (.returned (.int .i64 (-1))) w1 := ⟨by rw [HE.out, if_pos (by omega)], bel⟩
  have HF := hid F
  clear F bel r
  go_wp2
  go_ret
  exact HF.out
 rw [if_neg q0] at he
 obtain ⟨l0, hl0⟩ : ∃ l, left - (t0 : Int) = l := ⟨_, rfl⟩
 rw [hl0] at he
 have a0 : 0 ≤ l0 := by omega
 have b0 : l0 ≤ 1048576 := by omega
 have HL0 := hid hl0
 clear hl0 q0
 subst he
 have c0_0 : w1.cell? ⟨w.heap.size, 2, none⟩ = some (v1) := r.cell 2
 go_wp2_with fail
 refine (szK_ints _ _ l0 w1 (G1.out.next bel) a0 b0).mono ?_
 rintro e w2 ⟨he, bb⟩
 rw [HT1.out] at he
 replace r := r.next bb
 replace bel := next_trans bel bb
 clear bb
 by_cases q1 : l0 - (t1 : Int) < 0
 ·rw [if_pos q1] at he
  subst he
  have F : AnsSzK w left (sz sWeights d) (.returned (.int .i64 (-1))) w2 := ⟨by have := HL0.out; rw [HE.out, if_pos (by omega)], bel⟩
  have HF := hid F
  clear F bel r
  go_wp2
  go_ret
  exact HF.out
 rw [if_neg q1] at he
 obtain ⟨l1, hl1⟩ : ∃ l, l0 - (t1 : Int) = l := ⟨_, rfl⟩
 rw [hl1] at he
 have a1 : 0 ≤ l1 := by omega
 have b1 : l1 ≤ 1048576 := by omega
 have HL1 := hid hl1
 clear hl1 q1
 subst he
 have F : AnsSzK w left (sz sWeights d) (.returned (.int .i64 l1)) w2 := ⟨by have := HL0.out; have := HL1.out; rw [HE.out, if_neg (by omega)]; exact congrArg (fun z => Ending.returned (.int .i64 z)) (by omega), bel⟩
 have HF := hid F
 clear F bel r
 go_wp2
 go_ret
 exact HF.out
def CopyWeights (w : World) (d : Dat sWeights) (e : Ending) (w' : World) : Prop := ∃ A0 n0 c0 A1 n1 c1, e = .returned (.agg #[.int .i64 d.1, .slice A0 n0 c0, .slice A1 n1 c1]) ∧ Owned w' w.heap.size w'.heap.size sWeights [.int .i64 d.1, .slice A0 n0 c0, .slice A1 n1 c1] d ∧ Below w.heap.size w w'
set_option maxHeartbeats 2000000 in
theorem toK_Weights (v0 v1 : Value) (d : Dat sWeights) (w : World) (h : Rd w w.heap.size sWeights [.int .i64 d.1, v0, v1] d) (hz : sz sWeights d ≤ 1048576) :
  Calls Try.prog 39 #[.agg #[.int .i64 d.1, v0, v1]] w (CopyWeights w d) := by
 obtain ⟨g0, g1, g2⟩ := parts_Weights h
 have cp0 := CpS.init w 59 32 #[.int .i64 d.1, v0, v1] #[.int .i64 0, .slice none 0 0, .slice none 0 0] #[.int .i64 d.1, .slice none 0 0, .slice none 0 0]
 obtain ⟨W, hW⟩ : ∃ W, W = ((w.alloc (.cells #[.int .i64 d.1, v0, v1] 59)).alloc (.cells #[.int .i64 0, .slice none 0 0, .slice none 0 0] 32)).alloc (.cells #[.int .i64 d.1, .slice none 0 0, .slice none 0 0] 32) := ⟨_, rfl⟩
 rw [← hW] at cp0
 have HW := hid hW
 have G1 := hid g1
 have Z1 : Hid (sz sI d.2.1 ≤ 1048576) := hid (by have := hz; simp only [sz] at this ⊢; omega)
 have G2 := hid g2
 have Z2 : Hid (sz sI d.2.2 ≤ 1048576) := hid (by have := hz; simp only [sz] at this ⊢; omega)
 clear hW hz h g0 g1 g2
 go_enter Try.func39, Try.ntmps39
 go_wp2_with fail
 rw [← HW.out]
 refine (toK_ints _ _ _ ((G1.out.below cp0.bel).more cp0.bel.size) Z1.out).mono ?_
 rintro e w1 ⟨x1A0, x1n0, x1c0, rfl, o1, bb⟩
 have zb1 := bb.size
 have zc1 := cp0.size
 replace cp0 := cp0.next bb
 clear bb
 have f1_0 : w1.frozen? ⟨w.heap.size + 1 + 1, 1, none⟩ = false := cp0.cur.free 1
 have k1_0 : w1.cell? ⟨w.heap.size + 1 + 1, 1, none⟩ = some (.slice none 0 0) := cp0.cur.cell 1
 obtain ⟨w2, hw1⟩ : ∃ x, x = (w1.setCell ⟨w.heap.size + 1 + 1, 1, none⟩ (.slice x1A0 x1n0 x1c0)) := ⟨_, rfl⟩
 replace o1 := o1.put (g := w.heap.size + 1 + 1) (i := 1) (u := .slice x1A0 x1n0 x1c0) (by omega)
 rw [← hw1] at o1
 replace cp0 : CpS w 59 32 #[.int .i64 d.1, v0, v1] #[.int .i64 0, .slice none 0 0, .slice none 0 0] #[.int .i64 d.1, .slice x1A0 x1n0 x1c0, .slice none 0 0] w2 := by rw [hw1]; exact (CpS.put cp0 1 (.slice x1A0 x1n0 x1c0))
 have zw1 : w2.heap.size = w1.heap.size := by rw [hw1]; simp
 have HW1 := hid hw1
 clear hw1
 have d2_0 : w2.cell? ⟨w.heap.size, 2, none⟩ = some (v1) := cp0.box.cell 2
 rw [HW1.out] at d2_0
 go_wp2_with fail
 rw [← HW1.out]
 clear d2_0
 refine (toK_ints _ _ _ ((G2.out.below cp0.bel).more cp0.bel.size) Z2.out).mono ?_
 rintro e w3 ⟨x2A0, x2n0, x2c0, rfl, o2, bb⟩
 replace o1 := o1.next bb
 have zb2 := bb.size
 have zc2 := cp0.size
 replace cp0 := cp0.next bb
 clear bb
 have f2_0 : w3.frozen? ⟨w.heap.size + 1 + 1, 2, none⟩ = false := cp0.cur.free 2
 have k2_0 : w3.cell? ⟨w.heap.size + 1 + 1, 2, none⟩ = some (.slice none 0 0) := cp0.cur.cell 2
 obtain ⟨w4, hw2⟩ : ∃ x, x = (w3.setCell ⟨w.heap.size + 1 + 1, 2, none⟩ (.slice x2A0 x2n0 x2c0)) := ⟨_, rfl⟩
 replace o1 := o1.put (g := w.heap.size + 1 + 1) (i := 2) (u := .slice x2A0 x2n0 x2c0) (by omega)
 rw [← hw2] at o1
 replace o2 := o2.put (g := w.heap.size + 1 + 1) (i := 2) (u := .slice x2A0 x2n0 x2c0) (by omega)
 rw [← hw2] at o2
 replace cp0 : CpS w 59 32 #[.int .i64 d.1, v0, v1] #[.int .i64 0, .slice none 0 0, .slice none 0 0] #[.int .i64 d.1, .slice x1A0 x1n0 x1c0, .slice x2A0 x2n0 x2c0] w4 := by rw [hw2]; exact (CpS.put cp0 2 (.slice x2A0 x2n0 x2c0))
 have zw2 : w4.heap.size = w3.heap.size := by rw [hw2]; simp
 have HW2 := hid hw2
 clear hw2
 have y0 : w4.cell? ⟨w.heap.size + 1 + 1, 0, none⟩ = some (.int .i64 d.1) := cp0.cur.cell 0
 rw [HW2.out] at y0
 have y1 : w4.cell? ⟨w.heap.size + 1 + 1, 1, none⟩ = some (.slice x1A0 x1n0 x1c0) := cp0.cur.cell 1
 rw [HW2.out] at y1
 have y2 : w4.cell? ⟨w.heap.size + 1 + 1, 2, none⟩ = some (.slice x2A0 x2n0 x2c0) := cp0.cur.cell 2
 rw [HW2.out] at y2
 have s0 : (w4).cell? ⟨w.heap.size + 1, 0, none⟩ = some (.int .i64 0) := cp0.res.cell 0
 rw [HW2.out] at s0
 have r0 : (w4).frozen? ⟨w.heap.size + 1, 0, none⟩ = false := cp0.res.free 0
 rw [HW2.out] at r0
 have s1 : ((w4.setCell ⟨w.heap.size + 1, 0, none⟩ (.int .i64 d.1))).cell? ⟨w.heap.size + 1, 1, none⟩ = some (.slice none 0 0) := (CpS.fin cp0 0 (.int .i64 d.1)).res.cell 1
 rw [HW2.out] at s1
 have r1 : ((w4.setCell ⟨w.heap.size + 1, 0, none⟩ (.int .i64 d.1))).frozen? ⟨w.heap.size + 1, 1, none⟩ = false := (CpS.fin cp0 0 (.int .i64 d.1)).res.free 1
 rw [HW2.out] at r1
 have s2 : (((w4.setCell ⟨w.heap.size + 1, 0, none⟩ (.int .i64 d.1)).setCell ⟨w.heap.size + 1, 1, none⟩ (.slice x1A0 x1n0 x1c0))).cell? ⟨w.heap.size + 1, 2, none⟩ = some (.slice none 0 0) := (CpS.fin (CpS.fin cp0 0 (.int .i64 d.1)) 1 (.slice x1A0 x1n0 x1c0)).res.cell 2
 rw [HW2.out] at s2
 have r2 : (((w4.setCell ⟨w.heap.size + 1, 0, none⟩ (.int .i64 d.1)).setCell ⟨w.heap.size + 1, 1, none⟩ (.slice x1A0 x1n0 x1c0))).frozen? ⟨w.heap.size + 1, 2, none⟩ = false := (CpS.fin (CpS.fin cp0 0 (.int .i64 d.1)) 1 (.slice x1A0 x1n0 x1c0)).res.free 2
 rw [HW2.out] at r2
 have o0 := Owned.num w4 (W.heap.size) (W.heap.size) d.1
 have oo : Owned w4 (w.heap.size + 1 + 1 + 1) w4.heap.size sWeights [.int .i64 d.1, .slice x1A0 x1n0 x1c0, .slice x2A0 x2n0 x2c0] d := join_Weights (m0 := W.heap.size) (m1 := W.heap.size) (m2 := w2.heap.size) (m3 := w4.heap.size) o0 (o1.wider (Nat.le_refl _) (by omega)) (o2.wider (Nat.le_refl _) (by omega)) (by omega) (by omega) (by omega) (by omega) (by omega)
 have F : CopyWeights w d (.returned (.agg #[.int .i64 d.1, .slice x1A0 x1n0 x1c0, .slice x2A0 x2n0 x2c0])) (((w4.setCell ⟨w.heap.size + 1, 0, none⟩ (.int .i64 d.1)).setCell ⟨w.heap.size + 1, 1, none⟩ (.slice x1A0 x1n0 x1c0)).setCell ⟨w.heap.size + 1, 2, none⟩ (.slice x2A0 x2n0 x2c0)) := ⟨x1A0, x1n0, x1c0, x2A0, x2n0, x2c0, rfl, Owned.wider ((((oo.put (g := w.heap.size + 1) (i := 0) (u := .int .i64 d.1) (by omega)).put (g := w.heap.size + 1) (i := 1) (u := .slice x1A0 x1n0 x1c0) (by omega)).put (g := w.heap.size + 1) (i := 2) (u := .slice x2A0 x2n0 x2c0) (by omega))) (by omega) (by simp), ((CpS.fin (CpS.fin (CpS.fin cp0 0 (.int .i64 d.1)) 1 (.slice x1A0 x1n0 x1c0)) 2 (.slice x2A0 x2n0 x2c0))).bel⟩
 have u0 : ((((w4.setCell ⟨w.heap.size + 1, 0, none⟩ (.int .i64 d.1)).setCell ⟨w.heap.size + 1, 1, none⟩ (.slice x1A0 x1n0 x1c0)).setCell ⟨w.heap.size + 1, 2, none⟩ (.slice x2A0 x2n0 x2c0))).cell? ⟨w.heap.size + 1, 0, none⟩ = some (.int .i64 d.1) := (CpS.fin (CpS.fin (CpS.fin cp0 0 (.int .i64 d.1)) 1 (.slice x1A0 x1n0 x1c0)) 2 (.slice x2A0 x2n0 x2c0)).res.cell 0
 rw [HW2.out] at u0
 have u1 : ((((w4.setCell ⟨w.heap.size + 1, 0, none⟩ (.int .i64 d.1)).setCell ⟨w.heap.size + 1, 1, none⟩ (.slice x1A0 x1n0 x1c0)).setCell ⟨w.heap.size + 1, 2, none⟩ (.slice x2A0 x2n0 x2c0))).cell? ⟨w.heap.size + 1, 1, none⟩ = some (.slice x1A0 x1n0 x1c0) := (CpS.fin (CpS.fin (CpS.fin cp0 0 (.int .i64 d.1)) 1 (.slice x1A0 x1n0 x1c0)) 2 (.slice x2A0 x2n0 x2c0)).res.cell 1
 rw [HW2.out] at u1
 have u2 : ((((w4.setCell ⟨w.heap.size + 1, 0, none⟩ (.int .i64 d.1)).setCell ⟨w.heap.size + 1, 1, none⟩ (.slice x1A0 x1n0 x1c0)).setCell ⟨w.heap.size + 1, 2, none⟩ (.slice x2A0 x2n0 x2c0))).cell? ⟨w.heap.size + 1, 2, none⟩ = some (.slice x2A0 x2n0 x2c0) := (CpS.fin (CpS.fin (CpS.fin cp0 0 (.int .i64 d.1)) 1 (.slice x1A0 x1n0 x1c0)) 2 (.slice x2A0 x2n0 x2c0)).res.cell 2
 rw [HW2.out] at u2
 rw [HW2.out] at F
 have HF := hid F
 clear F oo cp0 o1 o2
 go_wp2
 exact bodyPost_ret (v := .agg #[.int .i64 d.1, .slice x1A0 x1n0 x1c0, .slice x2A0 x2n0 x2c0]) (by simp [results, Try.results39, go_sem, u0, u1, u2]) rfl HF.out
set_option maxHeartbeats 2000000 in
theorem eqK_Weights (v0 v1 u0 u1 : Value) (d : Dat sWeights) (w : World) (h : Rd w w.heap.size sWeights [.int .i64 d.1, v0, v1] d) (h' : Rd w w.heap.size sWeights [.int .i64 d.1, u0, u1] d) (hz : sz sWeights d ≤ 1048576) :
  Calls Try.prog 41 #[.agg #[.int .i64 d.1, v0, v1], .agg #[.int .i64 d.1, u0, u1]] w (Yes w) := by
 obtain ⟨g0, g1, g2⟩ := parts_Weights h
 obtain ⟨g0', g1', g2'⟩ := parts_Weights h'
 obtain ⟨W, hW⟩ : ∃ W, W = (w.alloc (.cells #[.int .i64 d.1, v0, v1] 32)).alloc (.cells #[.int .i64 d.1, u0, u1] 32) := ⟨_, rfl⟩
 have ra : Row W w.heap.size 32 #[.int .i64 d.1, v0, v1] := by rw [hW]; exact (Row.new w 32 #[.int .i64 d.1, v0, v1]).alloc _
 have rb : Row W (w.heap.size + 1) 32 #[.int .i64 d.1, u0, u1] := by rw [hW]; have := Row.new (w.alloc (.cells #[.int .i64 d.1, v0, v1] 32)) 32 #[.int .i64 d.1, u0, u1]; simpa using this
 have bel : Below w.heap.size w W := by rw [hW]; exact ((Below.refl _ _).alloc (Nat.le_refl _) _).alloc (by simp) _
 have HW := hid hW
 have G1 := hid g1
 have G1' := hid g1'
 have Z1 : Hid (sz sI d.2.1 ≤ 1048576) := hid (by have := hz; simp only [sz] at this ⊢; omega)
 have G2 := hid g2
 have G2' := hid g2'
 have Z2 : Hid (sz sI d.2.2 ≤ 1048576) := hid (by have := hz; simp only [sz] at this ⊢; omega)
 clear hW hz h h' g0 g0' g1 g1' g2 g2'
 go_enter Try.func41, Try.ntmps41
 go_wp2_with fail
 rw [← HW.out]
 refine (eqK_ints _ _ _ W (G1.out.next bel) (G1'.out.next bel) Z1.out).mono ?_
 rintro e w1 ⟨rfl, bb⟩
 replace ra := ra.next bb
 replace rb := rb.next bb
 replace bel := next_trans bel bb
 clear bb
 have a2_0 : w1.cell? ⟨w.heap.size, 2, none⟩ = some (v1) := ra.cell 2
 have b2_0 : w1.cell? ⟨w.heap.size + 1, 2, none⟩ = some (u1) := rb.cell 2
 go_wp2_with fail
 clear a2_0 b2_0
 refine (eqK_ints _ _ _ w1 (G2.out.next bel) (G2'.out.next bel) Z2.out).mono ?_
 rintro e w2 ⟨rfl, bb⟩
 replace ra := ra.next bb
 replace rb := rb.next bb
 replace bel := next_trans bel bb
 clear bb
 have F : Yes w (.returned (.bool true)) w2 := ⟨rfl, bel⟩
 have HF := hid F
 clear F ra rb bel
 go_wp2
 go_ret
 exact HF.out
end kindsK
end
section
namespace kboX
open Go.RowKit base ints sig term termOk termFacts marks sym segs kinds varsOf shape kindsR kindsK ruleMath ruleSpec kboMath kboLink kboOft kboWt kboOk kboScale kboFun
set_option maxRecDepth 100000
theorem rd_w {w : World} {B : Nat} {s r : Value} {d : Dat sWeights} (h : Rd w B sWeights [.int .i64 d.1, s, r] d) (hz : sz sWeights d ≤ 1048576) : ∃ Y yn yc R rn rc, s = .slice Y yn yc ∧ r = .slice R rn rc ∧ Seg w B Y yn d.2.1 ∧ Seg w B R rn d.2.2 ∧ yn ≤ 1048576 ∧ rn ≤ 1048576 ∧ Cap Y yn yc ∧ Cap R rn rc := by
 obtain ⟨-, h1, h2⟩ := parts_Weights h
 obtain ⟨Y, yn, yc, rfl, hY, cY⟩ := rd_ints.1 h1
 obtain ⟨R, rn, rc, rfl, hR, cR⟩ := rd_ints.1 h2
 have l1 := hY.1
 have l2 := hR.1
 have z1 : sz sI d.2.1 + sz sI d.2.2 ≤ 1048576 := by have := hz; simp only [sz] at this ⊢; omega
 rw [sz_ints, sz_ints] at z1
 exact ⟨Y, yn, yc, R, rn, rc, rfl, rfl, hY, hR, by omega, by omega, cY, cR⟩
theorem rd_s {w : World} {B : Nat} {a : Value} {d : List Int} (h : Rd w B sI [a] d) (hz : sz sI d ≤ 1048576) : ∃ A n c, a = .slice A n c ∧ Seg w B A n d ∧ n ≤ 1048576 ∧ Cap A n c := by
 obtain ⟨A, n, c, rfl, hA, cA⟩ := rd_ints.1 h
 have l := hA.1
 rw [sz_ints] at hz
 exact ⟨A, n, c, rfl, hA, by omega, cA⟩
end kboX
end
section
open Go.Lib (hid)
namespace kboLight
open Go.RowKit base ints sig term termOk termFacts marks sym varsOf ruleSpec forest rankMath rankSpec lpoLink lpoPrec kboMath kboLink kboOft kboWt kboOk kboScale whole kboFun
set_option maxRecDepth 100000
def litTo (sg sy : List Int) : Nat → Int
 | 0 => -1
 | k + 1 => if sg.getD k 0 = 0 ∧ (litTo sg sy k < 0 ∨ sy.getD k 0 < litTo sg sy k) then sy.getD k 0 else litTo sg sy k
def litV (sg : List Int) (v : Int) (sy rk : List Int) : Int := if wB sg v sy rk = true then litTo sg sy sy.length else -1
theorem lit_no {sg sy rk : List Int} {v : Int} (h : wB sg v sy rk = false) : litV sg v sy rk = -1 := by unfold litV; rw [h]; rfl
theorem lit_yes {sg sy rk : List Int} {v : Int} (h : wB sg v sy rk = true) : litV sg v sy rk = litTo sg sy sy.length := by unfold litV; rw [h]; rfl
theorem lit_step {sg sy : List Int} {k : Nat} {a y : Int} (ha : Hid (sg.getD k 0 = a)) (hy : Hid (sy.getD k 0 = y)) {z u : Int} (hz : Hid (litTo sg sy k = z)) (h : (if a = 0 ∧ (z < 0 ∨ y < z) then y else z) = u) : litTo sg sy (k + 1) = u := by
 show (if sg.getD k 0 = 0 ∧ (litTo sg sy k < 0 ∨ sy.getD k 0 < litTo sg sy k) then sy.getD k 0 else litTo sg sy k) = u
 rw [ha.out, hy.out, hz.out]
 exact h
def HeadLs (w : World) (n : Nat) (ca cb : Array Value) (sg sy : List Int) (b i : Value) (wr : World) : Prop := ∃ k : Nat, k ≤ n ∧ i = .int .i64 k ∧ b = .int .i64 (litTo sg sy k) ∧ R2 w 29 32 ca cb wr
def HeadLi (w : World) (g n : Nat) (cs : Array Value) (sg sy : List Int) (b i : Value) (wr : World) : Prop := ∃ k : Nat, k ≤ n ∧ i = .int .i64 k ∧ b = .int .i64 (litTo sg sy k) ∧ Row wr g 96 cs ∧ Below w.heap.size w wr
set_option maxHeartbeats 4000000 in
theorem specLightestOf (A Y R : Option Addr) (n c yn yc rn rc : Nat) (v : Int) (sg sy rk : List Int) (w : World) (hA : Seg w w.heap.size A n sg) (hY : Seg w w.heap.size Y yn sy) (hR : Seg w w.heap.size R rn rk) (hn : n ≤ 1048576) (hyn : yn ≤ 1048576) (hrn : rn ≤ 1048576) :
  Calls Try.prog 51 #[.agg #[.slice A n c], .agg #[.int .i64 v, .slice Y yn yc, .slice R rn rc]] w (AnsI w (litV sg v sy rk)) := by
 obtain ⟨W, hW, q⟩ := r2_new w 29 32 #[.slice A n c] #[.int .i64 v, .slice Y yn yc, .slice R rn rc]
 have HW := hid hW
 have k0 : W.cell? ⟨w.heap.size, 0, none⟩ = some (.slice A n c) := q.a.cell 0
 have k1 : W.cell? ⟨w.heap.size + 1, 0, none⟩ = some (.int .i64 v) := q.b.cell 0
 have k2 : W.cell? ⟨w.heap.size + 1, 1, none⟩ = some (.slice Y yn yc) := q.b.cell 1
 have k3 : W.cell? ⟨w.heap.size + 1, 2, none⟩ = some (.slice R rn rc) := q.b.cell 2
 rw [hW] at k0 k1 k2 k3
 have HAL := hid (hA.1)
 have HYL := hid (hY.1)
 have SA := hid (hA)
 have SY := hid (hY)
 have L1 := hid (specWeightsOk A Y R n c yn yc rn rc v sg sy rk W (hA.next q.l) (hY.next q.l) (hR.next q.l) hn hyn hrn)
 clear hW hA hY hR
 cases hb : wB sg v sy rk with
 | false =>
  have HB := hid hb
  clear hb
  go_enter Try.func51, Try.ntmps51
  go_wp2_with fail
  rw [← HW.out]
  clear k0 k1 k2 k3
  refine L1.out.mono ?_
  rintro e w2 ⟨he, bb⟩
  rw [HB.out] at he
  subst he
  replace q := q.next bb
  clear bb L1
  have F := hid (show AnsI w (litV sg v sy rk) (.returned (.int .i64 (-1))) w2 from ⟨by rw [lit_no HB.out], q.l⟩)
  clear q
  go_wp2
  go_ret
  exact F.out
 | true =>
  have HB := hid hb
  clear hb
  go_enter Try.func51, Try.ntmps51
  go_wp2_with fail
  rw [← HW.out]
  clear k0 k1 k2 k3
  refine L1.out.mono ?_
  rintro e w2 ⟨he, bb⟩
  rw [HB.out] at he
  subst he
  replace q := q.next bb
  clear bb L1
  have hny : yn = n := by rw [← HYL.out, (w_parts HB.out).2.2.1, HAL.out]
  have k2 : w2.cell? ⟨w.heap.size + 1, 1, none⟩ = some (.slice Y yn yc) := q.b.cell 1
  have H0 := hid (show HeadLs w yn #[.slice A n c] #[.int .i64 v, .slice Y yn yc, .slice R rn rc] sg sy (.int .i64 (-1)) (.int .i64 0) w2 from ⟨0, Nat.zero_le _, rfl, rfl, q⟩)
  clear q
  go_wp2
  go_loopw [5, 6] (fun b i wr => HeadLs w yn #[.slice A n c] #[.int .i64 v, .slice Y yn yc, .slice R rn rc] sg sy b i wr) (fun _ i _ => yn - (intOf i).toNat)
  case atStart => exact H0.out
  case round =>
   clear H0 k2
   obtain ⟨k, hk, rfl, rfl, q⟩ := hrel
   obtain ⟨z, hz⟩ : ∃ z, litTo sg sy k = z := ⟨_, rfl⟩
   have HZ := hid hz
   rw [hz]
   clear hz
   have k0 : wr.cell? ⟨w.heap.size, 0, none⟩ = some (.slice A n c) := q.a.cell 0
   have k2 : wr.cell? ⟨w.heap.size + 1, 1, none⟩ = some (.slice Y yn yc) := q.b.cell 1
   by_cases hlt : k < yn
   case neg =>
    have F := hid (show AnsI w (litV sg v sy rk) (.returned (.int .i64 z)) wr from ⟨by rw [lit_yes HB.out, HYL.out, show yn = k by omega, HZ.out], q.l⟩)
    clear q
    go_wp2
    go_ret
    exact F.out
   obtain ⟨ba, oa, a, rfl, zA, ca, ea⟩ := SA.out.spot (k := k) (by omega)
   obtain ⟨by_, oy, y, rfl, zY, cy, ey⟩ := SY.out.spot hlt
   have ca' : wr.cell? ⟨ba, oa + k, none⟩ = some (.int .i64 a) := (q.l.cell (p := ⟨ba, oa + k, none⟩) zA).trans ca
   have cy' : wr.cell? ⟨by_, oy + k, none⟩ = some (.int .i64 y) := (q.l.cell (p := ⟨by_, oy + k, none⟩) zY).trans cy
   clear ca cy
   have i2 : (k : Int) < (n : Int) := by omega
   have i0 : (0 : Int) ≤ (k : Int) := by omega
   have i1 : (k : Int) < (yn : Int) := by omega
   by_cases a0 : a = 0
   ·subst a0
    have da : ((0 : Int) == 0) = true := by simp
    by_cases z0 : z < 0
    ·have dz : decide (z < 0) = true := decide_eq_true z0
     have S1 := hid (show HeadLs w yn #[.slice (some ⟨ba, oa, none⟩) n c] #[.int .i64 v, .slice (some ⟨by_, oy, none⟩) yn yc, .slice R rn rc] sg sy (.int .i64 y) (.int .i64 ((k : Int) + 1)) wr from ⟨k + 1, hlt, by simp, by rw [lit_step ea ey HZ (if_pos ⟨rfl, Or.inl z0⟩)], q⟩)
     clear q
     go_wp2
     go_roundw
     case rel => exact S1.out
     case measure => simp [intOf]; omega
    ·have dz : decide (z < 0) = false := decide_eq_false z0
     by_cases yz : y < z
     ·have dy : decide (y < z) = true := decide_eq_true yz
      have S1 := hid (show HeadLs w yn #[.slice (some ⟨ba, oa, none⟩) n c] #[.int .i64 v, .slice (some ⟨by_, oy, none⟩) yn yc, .slice R rn rc] sg sy (.int .i64 y) (.int .i64 ((k : Int) + 1)) wr from ⟨k + 1, hlt, by simp, by rw [lit_step ea ey HZ (if_pos ⟨rfl, Or.inr yz⟩)], q⟩)
      clear q
      go_wp2
      go_roundw
      case rel => exact S1.out
      case measure => simp [intOf]; omega
     ·have dy : decide (y < z) = false := decide_eq_false yz
      have S1 := hid (show HeadLs w yn #[.slice (some ⟨ba, oa, none⟩) n c] #[.int .i64 v, .slice (some ⟨by_, oy, none⟩) yn yc, .slice R rn rc] sg sy (.int .i64 z) (.int .i64 ((k : Int) + 1)) wr from ⟨k + 1, hlt, by simp, by rw [lit_step ea ey HZ (if_neg (fun h => by rcases h.2 with h | h <;> omega))], q⟩)
      clear q
      go_wp2
      go_roundw
      case rel => exact S1.out
      case measure => simp [intOf]; omega
   ·have da : (a == 0) = false := by simp [a0]
    have S1 := hid (show HeadLs w yn #[.slice (some ⟨ba, oa, none⟩) n c] #[.int .i64 v, .slice (some ⟨by_, oy, none⟩) yn yc, .slice R rn rc] sg sy (.int .i64 z) (.int .i64 ((k : Int) + 1)) wr from ⟨k + 1, hlt, by simp, by rw [lit_step ea ey HZ (if_neg (fun h => a0 h.1))], q⟩)
    clear q
    go_wp2
    go_roundw
    case rel => exact S1.out
    case measure => simp [intOf]; omega
set_option maxHeartbeats 4000000 in
theorem implLightestOf (A Y R : Option Addr) (n c yn yc rn rc : Nat) (v : Int) (sg sy rk : List Int) (w : World) (hA : Seg w w.heap.size A n sg) (hY : Seg w w.heap.size Y yn sy) (hR : Seg w w.heap.size R rn rk) (hn : n ≤ 1048576) (hyn : yn ≤ 1048576) (hrn : rn ≤ 1048576) :
  Calls Try.prog 29 #[.agg #[.slice A n c], .agg #[.int .i64 v, .slice Y yn yc, .slice R rn rc]] w (AnsI w (litV sg v sy rk)) := by
 obtain ⟨W, hW, q⟩ := r2_new w 29 32 #[.slice A n c] #[.int .i64 v, .slice Y yn yc, .slice R rn rc]
 have HW := hid hW
 have k0 : W.cell? ⟨w.heap.size, 0, none⟩ = some (.slice A n c) := q.a.cell 0
 have k1 : W.cell? ⟨w.heap.size + 1, 0, none⟩ = some (.int .i64 v) := q.b.cell 0
 have k2 : W.cell? ⟨w.heap.size + 1, 1, none⟩ = some (.slice Y yn yc) := q.b.cell 1
 have k3 : W.cell? ⟨w.heap.size + 1, 2, none⟩ = some (.slice R rn rc) := q.b.cell 2
 rw [hW] at k0 k1 k2 k3
 have HAL := hid (hA.1)
 have HYL := hid (hY.1)
 have SA := hid (hA)
 have SY := hid (hY)
 have L1 := hid (scale2 A Y R n c yn yc rn rc v sg sy rk W (hA.next q.l) (hY.next q.l) (hR.next q.l) hn hyn hrn)
 clear hW hA hY hR
 cases hb : wB sg v sy rk with
 | false =>
  have HB := hid hb
  clear hb
  go_enter Try.func29, Try.ntmps29
  go_wp2_with fail
  rw [← HW.out]
  clear k0 k1 k2 k3
  refine (L1.out.2 HB.out).mono ?_
  rintro e w1 ⟨rfl, bb⟩
  replace q := q.next bb
  clear bb L1
  obtain ⟨w2, hw2, rs, bb⟩ := box_one w1 96 #[.slice none 0 0, .slice none 0 0, .int .i64 0, .slice none 0 0]
  have H2 := hid hw2
  replace q := q.next bb
  clear hw2 bb
  go_wp2_with (first
   | (refine rowStore rfl 96 _ _ rfl w1.heap.size #[.slice none 0 0, .slice none 0 0, .int .i64 0, .slice none 0 0] #[.slice none 0 0, .slice none 0 0, .int .i64 0, .slice none 0 0] 96 rfl rfl (heap_alloc_new w1 _) size_s rfl (by simp [Value.oneCell']) ?_; rw [World.setRow_alloc_new]; rw [← H2.out]; refine (?_ : Hid _).out))
  refine hid ?_
  clear H2
  have m3 : w2.cell? ⟨w1.heap.size, 3, none⟩ = some (.slice none 0 0) := rs.cell 3
  have F := hid (show ∀ wr, wr = w2 → AnsI w (litV sg v sy rk) (.returned (.int .i64 (-1))) wr from fun wr hw => ⟨by rw [lit_no HB.out], by rw [hw]; exact q.l⟩)
  clear q rs
  go_wp2
  go_loopw [7, 19] (fun b i wr => b = .int .i64 (-1) ∧ i = .int .i64 0 ∧ wr = w2) (fun _ _ _ => 0)
  case atStart => exact ⟨rfl, rfl, rfl⟩
  case round =>
   obtain ⟨rfl, rfl, hw⟩ := hrel
   have F2 := hid (F.out _ hw)
   clear hw
   go_wp2
   go_ret
   exact F2.out
 | true =>
  have HB := hid hb
  clear hb
  go_enter Try.func29, Try.ntmps29
  go_wp2_with fail
  rw [← HW.out]
  clear k0 k1 k2 k3
  refine (L1.out.1 HB.out).mono ?_
  rintro e w1 ⟨rfl, bb⟩
  replace q := q.next bb
  clear bb L1
  obtain ⟨w2, hw2, rs, bb⟩ := box_one w1 96 #[.slice A n c, .slice R rn rc, .int .i64 v, .slice Y yn yc]
  have H2 := hid hw2
  replace q := q.next bb
  clear hw2 bb
  go_wp2_with (first
   | (refine rowStore rfl 96 _ _ rfl w1.heap.size #[.slice A n c, .slice R rn rc, .int .i64 v, .slice Y yn yc] #[.slice none 0 0, .slice none 0 0, .int .i64 0, .slice none 0 0] 96 rfl rfl (heap_alloc_new w1 _) size_s rfl (by simp [Value.oneCell']) ?_; rw [World.setRow_alloc_new]; rw [← H2.out]; refine (?_ : Hid _).out))
  refine hid ?_
  clear H2
  have hny : yn = n := by rw [← HYL.out, (w_parts HB.out).2.2.1, HAL.out]
  have m3 : w2.cell? ⟨w1.heap.size, 3, none⟩ = some (.slice Y yn yc) := rs.cell 3
  have H0 := hid (show HeadLi w w1.heap.size yn #[.slice A n c, .slice R rn rc, .int .i64 v, .slice Y yn yc] sg sy (.int .i64 (-1)) (.int .i64 0) w2 from ⟨0, Nat.zero_le _, rfl, rfl, rs, q.l⟩)
  clear q rs
  go_wp2
  go_loopw [7, 19] (fun b i wr => HeadLi w w1.heap.size yn #[.slice A n c, .slice R rn rc, .int .i64 v, .slice Y yn yc] sg sy b i wr) (fun _ i _ => yn - (intOf i).toNat)
  case atStart => exact H0.out
  case round =>
   clear H0 m3
   obtain ⟨k, hk, rfl, rfl, rs, ql⟩ := hrel
   obtain ⟨z, hz⟩ : ∃ z, litTo sg sy k = z := ⟨_, rfl⟩
   have HZ := hid hz
   rw [hz]
   clear hz
   have k0 : wr.cell? ⟨w1.heap.size, 0, none⟩ = some (.slice A n c) := rs.cell 0
   by_cases hlt : k < yn
   case neg =>
    have F := hid (show AnsI w (litV sg v sy rk) (.returned (.int .i64 z)) wr from ⟨by rw [lit_yes HB.out, HYL.out, show yn = k by omega, HZ.out], ql⟩)
    clear rs ql
    go_wp2
    go_ret
    exact F.out
   obtain ⟨ba, oa, a, rfl, zA, ca, ea⟩ := SA.out.spot (k := k) (by omega)
   obtain ⟨by_, oy, y, rfl, zY, cy, ey⟩ := SY.out.spot hlt
   have ca' : wr.cell? ⟨ba, oa + k, none⟩ = some (.int .i64 a) := (ql.cell (p := ⟨ba, oa + k, none⟩) zA).trans ca
   have cy' : wr.cell? ⟨by_, oy + k, none⟩ = some (.int .i64 y) := (ql.cell (p := ⟨by_, oy + k, none⟩) zY).trans cy
   clear ca cy
   have i2 : (k : Int) < (n : Int) := by omega
   have i0 : (0 : Int) ≤ (k : Int) := by omega
   have i1 : (k : Int) < (yn : Int) := by omega
   by_cases a0 : a = 0
   ·subst a0
    have da : ((0 : Int) == 0) = true := by simp
    by_cases z0 : z < 0
    ·have dz : decide (z < 0) = true := decide_eq_true z0
     have S1 := hid (show HeadLi w w1.heap.size yn #[.slice (some ⟨ba, oa, none⟩) n c, .slice R rn rc, .int .i64 v, .slice (some ⟨by_, oy, none⟩) yn yc] sg sy (.int .i64 y) (.int .i64 ((k : Int) + 1)) wr from ⟨k + 1, hlt, by simp, by rw [lit_step ea ey HZ (if_pos ⟨rfl, Or.inl z0⟩)], rs, ql⟩)
     clear rs ql
     go_wp2
     go_roundw
     case rel => exact S1.out
     case measure => simp [intOf]; omega
    ·have dz : decide (z < 0) = false := decide_eq_false z0
     by_cases yz : y < z
     ·have dy : decide (y < z) = true := decide_eq_true yz
      have S1 := hid (show HeadLi w w1.heap.size yn #[.slice (some ⟨ba, oa, none⟩) n c, .slice R rn rc, .int .i64 v, .slice (some ⟨by_, oy, none⟩) yn yc] sg sy (.int .i64 y) (.int .i64 ((k : Int) + 1)) wr from ⟨k + 1, hlt, by simp, by rw [lit_step ea ey HZ (if_pos ⟨rfl, Or.inr yz⟩)], rs, ql⟩)
      clear rs ql
      go_wp2
      go_roundw
      case rel => exact S1.out
      case measure => simp [intOf]; omega
     ·have dy : decide (y < z) = false := decide_eq_false yz
      have S1 := hid (show HeadLi w w1.heap.size yn #[.slice (some ⟨ba, oa, none⟩) n c, .slice R rn rc, .int .i64 v, .slice (some ⟨by_, oy, none⟩) yn yc] sg sy (.int .i64 z) (.int .i64 ((k : Int) + 1)) wr from ⟨k + 1, hlt, by simp, by rw [lit_step ea ey HZ (if_neg (fun h => by rcases h.2 with h | h <;> omega))], rs, ql⟩)
      clear rs ql
      go_wp2
      go_roundw
      case rel => exact S1.out
      case measure => simp [intOf]; omega
   ·have da : (a == 0) = false := by simp [a0]
    have S1 := hid (show HeadLi w w1.heap.size yn #[.slice (some ⟨ba, oa, none⟩) n c, .slice R rn rc, .int .i64 v, .slice (some ⟨by_, oy, none⟩) yn yc] sg sy (.int .i64 z) (.int .i64 ((k : Int) + 1)) wr from ⟨k + 1, hlt, by simp, by rw [lit_step ea ey HZ (if_neg (fun h => a0 h.1))], rs, ql⟩)
    clear rs ql
    go_wp2
    go_roundw
    case rel => exact S1.out
    case measure => simp [intOf]; omega
end kboLight
end
section
namespace pathSpec
open Go.RowKit base ints sig term arity endOf cursor termOk endAt inside marks app appAt sym args posMath
set_option maxRecDepth 100000
def PathIs (sg t : List Int) (x : Int) (pa : List Int) : Prop := (thereB sg t x = true ∧ ∃ ab, Trail sg t x.toNat 0 ab pa) ∨ (thereB sg t x = false ∧ pa = [])
theorem PathIs.len {sg t : List Int} {x : Int} {pa : List Int} (h : PathIs sg t x pa) : pa.length ≤ 60 := by
 rcases h with ⟨e, ab, hw⟩ | ⟨e, rfl⟩
 ·obtain ⟨hok, h0, h1⟩ := there_parts e
  have := hw.le
  have := (termOk_parts hok).2.1
  omega
 ·simp
theorem up_len {sg t : List Int} {a : Nat} : ∀ n p, (upTo sg t a p n).length ≤ n
 | 0, _ => by simp [upTo]
 | n + 1, p => by
  have := up_len (sg := sg) (t := t) (a := a) n (p + 1)
  simp only [upTo, List.length_append]
  split <;> simp <;> omega
theorem Trail.split {sg t : List Int} {a q : Nat} {ab pa : List Int} (h : Trail sg t a q ab pa) (hne : q ≠ a) : ∃ (k : Nat) (ab' pa' : List Int), ab = (q : Int) :: ab' ∧ pa = (k : Int) :: pa' ∧ q < a ∧ k < arN sg t q ∧ argP sg t k (q + 1) ≤ a ∧ a < argP sg t k (q + 1) + len1 sg t (argP sg t k (q + 1)) ∧ q < argP sg t k (q + 1) ∧ Trail sg t a (argP sg t k (q + 1)) ab' pa' := by
 cases h with
 | here => exact absurd rfl hne
 | @down _ k ab' pa' h1 h2 h3 h4 h5 h6 hw => exact ⟨k, ab', pa', rfl, rfl, h1, h2, h3, h4, h5, hw⟩
end pathSpec
end
section
namespace kboPlain
open Go.RowKit base ints sig term termOk termFacts marks sym varsOf ruleSpec forest rankMath rankSpec lpoLink lpoPrec kboMath kboLink kboOft kboWt kboOk kboScale whole kboFun shape kindsR kindsK app appAt cursor pathSpec
set_option maxRecDepth 100000
structure Py (w wr : World) (P : Nat) (A : Option Addr) (n c : Nat) (S : Option Addr) (n1 c1 : Nat) (x1 : List Int) (R : Option Addr) (n2 c2 : Nat) (x2 : List Int) : Prop where
 rs : Row wr w.heap.size 29 #[.slice A n c]
 rz : Row wr (w.heap.size + 1) 32 #[.int .i64 0, .slice none 0 0, .slice none 0 0]
 rw : Row wr P 32 #[.int .i64 1, .slice S n1 c1, .slice R n2 c2]
 o1 : Own wr (P + 1) (.slice S n1 c1) x1
 o2 : Own wr (P + 1) (.slice R n2 c2) x2
 dj : blk S = none ∨ blk S ≠ blk R
 b : Below w.heap.size w wr
 hP : w.heap.size + 1 < P
section
variable {w wr w' : World} {P : Nat} {A : Option Addr} {n c : Nat} {S : Option Addr} {n1 c1 : Nat} {x1 : List Int} {R : Option Addr} {n2 c2 : Nat} {x2 : List Int}
theorem Py.lt (y : Py w wr P A n c S n1 c1 x1 R n2 c2 x2) : P < wr.heap.size := y.rw.lt
theorem Py.over (y : Py w wr P A n c S n1 c1 x1 R n2 c2 x2) {o : Obj} {r : Option Nat} (hg : (wr.alloc o).grownBy w' r) (hr : ∀ j, r = some j → P + 1 ≤ j) : Below (P + 1) wr w' :=
 ((Below.refl (P + 1) wr).alloc y.lt _).grown hg (by have := y.lt; simp; omega) hr
end
end kboPlain
end
section
namespace kboXB
open Go.RowKit base ints sig term termOk marks sym segs kinds shape kindsR kindsK kboLink rankMath kboWt kboLight kboPlain kboX
set_option maxRecDepth 100000
theorem specLightestOfX (a s r : Value) (d0 : Dat sSig) (d1 : Dat sWeights) (w : World) (h0 : Rd w w.heap.size sSig [a] d0) (h1 : Rd w w.heap.size sWeights [.int .i64 d1.1, s, r] d1) (z0 : sz sSig d0 ≤ 1048576) (z1 : sz sWeights d1 ≤ 1048576) :
  Calls Try.prog 51 #[.agg #[a], .agg #[.int .i64 d1.1, s, r]] w (AnsI w (litV d0 d1.1 d1.2.1 d1.2.2)) := by
 obtain ⟨A, n, c, rfl, hA, hn, -⟩ := rd_s h0 z0
 obtain ⟨Y, yn, yc, R, rn, rc, rfl, rfl, hY, hR, hyn, hrn, -⟩ := rd_w h1 z1
 exact specLightestOf A Y R n c yn yc rn rc d1.1 d0 d1.2.1 d1.2.2 w hA hY hR hn hyn hrn
theorem implLightestOfX (a s r : Value) (d0 : Dat sSig) (d1 : Dat sWeights) (w : World) (h0 : Rd w w.heap.size sSig [a] d0) (h1 : Rd w w.heap.size sWeights [.int .i64 d1.1, s, r] d1) (z0 : sz sSig d0 ≤ 1048576) (z1 : sz sWeights d1 ≤ 1048576) :
  Calls Try.prog 29 #[.agg #[a], .agg #[.int .i64 d1.1, s, r]] w (AnsI w (litV d0 d1.1 d1.2.1 d1.2.2)) := by
 obtain ⟨A, n, c, rfl, hA, hn, -⟩ := rd_s h0 z0
 obtain ⟨Y, yn, yc, R, rn, rc, rfl, rfl, hY, hR, hyn, hrn, -⟩ := rd_w h1 z1
 exact implLightestOf A Y R n c yn yc rn rc d1.1 d0 d1.2.1 d1.2.2 w hA hY hR hn hyn hrn
end kboXB
end
section
open Go.Lib (hid)
namespace wLightestOf
open Go.RowKit base ints sig cursor marks app sym appAt segs segsHelp segsMark kinds shape varsOf kindsR kindsK kboLink kboLight kboPlain kboX kboXB
set_option maxRecDepth 100000
set_option maxHeartbeats 8000000 in
theorem law (v0_0 : Value) (d0 : Dat sSig) (v1_0 v1_1 : Value) (d1 : Dat sWeights) (w : World) (s0 : Rd w w.heap.size sSig [v0_0] d0) (s1 : Rd w w.heap.size sWeights [.int .i64 d1.1, v1_0, v1_1] d1) :
  Calls Try.prog 12 #[.agg #[v0_0], .agg #[.int .i64 d1.1, v1_0, v1_1]] w (Fine w) := by
 obtain ⟨W, hW⟩ : ∃ W, W = (w.alloc (.cells #[v0_0] 58)).alloc (.cells #[.int .i64 d1.1, v1_0, v1_1] 59) := ⟨_, rfl⟩
 have rA0 : Row W (w.heap.size) 58 #[v0_0] := by rw [hW]; have := (Row.new (w) 58 #[v0_0]).alloc (.cells #[.int .i64 d1.1, v1_0, v1_1] 59); simpa using this
 have rA1 : Row W (w.heap.size + 1) 59 #[.int .i64 d1.1, v1_0, v1_1] := by rw [hW]; have := Row.new (w.alloc (.cells #[v0_0] 58)) 59 #[.int .i64 d1.1, v1_0, v1_1]; simpa using this
 have bW : Below w.heap.size w W := by rw [hW]; exact ((Below.refl w.heap.size w).alloc (by simp) (.cells #[v0_0] 58)).alloc (by simp) (.cells #[.int .i64 d1.1, v1_0, v1_1] 59)
 have zA0 := rA0.lt
 have zA1 := rA1.lt
 replace s0 := s0.next bW
 replace s1 := s1.next bW
 have HW := hid hW
 clear hW
 obtain ⟨t0, ht0⟩ : ∃ z, sz sSig d0 = z := ⟨_, rfl⟩
 have HT0 := hid ht0
 clear ht0
 obtain ⟨t1, ht1⟩ : ∃ z, sz sWeights d1 = z := ⟨_, rfl⟩
 have HT1 := hid ht1
 clear ht1
 obtain ⟨v, hv⟩ : ∃ v, litV d0 d1.1 d1.2.1 d1.2.2 = v := ⟨_, rfl⟩
 have HV := hid hv
 clear hv
 have ev : (v != v) = false := by simp
 go_enter Try.func12, Try.ntmps12
 go_wp2_with fail
 rw [← HW.out]
 clear HW
 have bel := Below.refl W.heap.size W
 have cA0_0 : W.cell? ⟨w.heap.size, 0, none⟩ = some (v0_0) := (rA0.next bel).cell 0
 have cA1_0 : W.cell? ⟨w.heap.size + 1, 0, none⟩ = some (.int .i64 d1.1) := (rA1.next bel).cell 0
 have cA1_1 : W.cell? ⟨w.heap.size + 1, 1, none⟩ = some (v1_0) := (rA1.next bel).cell 1
 have cA1_2 : W.cell? ⟨w.heap.size + 1, 2, none⟩ = some (v1_1) := (rA1.next bel).cell 2
 refine (szK_Sig _ d0 (1048576) _ (s0.next bel) (by omega) (by omega)).mono ?_
 rintro e w1 ⟨he, bb⟩
 rw [HT0.out] at he
 replace bel := next_trans bel bb
 have zw1 := bb.size
 clear bb
 by_cases q0 : t0 ≤ 1048576
 case neg =>
  rw [if_pos (by omega)] at he
  subst he
  have F := hid (bW.trans (bel.mono bW.size))
  clear bel bW cA0_0 cA1_0 cA1_1 cA1_2
  go_wp2
  go_ret
  exact ⟨rfl, F.out⟩
 rw [if_neg (by omega)] at he
 subst he
 have h0 : Hid (sz sSig d0 ≤ 1048576) := hid (by rw [HT0.out]; omega)
 clear cA0_0 cA1_0 cA1_1 cA1_2
 have cA0_0 : w1.cell? ⟨w.heap.size, 0, none⟩ = some (v0_0) := (rA0.next bel).cell 0
 have cA1_0 : w1.cell? ⟨w.heap.size + 1, 0, none⟩ = some (.int .i64 d1.1) := (rA1.next bel).cell 0
 have cA1_1 : w1.cell? ⟨w.heap.size + 1, 1, none⟩ = some (v1_0) := (rA1.next bel).cell 1
 have cA1_2 : w1.cell? ⟨w.heap.size + 1, 2, none⟩ = some (v1_1) := (rA1.next bel).cell 2
 go_wp2_with fail
 refine (szK_Weights _ _ d1 (1048576 - (t0 : Int)) _ (s1.next bel) (by omega) (by omega)).mono ?_
 rintro e w2 ⟨he, bb⟩
 rw [HT1.out] at he
 replace bel := next_trans bel bb
 have zw2 := bb.size
 clear bb
 by_cases q1 : t0 + t1 ≤ 1048576
 case neg =>
  rw [if_pos (by omega)] at he
  subst he
  have F := hid (bW.trans (bel.mono bW.size))
  clear bel bW cA0_0 cA1_0 cA1_1 cA1_2
  go_wp2
  go_ret
  exact ⟨rfl, F.out⟩
 rw [if_neg (by omega)] at he
 subst he
 have h1 : Hid (sz sWeights d1 ≤ 1048576) := hid (by rw [HT1.out]; omega)
 clear cA0_0 cA1_0 cA1_1 cA1_2
 have cA0_0 : w2.cell? ⟨w.heap.size, 0, none⟩ = some (v0_0) := (rA0.next bel).cell 0
 have cA1_0 : w2.cell? ⟨w.heap.size + 1, 0, none⟩ = some (.int .i64 d1.1) := (rA1.next bel).cell 0
 have cA1_1 : w2.cell? ⟨w.heap.size + 1, 1, none⟩ = some (v1_0) := (rA1.next bel).cell 1
 have cA1_2 : w2.cell? ⟨w.heap.size + 1, 2, none⟩ = some (v1_1) := (rA1.next bel).cell 2
 go_wp2_with fail
 replace bel := bel.drew
 have zdw2 := (drew_below w2).size
 go_region_held3 (fun w' => w'.cell? ⟨w.heap.size, 0, none⟩ = some (v0_0) ∧ w'.cell? ⟨w.heap.size + 1, 0, none⟩ = some (.int .i64 d1.1) ∧ w'.cell? ⟨w.heap.size + 1, 1, none⟩ = some (v1_0) ∧ w'.cell? ⟨w.heap.size + 1, 2, none⟩ = some (v1_1))
  (go_keep)
  (first
   | (go_at_call_of 38 (Value.agg #[v0_0]); refine (toK_Sig _ d0 _ (s0.next bel) h0.out).mono ?_; rintro e w3 ⟨p0A0, p0n0, p0c0, rfl, op0, bb⟩; replace bel := next_trans bel bb; have cA0_0w3 : w3.cell? ⟨w.heap.size, 0, none⟩ = some (v0_0) := (rA0.next bel).cell 0; have cA1_0w3 : w3.cell? ⟨w.heap.size + 1, 0, none⟩ = some (.int .i64 d1.1) := (rA1.next bel).cell 0; have cA1_1w3 : w3.cell? ⟨w.heap.size + 1, 1, none⟩ = some (v1_0) := (rA1.next bel).cell 1; have cA1_2w3 : w3.cell? ⟨w.heap.size + 1, 2, none⟩ = some (v1_1) := (rA1.next bel).cell 2; have zqw3 := bb.size; clear bb)
   | (go_at_call_of 39 (Value.agg #[.int .i64 d1.1, v1_0, v1_1]); refine (toK_Weights _ _ d1 _ (s1.next bel) h1.out).mono ?_; rintro e w4 ⟨p1A0, p1n0, p1c0, p1A1, p1n1, p1c1, rfl, op1, bb⟩; replace op0 := op0.next bb; replace bel := next_trans bel bb; have cA0_0w4 : w4.cell? ⟨w.heap.size, 0, none⟩ = some (v0_0) := (rA0.next bel).cell 0; have cA1_0w4 : w4.cell? ⟨w.heap.size + 1, 0, none⟩ = some (.int .i64 d1.1) := (rA1.next bel).cell 0; have cA1_1w4 : w4.cell? ⟨w.heap.size + 1, 1, none⟩ = some (v1_0) := (rA1.next bel).cell 1; have cA1_2w4 : w4.cell? ⟨w.heap.size + 1, 2, none⟩ = some (v1_1) := (rA1.next bel).cell 2; have zqw4 := bb.size; clear bb)
   | (go_at_call 51; refine (specLightestOfX _ _ _ d0 d1 _ op0.rd op1.rd h0.out h1.out).mono ?_; rintro e w5 ⟨he, bb⟩; rw [HV.out] at he; subst he; replace bel := next_trans bel bb; have cA0_0w5 : w5.cell? ⟨w.heap.size, 0, none⟩ = some (v0_0) := (rA0.next bel).cell 0; have cA1_0w5 : w5.cell? ⟨w.heap.size + 1, 0, none⟩ = some (.int .i64 d1.1) := (rA1.next bel).cell 0; have cA1_1w5 : w5.cell? ⟨w.heap.size + 1, 1, none⟩ = some (v1_0) := (rA1.next bel).cell 1; have cA1_2w5 : w5.cell? ⟨w.heap.size + 1, 2, none⟩ = some (v1_1) := (rA1.next bel).cell 2; have zqw5 := bb.size; clear bb op0 op1))
 clear cA0_0 cA1_0 cA1_1 cA1_2 cA0_0w5 cA1_0w5 cA1_1w5 cA1_2w5
 have cA0_0 : w5.cell? ⟨w.heap.size, 0, none⟩ = some (v0_0) := (rA0.next bel).cell 0
 have cA1_0 : w5.cell? ⟨w.heap.size + 1, 0, none⟩ = some (.int .i64 d1.1) := (rA1.next bel).cell 0
 have cA1_1 : w5.cell? ⟨w.heap.size + 1, 1, none⟩ = some (v1_0) := (rA1.next bel).cell 1
 have cA1_2 : w5.cell? ⟨w.heap.size + 1, 2, none⟩ = some (v1_1) := (rA1.next bel).cell 2
 go_wp2_with fail
 refine (toK_Sig _ d0 _ (s0.next bel) h0.out).mono ?_
 rintro e w6 ⟨x0A0, x0n0, x0c0, rfl, ox0, bb⟩
 replace bel := next_trans bel bb
 have zw6 := bb.size
 clear bb
 clear cA0_0 cA1_0 cA1_1 cA1_2
 have cA0_0 : w6.cell? ⟨w.heap.size, 0, none⟩ = some (v0_0) := (rA0.next bel).cell 0
 have cA1_0 : w6.cell? ⟨w.heap.size + 1, 0, none⟩ = some (.int .i64 d1.1) := (rA1.next bel).cell 0
 have cA1_1 : w6.cell? ⟨w.heap.size + 1, 1, none⟩ = some (v1_0) := (rA1.next bel).cell 1
 have cA1_2 : w6.cell? ⟨w.heap.size + 1, 2, none⟩ = some (v1_1) := (rA1.next bel).cell 2
 have dA0_0 : (w6.alloc (.cells #[.slice x0A0 x0n0 x0c0] 29)).cell? ⟨w.heap.size, 0, none⟩ = some (v0_0) := ((rA0.next bel).alloc _).cell 0
 have dA1_0 : (w6.alloc (.cells #[.slice x0A0 x0n0 x0c0] 29)).cell? ⟨w.heap.size + 1, 0, none⟩ = some (.int .i64 d1.1) := ((rA1.next bel).alloc _).cell 0
 have dA1_1 : (w6.alloc (.cells #[.slice x0A0 x0n0 x0c0] 29)).cell? ⟨w.heap.size + 1, 1, none⟩ = some (v1_0) := ((rA1.next bel).alloc _).cell 1
 have dA1_2 : (w6.alloc (.cells #[.slice x0A0 x0n0 x0c0] 29)).cell? ⟨w.heap.size + 1, 2, none⟩ = some (v1_1) := ((rA1.next bel).alloc _).cell 2
 go_wp2_with fail
 obtain ⟨w7, hw⟩ : ∃ W, W = w6.alloc (.cells #[.slice x0A0 x0n0 x0c0] 29) := ⟨_, rfl⟩
 rw [← hw]
 have rx0 : Row w7 w6.heap.size 29 #[.slice x0A0 x0n0 x0c0] := by rw [hw]; exact Row.new _ _ _
 have bb : Below w6.heap.size w6 w7 := by rw [hw]; exact (Below.refl _ _).alloc (Nat.le_refl _) _
 have yrx0 : w6.heap.size < w7.heap.size := by rw [hw]; simp
 clear hw
 replace ox0 := ox0.next bb
 replace bel := next_trans bel bb
 have zw7 := bb.size
 clear bb
 clear dA0_0 dA1_0 dA1_1 dA1_2
 clear cA0_0 cA1_0 cA1_1 cA1_2
 have cA0_0 : w7.cell? ⟨w.heap.size, 0, none⟩ = some (v0_0) := (rA0.next bel).cell 0
 have cA1_0 : w7.cell? ⟨w.heap.size + 1, 0, none⟩ = some (.int .i64 d1.1) := (rA1.next bel).cell 0
 have cA1_1 : w7.cell? ⟨w.heap.size + 1, 1, none⟩ = some (v1_0) := (rA1.next bel).cell 1
 have cA1_2 : w7.cell? ⟨w.heap.size + 1, 2, none⟩ = some (v1_1) := (rA1.next bel).cell 2
 have cx0_0 : w7.cell? ⟨w6.heap.size, 0, none⟩ = some (.slice x0A0 x0n0 x0c0) := (rx0).cell 0
 refine (toK_Weights _ _ d1 _ (s1.next bel) h1.out).mono ?_
 rintro e w8 ⟨x1A0, x1n0, x1c0, x1A1, x1n1, x1c1, rfl, ox1, bb⟩
 replace ox0 := ox0.next bb
 replace rx0 := rx0.next bb
 replace bel := next_trans bel bb
 have zw8 := bb.size
 clear bb
 clear cA0_0 cA1_0 cA1_1 cA1_2 cx0_0
 have cA0_0 : w8.cell? ⟨w.heap.size, 0, none⟩ = some (v0_0) := (rA0.next bel).cell 0
 have cA1_0 : w8.cell? ⟨w.heap.size + 1, 0, none⟩ = some (.int .i64 d1.1) := (rA1.next bel).cell 0
 have cA1_1 : w8.cell? ⟨w.heap.size + 1, 1, none⟩ = some (v1_0) := (rA1.next bel).cell 1
 have cA1_2 : w8.cell? ⟨w.heap.size + 1, 2, none⟩ = some (v1_1) := (rA1.next bel).cell 2
 have cx0_0 : w8.cell? ⟨w6.heap.size, 0, none⟩ = some (.slice x0A0 x0n0 x0c0) := (rx0).cell 0
 have dA0_0 : (w8.alloc (.cells #[.int .i64 d1.1, .slice x1A0 x1n0 x1c0, .slice x1A1 x1n1 x1c1] 32)).cell? ⟨w.heap.size, 0, none⟩ = some (v0_0) := ((rA0.next bel).alloc _).cell 0
 have dA1_0 : (w8.alloc (.cells #[.int .i64 d1.1, .slice x1A0 x1n0 x1c0, .slice x1A1 x1n1 x1c1] 32)).cell? ⟨w.heap.size + 1, 0, none⟩ = some (.int .i64 d1.1) := ((rA1.next bel).alloc _).cell 0
 have dA1_1 : (w8.alloc (.cells #[.int .i64 d1.1, .slice x1A0 x1n0 x1c0, .slice x1A1 x1n1 x1c1] 32)).cell? ⟨w.heap.size + 1, 1, none⟩ = some (v1_0) := ((rA1.next bel).alloc _).cell 1
 have dA1_2 : (w8.alloc (.cells #[.int .i64 d1.1, .slice x1A0 x1n0 x1c0, .slice x1A1 x1n1 x1c1] 32)).cell? ⟨w.heap.size + 1, 2, none⟩ = some (v1_1) := ((rA1.next bel).alloc _).cell 2
 have dx0_0 : (w8.alloc (.cells #[.int .i64 d1.1, .slice x1A0 x1n0 x1c0, .slice x1A1 x1n1 x1c1] 32)).cell? ⟨w6.heap.size, 0, none⟩ = some (.slice x0A0 x0n0 x0c0) := ((rx0).alloc _).cell 0
 go_wp2_with fail
 obtain ⟨w9, hw⟩ : ∃ W, W = w8.alloc (.cells #[.int .i64 d1.1, .slice x1A0 x1n0 x1c0, .slice x1A1 x1n1 x1c1] 32) := ⟨_, rfl⟩
 rw [← hw]
 have rx1 : Row w9 w8.heap.size 32 #[.int .i64 d1.1, .slice x1A0 x1n0 x1c0, .slice x1A1 x1n1 x1c1] := by rw [hw]; exact Row.new _ _ _
 have bb : Below w8.heap.size w8 w9 := by rw [hw]; exact (Below.refl _ _).alloc (Nat.le_refl _) _
 have yrx1 : w8.heap.size < w9.heap.size := by rw [hw]; simp
 clear hw
 replace ox0 := ox0.next bb
 replace rx0 := rx0.next bb
 replace ox1 := ox1.next bb
 replace bel := next_trans bel bb
 have zw9 := bb.size
 clear bb
 clear dA0_0 dA1_0 dA1_1 dA1_2 dx0_0
 clear cA0_0 cA1_0 cA1_1 cA1_2 cx0_0
 have cA0_0 : w9.cell? ⟨w.heap.size, 0, none⟩ = some (v0_0) := (rA0.next bel).cell 0
 have cA1_0 : w9.cell? ⟨w.heap.size + 1, 0, none⟩ = some (.int .i64 d1.1) := (rA1.next bel).cell 0
 have cA1_1 : w9.cell? ⟨w.heap.size + 1, 1, none⟩ = some (v1_0) := (rA1.next bel).cell 1
 have cA1_2 : w9.cell? ⟨w.heap.size + 1, 2, none⟩ = some (v1_1) := (rA1.next bel).cell 2
 have cx0_0 : w9.cell? ⟨w6.heap.size, 0, none⟩ = some (.slice x0A0 x0n0 x0c0) := (rx0).cell 0
 have cx1_0 : w9.cell? ⟨w8.heap.size, 0, none⟩ = some (.int .i64 d1.1) := (rx1).cell 0
 have cx1_1 : w9.cell? ⟨w8.heap.size, 1, none⟩ = some (.slice x1A0 x1n0 x1c0) := (rx1).cell 1
 have cx1_2 : w9.cell? ⟨w8.heap.size, 2, none⟩ = some (.slice x1A1 x1n1 x1c1) := (rx1).cell 2
 refine (implLightestOfX _ _ _ d0 d1 _ ox0.rd ox1.rd h0.out h1.out).mono ?_
 rintro e w10 ⟨he, bb⟩
 rw [HV.out] at he
 subst he
 replace ox0 := ox0.next bb
 replace rx0 := rx0.next bb
 replace ox1 := ox1.next bb
 replace rx1 := rx1.next bb
 replace bel := next_trans bel bb
 have zw10 := bb.size
 clear bb
 clear cA0_0 cA1_0 cA1_1 cA1_2 cx0_0 cx1_0 cx1_1 cx1_2
 have cA0_0 : w10.cell? ⟨w.heap.size, 0, none⟩ = some (v0_0) := (rA0.next bel).cell 0
 have cA1_0 : w10.cell? ⟨w.heap.size + 1, 0, none⟩ = some (.int .i64 d1.1) := (rA1.next bel).cell 0
 have cA1_1 : w10.cell? ⟨w.heap.size + 1, 1, none⟩ = some (v1_0) := (rA1.next bel).cell 1
 have cA1_2 : w10.cell? ⟨w.heap.size + 1, 2, none⟩ = some (v1_1) := (rA1.next bel).cell 2
 have cx0_0 : w10.cell? ⟨w6.heap.size, 0, none⟩ = some (.slice x0A0 x0n0 x0c0) := (rx0).cell 0
 have cx1_0 : w10.cell? ⟨w8.heap.size, 0, none⟩ = some (.int .i64 d1.1) := (rx1).cell 0
 have cx1_1 : w10.cell? ⟨w8.heap.size, 1, none⟩ = some (.slice x1A0 x1n0 x1c0) := (rx1).cell 1
 have cx1_2 : w10.cell? ⟨w8.heap.size, 2, none⟩ = some (.slice x1A1 x1n1 x1c1) := (rx1).cell 2
 go_wp2_with fail
 replace ox0 := ox0.drew
 replace rx0 := rx0.drew
 replace ox1 := ox1.drew
 replace rx1 := rx1.drew
 replace bel := bel.drew
 have zdw10 := (drew_below w10).size
 go_region_held3 (fun w' => w'.cell? ⟨w6.heap.size, 0, none⟩ = some (.slice x0A0 x0n0 x0c0) ∧ w'.cell? ⟨w.heap.size, 0, none⟩ = some (v0_0))
  (go_keep)
  (first
   | (go_at_call 38; refine (toK_Sig _ d0 _ (s0.next bel) h0.out).mono ?_; rintro e w11 ⟨t0A0, t0n0, t0c0, rfl, ot, bb⟩; replace ox0 := ox0.next bb; replace rx0 := rx0.next bb; replace ox1 := ox1.next bb; replace rx1 := rx1.next bb; replace bel := next_trans bel bb; have k0_0w11 : w11.cell? ⟨w.heap.size, 0, none⟩ = some (v0_0) := (rA0.next bel).cell 0; have l0_0w11 : w11.cell? ⟨w6.heap.size, 0, none⟩ = some (.slice x0A0 x0n0 x0c0) := rx0.cell 0; have zqw11 := bb.size; clear bb)
   | (go_at_call 40; refine (eqK_Sig _ _ d0 _ ox0.rd ot.rd h0.out).mono ?_; rintro e w12 ⟨rfl, bb⟩; replace ox0 := ox0.next bb; replace rx0 := rx0.next bb; replace ox1 := ox1.next bb; replace rx1 := rx1.next bb; replace bel := next_trans bel bb; have k0_0w12 : w12.cell? ⟨w.heap.size, 0, none⟩ = some (v0_0) := (rA0.next bel).cell 0; have l0_0w12 : w12.cell? ⟨w6.heap.size, 0, none⟩ = some (.slice x0A0 x0n0 x0c0) := rx0.cell 0; have zqw12 := bb.size; clear bb ot))
 clear k0_0w11 l0_0w11 k0_0w12 l0_0w12
 clear ox0 rx0
 clear cA0_0 cA1_0 cA1_1 cA1_2 cx0_0 cx1_0 cx1_1 cx1_2
 have cA0_0 : w12.cell? ⟨w.heap.size, 0, none⟩ = some (v0_0) := (rA0.next bel).cell 0
 have cA1_0 : w12.cell? ⟨w.heap.size + 1, 0, none⟩ = some (.int .i64 d1.1) := (rA1.next bel).cell 0
 have cA1_1 : w12.cell? ⟨w.heap.size + 1, 1, none⟩ = some (v1_0) := (rA1.next bel).cell 1
 have cA1_2 : w12.cell? ⟨w.heap.size + 1, 2, none⟩ = some (v1_1) := (rA1.next bel).cell 2
 have cx1_0 : w12.cell? ⟨w8.heap.size, 0, none⟩ = some (.int .i64 d1.1) := (rx1).cell 0
 have cx1_1 : w12.cell? ⟨w8.heap.size, 1, none⟩ = some (.slice x1A0 x1n0 x1c0) := (rx1).cell 1
 have cx1_2 : w12.cell? ⟨w8.heap.size, 2, none⟩ = some (.slice x1A1 x1n1 x1c1) := (rx1).cell 2
 go_wp2_with fail
 replace ox1 := ox1.drew
 replace rx1 := rx1.drew
 replace bel := bel.drew
 have zdw12 := (drew_below w12).size
 go_region_held3 (fun w' => w'.cell? ⟨w8.heap.size, 0, none⟩ = some (.int .i64 d1.1) ∧ w'.cell? ⟨w8.heap.size, 1, none⟩ = some (.slice x1A0 x1n0 x1c0) ∧ w'.cell? ⟨w8.heap.size, 2, none⟩ = some (.slice x1A1 x1n1 x1c1) ∧ w'.cell? ⟨w.heap.size + 1, 0, none⟩ = some (.int .i64 d1.1) ∧ w'.cell? ⟨w.heap.size + 1, 1, none⟩ = some (v1_0) ∧ w'.cell? ⟨w.heap.size + 1, 2, none⟩ = some (v1_1))
  (go_keep)
  (first
   | (go_at_call 39; refine (toK_Weights _ _ d1 _ (s1.next bel) h1.out).mono ?_; rintro e w13 ⟨t1A0, t1n0, t1c0, t1A1, t1n1, t1c1, rfl, ot, bb⟩; replace ox1 := ox1.next bb; replace rx1 := rx1.next bb; replace bel := next_trans bel bb; have k1_0w13 : w13.cell? ⟨w.heap.size + 1, 0, none⟩ = some (.int .i64 d1.1) := (rA1.next bel).cell 0; have k1_1w13 : w13.cell? ⟨w.heap.size + 1, 1, none⟩ = some (v1_0) := (rA1.next bel).cell 1; have k1_2w13 : w13.cell? ⟨w.heap.size + 1, 2, none⟩ = some (v1_1) := (rA1.next bel).cell 2; have l1_0w13 : w13.cell? ⟨w8.heap.size, 0, none⟩ = some (.int .i64 d1.1) := rx1.cell 0; have l1_1w13 : w13.cell? ⟨w8.heap.size, 1, none⟩ = some (.slice x1A0 x1n0 x1c0) := rx1.cell 1; have l1_2w13 : w13.cell? ⟨w8.heap.size, 2, none⟩ = some (.slice x1A1 x1n1 x1c1) := rx1.cell 2; have zqw13 := bb.size; clear bb)
   | (go_at_call 41; refine (eqK_Weights _ _ _ _ d1 _ ox1.rd ot.rd h1.out).mono ?_; rintro e w14 ⟨rfl, bb⟩; replace ox1 := ox1.next bb; replace rx1 := rx1.next bb; replace bel := next_trans bel bb; have k1_0w14 : w14.cell? ⟨w.heap.size + 1, 0, none⟩ = some (.int .i64 d1.1) := (rA1.next bel).cell 0; have k1_1w14 : w14.cell? ⟨w.heap.size + 1, 1, none⟩ = some (v1_0) := (rA1.next bel).cell 1; have k1_2w14 : w14.cell? ⟨w.heap.size + 1, 2, none⟩ = some (v1_1) := (rA1.next bel).cell 2; have l1_0w14 : w14.cell? ⟨w8.heap.size, 0, none⟩ = some (.int .i64 d1.1) := rx1.cell 0; have l1_1w14 : w14.cell? ⟨w8.heap.size, 1, none⟩ = some (.slice x1A0 x1n0 x1c0) := rx1.cell 1; have l1_2w14 : w14.cell? ⟨w8.heap.size, 2, none⟩ = some (.slice x1A1 x1n1 x1c1) := rx1.cell 2; have zqw14 := bb.size; clear bb ot))
 clear k1_0w13 l1_0w13 k1_1w13 l1_1w13 k1_2w13 l1_2w13 k1_0w14 l1_0w14 k1_1w14 l1_1w14 k1_2w14 l1_2w14
 clear ox1 rx1
 clear cA0_0 cA1_0 cA1_1 cA1_2 cx1_0 cx1_1 cx1_2
 have cA0_0 : w14.cell? ⟨w.heap.size, 0, none⟩ = some (v0_0) := (rA0.next bel).cell 0
 have cA1_0 : w14.cell? ⟨w.heap.size + 1, 0, none⟩ = some (.int .i64 d1.1) := (rA1.next bel).cell 0
 have cA1_1 : w14.cell? ⟨w.heap.size + 1, 1, none⟩ = some (v1_0) := (rA1.next bel).cell 1
 have cA1_2 : w14.cell? ⟨w.heap.size + 1, 2, none⟩ = some (v1_1) := (rA1.next bel).cell 2
 have F := hid (bW.trans (bel.mono bW.size))
 clear bel bW cA0_0 cA1_0 cA1_1 cA1_2
 go_wp2
 go_ret
 exact ⟨rfl, F.out⟩
end wLightestOf
end
end Go.Proofs.Ytiimbmkofpnebaa
