/-
  MERGED: my texts DrawKnown, DrawSys, DrawSysAny, DrawSysD, DrawSA, DrawVar, DrawSS, RuleSpecB, Inside, Concat, Args, Depth, TermMath, PosMath, PutMath, Put, HeldT, MatchMath, StepMath, one behind the other, as they are. By an AI agent.
-/
import Derived.Test.YtmoidijngeijkaaGreatMFnOrders3
import Derived.Deep.LoopGhost
import Derived.Lib.AppendZeros
import Derived.OrdersHeld
import Derived.Deep.RegionHeld
namespace Go.Proofs.YtmoidijngeijkaaGreat
section
namespace drawKnown
open Go.RowKit base ints sig term cursor marks app appAt sym segs dice drawSig drawTerm drawAny drawSub drawS drawX drawRule compImpl
open shape (Sh Dat nc dft sI sz)
open kindsR (sRule)
set_option maxRecDepth 100000
def SmallD (M : Nat) (D : List (Dat sRule)) : Prop := D.length ≤ M ∧ ∀ j, ((D.getD j (dft sRule)).1 : List Int).length ≤ 65 ∧ ((D.getD j (dft sRule)).2 : List Int).length ≤ 65
def AnsKnown (w : World) (e : Ending) (w' : World) : Prop :=
 ∃ S sn sc R rn rc D, e = .returned (.agg #[.slice S sn sc, .slice R rn rc]) ∧ Own w' w.heap.size (.slice S sn sc) [2, 1, 0] ∧ blk S ≠ blk R ∧ (∀ p, p < w.heap.size → OwnQ w' p w.heap.size 126 sRule R rn rc D) ∧ SmallD 3 D ∧ Below w.heap.size w w'
abbrev Lit := (Nat × List Int) × (Nat × List Int)
def vsOf : List Lit → List Value
 | [] => []
 | r :: rs => .slice (some ⟨r.1.1, 0, none⟩) r.1.2.length r.1.2.length :: .slice (some ⟨r.2.1, 0, none⟩) r.2.2.length r.2.2.length :: vsOf rs
def dOf (RS : List Lit) : List (Dat sRule) := RS.map fun r => ((r.1.2, r.2.2) : List Int × List Int)
def nums (xs : List Int) : Array Value := (xs.map (Value.int .i64)).toArray
theorem vs_len : ∀ RS : List Lit, (vsOf RS).length = RS.length * 2
 | [] => rfl
 | _ :: rs => by simp only [vsOf, List.length_cons, vs_len rs]; omega
theorem cells_vs : ∀ {RS : List Lit} {j : Nat} {r : Lit}, RS[j]? = some r → cellsOf 2 (vsOf RS) j = [.slice (some ⟨r.1.1, 0, none⟩) r.1.2.length r.1.2.length, .slice (some ⟨r.2.1, 0, none⟩) r.2.2.length r.2.2.length]
 | [], j, _, h => by simp at h
 | _ :: _, 0, _, h => by simp at h; subst h; rfl
 | _ :: rs, j + 1, r, h => by
  have h1 : rs[j]? = some r := by simpa using h
  have h2 := cells_vs h1
  unfold cellsOf at h2 ⊢
  rw [show (j + 1) * 2 = (j * 2 + 1) + 1 by omega]
  exact h2
theorem lit_seg {w : World} {Q : Nat → Prop} {g : Nat} {xs : List Int} (h : Row w g 2 (nums xs)) (hl : xs.length ≤ 65) (hQ : Q g) : RdQ w Q sI [.slice (some ⟨g, 0, none⟩) xs.length xs.length] xs :=
 rdq_seg rfl ⟨Nat.le_refl _, by omega, fun e => by cases e⟩ fun _ => ⟨g, 0, rfl, hQ, fun j hj => by
  rw [Nat.zero_add, Row.cell (t := 2) (cs := nums xs) h]
  simp [nums, List.getD, hj]⟩
theorem known_of {w W : World} (gR : Nat) (RS : List Lit) (hS : Row W (w.heap.size + 1) 2 (nums [2, 1, 0])) (hR : Row W gR 126 (vsOf RS).toArray) (hg : w.heap.size + 1 < gR) (hn : RS.length ≤ 3) (hn0 : RS ≠ [])
  (h : ∀ r ∈ RS, Row W r.1.1 2 (nums r.1.2) ∧ Row W r.2.1 2 (nums r.2.2) ∧ w.heap.size < r.1.1 ∧ r.1.1 < gR ∧ w.heap.size < r.2.1 ∧ r.2.1 < gR ∧ r.1.2.length ≤ 65 ∧ r.2.2.length ≤ 65) (hb : Below w.heap.size w W) :
  AnsKnown w (.returned (.agg #[.slice (some ⟨w.heap.size + 1, 0, none⟩) 3 3, .slice (some ⟨gR, 0, none⟩) RS.length RS.length])) W := by
 have hz := hR.lt
 refine ⟨_, _, _, _, _, _, dOf RS, rfl, Own.of_row hS rfl rfl (Nat.le_refl _) (by omega) (by omega) (fun j hj => ?_), fun e => ?_, fun p hp => ⟨by simp [dOf], vsOf RS, ?_, fun j hj => ?_⟩, ⟨by simpa [dOf] using hn, fun j => ?_⟩, hb⟩
 ·match j, hj with
  | 0, _ => rfl
  | 1, _ => rfl
  | 2, _ => rfl
 ·injection e with e
  have e : w.heap.size + 1 = gR := e
  omega
 ·refine ⟨by rw [vs_len]; rfl, .inr ⟨gR, RS.length, _, rfl, by omega, hR, Nat.le_refl _, by unfold maxLen; omega, by rw [List.size_toArray, vs_len]; rfl, ?_⟩⟩
  rw [List.take_of_length_le (by rw [vs_len]; exact Nat.le_refl _)]
 ·obtain ⟨r, hr⟩ : ∃ r, RS[j]? = some r := ⟨RS[j], by simp [hj]⟩
  obtain ⟨h1, h2, h3, h4, h5, h6, h7, h8⟩ := h r (List.mem_of_getElem? hr)
  rw [show nc sRule = 2 from rfl, cells_vs hr]
  have e : (dOf RS).getD j (dft sRule) = ((r.1.2, r.2.2) : List Int × List Int) := by simp [dOf, List.getD, hr]
  rw [e]
  have ne : ∀ g, g < gR → some g ≠ blk (some ⟨gR, 0, none⟩) := fun g hg e => by injection e with e; have e : g = gR := e; omega
  exact RdQ.cat (ca := [_]) (cb := [_]) (lit_seg h1 h7 ⟨by omega, by omega, ne _ h4⟩) (lit_seg h2 h8 ⟨by omega, by omega, ne _ h6⟩)
 ·cases hr : RS[j]? with
  | none =>
   have e : (dOf RS).getD j (dft sRule) = dft sRule := by simp [dOf, List.getD, hr]
   rw [e]
   exact ⟨Nat.zero_le _, Nat.zero_le _⟩
  | some r =>
   have e : (dOf RS).getD j (dft sRule) = ((r.1.2, r.2.2) : List Int × List Int) := by simp [dOf, List.getD, hr]
   obtain ⟨h1, h2, h3, h4, h5, h6, h7, h8⟩ := h r (List.mem_of_getElem? hr)
   rw [e]
   exact ⟨h7, h8⟩
set_option maxHeartbeats 2000000 in
theorem known (k : Int) (w : World) :
  Calls Tryz.prog 143 #[.int .i64 k] w (AnsKnown w) := by
 by_cases h0 : k = 0
 ·subst h0
  go_enter Tryz.func143, Tryz.ntmps143
  go_wp2
  refine bodyPost_ret (v := .agg #[.slice (some ⟨w.heap.size + 1, 0, none⟩) 3 3, .slice (some ⟨w.heap.size + 7, 0, none⟩) 2 2]) (by simp [results, Tryz.results143, go_sem]) rfl ?_
  refine known_of (w.heap.size + 7) [((w.heap.size + 3, [0, 2, -1]), (w.heap.size + 4, [-1])), ((w.heap.size + 5, [0, 1, -1, -2]), (w.heap.size + 6, [1, 0, -1, -2]))] (by repeat (first | ((refine row_top ?_); ((try simp only [sz_alloc]) <;> omega); done) | (refine row_alloc ?_))) (by repeat (first | ((refine row_top ?_); ((try simp only [sz_alloc]) <;> omega); done) | (refine row_alloc ?_))) (by omega) (by simp) (by simp) ?_ (by repeat (first | (exact Below.refl _ _) | (refine Below.alloc ?_ (by simp; try omega) _)))
  intro r hr
  simp only [List.mem_cons, List.not_mem_nil, or_false] at hr
  rcases hr with rfl | rfl
  all_goals exact ⟨(by repeat (first | ((refine row_top ?_); ((try simp only [sz_alloc]) <;> omega); done) | (refine row_alloc ?_))), (by repeat (first | ((refine row_top ?_); ((try simp only [sz_alloc]) <;> omega); done) | (refine row_alloc ?_))), by simp, by simp, by simp, by simp, by simp, by simp⟩
 by_cases h1 : k = 1
 ·subst h1
  clear h0
  go_enter Tryz.func143, Tryz.ntmps143
  go_wp2
  refine bodyPost_ret (v := .agg #[.slice (some ⟨w.heap.size + 1, 0, none⟩) 3 3, .slice (some ⟨w.heap.size + 5, 0, none⟩) 1 1]) (by simp [results, Tryz.results143, go_sem]) rfl ?_
  refine known_of (w.heap.size + 5) [((w.heap.size + 3, [0, 0, -1, -2, -3]), (w.heap.size + 4, [0, -1, 0, -2, -3]))] (by repeat (first | ((refine row_top ?_); ((try simp only [sz_alloc]) <;> omega); done) | (refine row_alloc ?_))) (by repeat (first | ((refine row_top ?_); ((try simp only [sz_alloc]) <;> omega); done) | (refine row_alloc ?_))) (by omega) (by simp) (by simp) ?_ (by repeat (first | (exact Below.refl _ _) | (refine Below.alloc ?_ (by simp; try omega) _)))
  intro r hr
  simp only [List.mem_cons, List.not_mem_nil, or_false] at hr
  subst hr
  all_goals exact ⟨(by repeat (first | ((refine row_top ?_); ((try simp only [sz_alloc]) <;> omega); done) | (refine row_alloc ?_))), (by repeat (first | ((refine row_top ?_); ((try simp only [sz_alloc]) <;> omega); done) | (refine row_alloc ?_))), by simp, by simp, by simp, by simp, by simp, by simp⟩
 by_cases h2 : k = 2
 ·subst h2
  clear h0 h1
  go_enter Tryz.func143, Tryz.ntmps143
  go_wp2
  refine bodyPost_ret (v := .agg #[.slice (some ⟨w.heap.size + 1, 0, none⟩) 3 3, .slice (some ⟨w.heap.size + 5, 0, none⟩) 1 1]) (by simp [results, Tryz.results143, go_sem]) rfl ?_
  refine known_of (w.heap.size + 5) [((w.heap.size + 3, [1, 1, -1]), (w.heap.size + 4, [-1]))] (by repeat (first | ((refine row_top ?_); ((try simp only [sz_alloc]) <;> omega); done) | (refine row_alloc ?_))) (by repeat (first | ((refine row_top ?_); ((try simp only [sz_alloc]) <;> omega); done) | (refine row_alloc ?_))) (by omega) (by simp) (by simp) ?_ (by repeat (first | (exact Below.refl _ _) | (refine Below.alloc ?_ (by simp; try omega) _)))
  intro r hr
  simp only [List.mem_cons, List.not_mem_nil, or_false] at hr
  subst hr
  all_goals exact ⟨(by repeat (first | ((refine row_top ?_); ((try simp only [sz_alloc]) <;> omega); done) | (refine row_alloc ?_))), (by repeat (first | ((refine row_top ?_); ((try simp only [sz_alloc]) <;> omega); done) | (refine row_alloc ?_))), by simp, by simp, by simp, by simp, by simp, by simp⟩
 by_cases h3 : k = 3
 ·subst h3
  clear h0 h1 h2
  go_enter Tryz.func143, Tryz.ntmps143
  go_wp2
  refine bodyPost_ret (v := .agg #[.slice (some ⟨w.heap.size + 1, 0, none⟩) 3 3, .slice (some ⟨w.heap.size + 5, 0, none⟩) 1 1]) (by simp [results, Tryz.results143, go_sem]) rfl ?_
  refine known_of (w.heap.size + 5) [((w.heap.size + 3, [1, -1]), (w.heap.size + 4, [1, 1, -1]))] (by repeat (first | ((refine row_top ?_); ((try simp only [sz_alloc]) <;> omega); done) | (refine row_alloc ?_))) (by repeat (first | ((refine row_top ?_); ((try simp only [sz_alloc]) <;> omega); done) | (refine row_alloc ?_))) (by omega) (by simp) (by simp) ?_ (by repeat (first | (exact Below.refl _ _) | (refine Below.alloc ?_ (by simp; try omega) _)))
  intro r hr
  simp only [List.mem_cons, List.not_mem_nil, or_false] at hr
  subst hr
  all_goals exact ⟨(by repeat (first | ((refine row_top ?_); ((try simp only [sz_alloc]) <;> omega); done) | (refine row_alloc ?_))), (by repeat (first | ((refine row_top ?_); ((try simp only [sz_alloc]) <;> omega); done) | (refine row_alloc ?_))), by simp, by simp, by simp, by simp, by simp, by simp⟩
 by_cases h4 : k = 4
 ·subst h4
  clear h0 h1 h2 h3
  go_enter Tryz.func143, Tryz.ntmps143
  go_wp2
  refine bodyPost_ret (v := .agg #[.slice (some ⟨w.heap.size + 1, 0, none⟩) 3 3, .slice (some ⟨w.heap.size + 7, 0, none⟩) 2 2]) (by simp [results, Tryz.results143, go_sem]) rfl ?_
  refine known_of (w.heap.size + 7) [((w.heap.size + 3, [0, -1, -2]), (w.heap.size + 4, [-1])), ((w.heap.size + 5, [0, -1, -2]), (w.heap.size + 6, [-2]))] (by repeat (first | ((refine row_top ?_); ((try simp only [sz_alloc]) <;> omega); done) | (refine row_alloc ?_))) (by repeat (first | ((refine row_top ?_); ((try simp only [sz_alloc]) <;> omega); done) | (refine row_alloc ?_))) (by omega) (by simp) (by simp) ?_ (by repeat (first | (exact Below.refl _ _) | (refine Below.alloc ?_ (by simp; try omega) _)))
  intro r hr
  simp only [List.mem_cons, List.not_mem_nil, or_false] at hr
  rcases hr with rfl | rfl
  all_goals exact ⟨(by repeat (first | ((refine row_top ?_); ((try simp only [sz_alloc]) <;> omega); done) | (refine row_alloc ?_))), (by repeat (first | ((refine row_top ?_); ((try simp only [sz_alloc]) <;> omega); done) | (refine row_alloc ?_))), by simp, by simp, by simp, by simp, by simp, by simp⟩
 by_cases h5 : k = 5
 ·subst h5
  clear h0 h1 h2 h3 h4
  go_enter Tryz.func143, Tryz.ntmps143
  go_wp2
  refine bodyPost_ret (v := .agg #[.slice (some ⟨w.heap.size + 1, 0, none⟩) 3 3, .slice (some ⟨w.heap.size + 5, 0, none⟩) 1 1]) (by simp [results, Tryz.results143, go_sem]) rfl ?_
  refine known_of (w.heap.size + 5) [((w.heap.size + 3, [0, -1, -2]), (w.heap.size + 4, [0, -2, -1]))] (by repeat (first | ((refine row_top ?_); ((try simp only [sz_alloc]) <;> omega); done) | (refine row_alloc ?_))) (by repeat (first | ((refine row_top ?_); ((try simp only [sz_alloc]) <;> omega); done) | (refine row_alloc ?_))) (by omega) (by simp) (by simp) ?_ (by repeat (first | (exact Below.refl _ _) | (refine Below.alloc ?_ (by simp; try omega) _)))
  intro r hr
  simp only [List.mem_cons, List.not_mem_nil, or_false] at hr
  subst hr
  all_goals exact ⟨(by repeat (first | ((refine row_top ?_); ((try simp only [sz_alloc]) <;> omega); done) | (refine row_alloc ?_))), (by repeat (first | ((refine row_top ?_); ((try simp only [sz_alloc]) <;> omega); done) | (refine row_alloc ?_))), by simp, by simp, by simp, by simp, by simp, by simp⟩
 go_enter Tryz.func143, Tryz.ntmps143
 go_wp2
 refine bodyPost_ret (v := .agg #[.slice (some ⟨w.heap.size + 1, 0, none⟩) 3 3, .slice (some ⟨w.heap.size + 9, 0, none⟩) 3 3]) (by simp [results, Tryz.results143, go_sem]) rfl ?_
 refine known_of (w.heap.size + 9) [((w.heap.size + 3, [0, 2, -1]), (w.heap.size + 4, [-1])), ((w.heap.size + 5, [0, 1, -1, -1]), (w.heap.size + 6, [2])), ((w.heap.size + 7, [0, 0, -1, -2, -3]), (w.heap.size + 8, [0, -1, 0, -2, -3]))] (by repeat (first | ((refine row_top ?_); ((try simp only [sz_alloc]) <;> omega); done) | (refine row_alloc ?_))) (by repeat (first | ((refine row_top ?_); ((try simp only [sz_alloc]) <;> omega); done) | (refine row_alloc ?_))) (by omega) (by simp) (by simp) ?_ (by repeat (first | (exact Below.refl _ _) | (refine Below.alloc ?_ (by simp; try omega) _)))
 intro r hr
 simp only [List.mem_cons, List.not_mem_nil, or_false] at hr
 rcases hr with rfl | rfl | rfl
 all_goals exact ⟨(by repeat (first | ((refine row_top ?_); ((try simp only [sz_alloc]) <;> omega); done) | (refine row_alloc ?_))), (by repeat (first | ((refine row_top ?_); ((try simp only [sz_alloc]) <;> omega); done) | (refine row_alloc ?_))), by simp, by simp, by simp, by simp, by simp, by simp⟩
end drawKnown
end
section
open Go.Lib (hid)
namespace drawSys
open Go.RowKit base ints sig term cursor marks app appAt sym dice drawSig drawTerm drawAny drawSub drawS drawX drawRule drawKnown
open shape (Sh Dat nc dft sI sz)
open kindsR (sRule info_RuleS)
set_option maxRecDepth 100000
theorem ints_ne {w : World} {Q : Nat → Prop} {N : Nat} {t : TypeId} {cs : List Value} {xs : List Int} {a1 a2 : Option Addr} {l1 k1 l2 k2 : Nat} (h : RdQ w Q sI cs xs) (hN : Row w N t #[.slice a1 l1 k1, .slice a2 l2 k2]) : RdQ w (fun b => Q b ∧ b ≠ N) sI cs xs := by
 obtain ⟨A, n, c, e, hc, hl, h1⟩ := h
 refine ⟨A, n, c, e, hc, hl, fun hn => ?_⟩
 obtain ⟨b, off, e2, hb, h2⟩ := h1 hn
 refine ⟨b, off, e2, ⟨hb, fun e3 => ?_⟩, h2⟩
 subst e3
 obtain ⟨es, he, hp, hr⟩ := h2 0 hn
 have hr : es = [.int .i64 (xs.getD 0 0)] := hr
 subst hr
 have h3 := hp 0 (by simp)
 rw [show off + 0 * nc .num + 0 = off by simp] at h3
 rw [Row.cell (t := t) (cs := #[.slice a1 l1 k1, .slice a2 l2 k2]) hN] at h3
 match off, h3 with
 | 0, h3 => simp at h3
 | 1, h3 => simp at h3
 | off + 2, h3 => simp at h3
theorem rule_ne {w : World} {Q : Nat → Prop} {N : Nat} {t : TypeId} {cs : List Value} {d : Dat sRule} {a1 a2 : Option Addr} {l1 k1 l2 k2 : Nat} (h : RdQ w Q sRule cs d) (hN : Row w N t #[.slice a1 l1 k1, .slice a2 l2 k2]) : RdQ w (fun b => Q b ∧ b ≠ N) sRule cs d := by
 obtain ⟨ca, cb, e, h1, h2⟩ := h
 exact ⟨ca, cb, e, ints_ne h1 hN, ints_ne h2 hN⟩
theorem ints_put {w : World} {p : Nat} {r : Option Nat} {N : Nat} {t : TypeId} {cs : List Value} {xs : List Int} {a1 a2 : Option Addr} {l1 k1 l2 k2 : Nat} (h : RdQ w (OutR w p r) sI cs xs) (hN : Row w N t #[.slice a1 l1 k1, .slice a2 l2 k2]) (i : Nat) (u : Value) : RdQ (w.setCell ⟨N, i, none⟩ u) (OutR (w.setCell ⟨N, i, none⟩ u) p r) sI cs xs :=
 ((ints_ne h hN).keep fun b hb => Below.heap_setCell w _ u b hb.2).mono fun b hb => ⟨by simpa using hb.1.1, hb.1.2⟩
theorem ownQ_put {w : World} {p lo : Nat} {e : TypeId} {A : Option Addr} {n c : Nat} {D : List (Dat sRule)} {N : Nat} {t : TypeId} {a1 a2 : Option Addr} {l1 k1 l2 k2 : Nat} (h : OwnQ w p lo e sRule A n c D) (hN : Row w N t #[.slice a1 l1 k1, .slice a2 l2 k2]) (hA : blk A ≠ some N) (i : Nat) (u : Value) : OwnQ (w.setCell ⟨N, i, none⟩ u) p lo e sRule A n c D := by
 obtain ⟨h1, vs, h2, h3⟩ := h
 refine ⟨h1, vs, World.ownsRow.kept h2 (grown_put (World.grownBy.refl w _) i u) (.inr (by rw [blk_own]; exact hA)), fun j hj => ?_⟩
 exact ((rule_ne (h3 j hj) hN).keep fun b hb => Below.heap_setCell w _ u b hb.2).mono fun b hb => ⟨by simpa using hb.1.1, hb.1.2⟩
theorem rd_of {w : World} {p : Nat} {r : Option Nat} {S : Option Addr} {sn sc : Nat} {sg : List Int} (h : RdQ w (OutR w p r) sI [.slice S sn sc] sg) : Go.Proofs.YtmoidijngeijkaaGreat.drawTerm.Rd w p w.heap.size S sn sg := by
 obtain ⟨A, n, c, e, hc, hl, h1⟩ := h
 injection e with e _
 injection e with e1 e2 e3
 subst e1 e2 e3
 refine ⟨hl, fun hn => ?_⟩
 obtain ⟨b, off, e2, hb, h2⟩ := h1 hn
 refine ⟨b, off, e2, hb.1, hb.2.1, fun j hj => ?_⟩
 obtain ⟨es, he, hp, hr⟩ := h2 j hj
 have hr : es = [.int .i64 (sg.getD j 0)] := hr
 subst hr
 have h3 := hp 0 (by simp)
 simpa [nc] using h3
def AnsSys (w : World) (p : Nat) (A : Option Addr) (n c M : Nat) (e : Ending) (w' : World) : Prop :=
 ∃ S sn sc sg R rn rc D, e = .returned (.agg #[.slice S sn sc, .slice R rn rc]) ∧ RdQ w' (OutR w' p (blk R)) sI [.slice S sn sc] (sg : List Int) ∧ sg.length ≤ 9 ∧ OwnQ w' p w.heap.size 126 sRule R rn rc D ∧ SmallD M D ∧ Dice w' p A n c ∧ w.grownBy w' (some p)
structure Y0 (w : World) (p : Nat) (A : Option Addr) (n c : Nat) (wr : World) : Prop where
 d : Dice wr p A n c
 rN : Row wr w.heap.size 29 #[.slice none 0 0, .slice none 0 0]
 g : w.grownBy wr (some p)
 hp : p < w.heap.size
structure YA (w : World) (p : Nat) (A : Option Addr) (n c : Nat) (o : Nat) (S : Option Addr) (sn sc : Nat) (sg : List Int) (R : Option Addr) (rn rc : Nat) (D : List (Dat sRule)) (wr : World) : Prop where
 z : Y0 w p A n c wr
 rO : Row wr o 29 #[.slice S sn sc, .slice R rn rc]
 s : RdQ wr (OutR wr p (blk R)) sI [.slice S sn sc] sg
 own : OwnQ wr p (w.heap.size + 1) 126 sRule R rn rc D
 hR : blk R ≠ some o
 ho : w.heap.size < o
section
variable {w : World} {p : Nat} {A : Option Addr} {n c : Nat} {o : Nat} {S : Option Addr} {sn sc : Nat} {sg : List Int} {R : Option Addr} {rn rc : Nat} {D : List (Dat sRule)} {wr w' : World}
theorem Y0.dice (t : Y0 w p A n c wr) (d : Dice w' p A n c) (hg : wr.grownBy w' (some p)) : Y0 w p A n c w' :=
 ⟨d, Row.away t.rN hg (fun e => by injection e; have := t.hp; omega), grown_trans t.g hg, t.hp⟩
theorem Y0.over (t : Y0 w p A n c wr) (hb : Below (w.heap.size + 1) wr w') : Y0 w p A n c w' :=
 ⟨t.d.keep (hb.mono (by have := t.hp; omega)), t.rN.below hb (by omega), grown_over t.g hb (by omega), t.hp⟩
theorem YA.dice (t : YA w p A n c o S sn sc sg R rn rc D wr) (d : Dice w' p A n c) (hg : wr.grownBy w' (some p)) : YA w p A n c o S sn sc sg R rn rc D w' :=
 ⟨t.z.dice d hg, Row.away t.rO hg (fun e => by injection e; have := t.z.hp; have := t.ho; omega), outR_dice t.s hg, t.own.dice hg (by have := t.z.hp; omega), t.hR, t.ho⟩
theorem YA.next (t : YA w p A n c o S sn sc sg R rn rc D wr) (hb : Below wr.heap.size wr w') : YA w p A n c o S sn sc sg R rn rc D w' :=
 ⟨t.z.over (hb.mono (by have := t.z.rN.lt; omega)), t.rO.next hb, outR_below t.s hb, t.own.below hb, t.hR, t.ho⟩
theorem YA.alloc (t : YA w p A n c o S sn sc sg R rn rc D wr) (x : Obj) : YA w p A n c o S sn sc sg R rn rc D (wr.alloc x) := t.next ((Below.refl _ _).alloc (Nat.le_refl _) _)
theorem YA.drew (t : YA w p A n c o S sn sc sg R rn rc D wr) : YA w p A n c o S sn sc sg R rn rc D wr.drew := t.next ⟨rfl, rfl, rfl, Nat.le_refl _, fun _ _ => rfl⟩
theorem YA.put {g' rc' : Nat} {x : Dat sRule} (t : YA w p A n c o S sn sc sg R rn rc D wr) (hown : OwnQ w' p (w.heap.size + 1) 126 sRule (some ⟨g', 0, none⟩) (rn + 1) rc' (D ++ [x])) (hg : wr.grownBy w' (blk R)) (hat : blk R = some g' ∨ g' = wr.heap.size) :
  YA w p A n c o S sn sc sg (some ⟨g', 0, none⟩) (rn + 1) rc' (D ++ [x]) (w'.setCell ⟨o, 1, none⟩ (.slice (some ⟨g', 0, none⟩) (rn + 1) rc')) := by
 have h2 := t.ho
 have hz := t.rO.lt
 have hge := t.own.ge
 have hO := Row.away t.rO hg t.hR
 have hb : Below (w.heap.size + 1) wr w' := (Below.refl _ _).grown hg (by omega) (fun k hk => (hge k hk).1)
 have hb2 : Below (w.heap.size + 1) wr (w'.setCell ⟨o, 1, none⟩ (.slice (some ⟨g', 0, none⟩) (rn + 1) rc')) := hb.setCell (p := ⟨o, 1, none⟩) (by show w.heap.size + 1 ≤ o; omega) _
 have hne : blk (some (⟨g', 0, none⟩ : Addr)) ≠ some o := by
  intro e
  have e : g' = o := by injection e
  subst e
  rcases hat with e | e
  ·exact t.hR e
  ·omega
 have hs : RdQ w' (OutR w' p (blk (some ⟨g', 0, none⟩))) sI [.slice S sn sc] sg :=
  (t.s.keep fun b hb => hg.block b hb.1 (fun e => hb.2.2 e)).mono fun b hb => ⟨Nat.lt_of_lt_of_le hb.1 hg.size, hb.2.1, fun e => by
   have e : b = g' := by injection e
   subst e
   rcases hat with e | e
   ·exact hb.2.2 e.symm
   ·have := hb.1; omega⟩
 exact ⟨t.z.over hb2, hO.put 1 _, ints_put hs hO 1 _, ownQ_put hown hO hne 1 _, hne, h2⟩
theorem sys_result {M : Nat} (z : Y0 w p A n c wr) (s : RdQ wr (OutR wr p (blk R)) sI [.slice S sn sc] sg) (own : OwnQ wr p (w.heap.size + 1) 126 sRule R rn rc D) (h9 : sg.length ≤ 9) (hM : SmallD M D) :
  AnsSys w p A n c M (.returned (.agg #[.slice S sn sc, .slice R rn rc])) ((wr.setCell ⟨w.heap.size, 0, none⟩ (.slice S sn sc)).setCell ⟨w.heap.size, 1, none⟩ (.slice R rn rc)) := by
 have h1 := z.hp
 have hne : blk R ≠ some w.heap.size := fun e => by have := (own.ge _ e).1; omega
 have r1 := z.rN.put 0 (.slice S sn sc)
 have o1 := ownQ_put own z.rN hne 0 (.slice S sn sc)
 have s1 := ints_put s z.rN 0 (.slice S sn sc)
 have o2 := ownQ_put o1 r1 hne 1 (.slice R rn rc)
 have s2 := ints_put s1 r1 1 (.slice R rn rc)
 have hS : Below w.heap.size wr ((wr.setCell ⟨w.heap.size, 0, none⟩ (.slice S sn sc)).setCell ⟨w.heap.size, 1, none⟩ (.slice R rn rc)) := ((Below.refl _ wr).setCell (p := ⟨w.heap.size, 0, none⟩) (Nat.le_refl _) _).setCell (p := ⟨w.heap.size, 1, none⟩) (Nat.le_refl _) _
 exact ⟨S, sn, sc, sg, R, rn, rc, D, rfl, s2, h9, o2.lower (by omega), hM, z.d.keep (hS.mono (by omega)), grown_over z.g hS (by omega)⟩
end
theorem small_nil (M : Nat) : SmallD M [] := ⟨Nat.zero_le _, fun j => ⟨Nat.zero_le _, Nat.zero_le _⟩⟩
theorem small_app {M : Nat} {D : List (Dat sRule)} {xs ys : List Int} (h : SmallD M D) (h1 : xs.length ≤ 65) (h2 : ys.length ≤ 65) : SmallD (M + 1) (D ++ [((xs, ys) : List Int × List Int)]) := by
 refine ⟨by have := h.1; simpa using this, fun j => ?_⟩
 by_cases hj : j < D.length
 ·rw [show (D ++ [((xs, ys) : List Int × List Int)]).getD j (dft sRule) = D.getD j (dft sRule) by simp [List.getD, List.getElem?_append_left hj]]
  exact h.2 j
 ·by_cases ej : j = D.length
  ·subst ej
   rw [show (D ++ [((xs, ys) : List Int × List Int)]).getD D.length (dft sRule) = ((xs, ys) : List Int × List Int) by simp [List.getD]]
   exact ⟨h1, h2⟩
  ·rw [show (D ++ [((xs, ys) : List Int × List Int)]).getD j (dft sRule) = dft sRule by rw [List.getD_eq_getElem?_getD, List.getElem?_eq_none (by simp; omega)]; rfl]
   exact ⟨Nat.zero_le _, Nat.zero_le _⟩
theorem small_wider {M M' : Nat} {D : List (Dat sRule)} (h : SmallD M D) (hM : M ≤ M') : SmallD M' D := ⟨Nat.le_trans h.1 hM, h.2⟩
theorem good_arities {xs : List Int} (h : Go.Proofs.YtmoidijngeijkaaGreat.drawSig.Good xs) : Arities xs := fun j hj => by have := h.2.2 j hj; omega
def HeadY (w : World) (p : Nat) (A : Option Addr) (n c : Nat) (o : Nat) (S : Option Addr) (sn sc : Nat) (sg : List Int) (k : Value) (wr : World) : Prop :=
 ∃ (q : Nat) (R : Option Addr) (rn rc : Nat) (D : List (Dat sRule)), k = .int .i64 q ∧ rn + q ≤ 3 ∧ SmallD rn D ∧ YA w p A n c o S sn sc sg R rn rc D wr
set_option maxHeartbeats 2000000 in
theorem drawSys (p : Nat) (A : Option Addr) (n c : Nat) (w : World) (hd : Dice w p A n c) :
  Calls Tryz.prog 102 #[.pointer (some ⟨p, 0, none⟩)] w (AnsSys w p A n c 3) := by
 obtain ⟨W, hW⟩ : ∃ W, W = w.alloc (.cells #[.slice none 0 0, .slice none 0 0] 29) := ⟨_, rfl⟩
 have T : Y0 w p A n c W := by rw [hW]; exact ⟨hd.alloc _, Row.new _ _ _, World.grownBy_alloc _ _ _, hd.lt⟩
 have HW := hid hW
 have hp := hd.lt
 clear hW hd
 have L1 := hid (once p A n c 2 W T.d (by omega) (by omega))
 go_enter Tryz.func102, Tryz.ntmps102
 go_wp2_with fail
 rw [← HW.out]
 refine L1.out.mono ?_
 rintro e u1 ⟨b, rfl, d1, g1⟩
 have T1 := T.dice d1 g1
 clear L1 T d1 g1 HW
 cases b with
 | true =>
  have L2 := hid (below p A n c 7 u1 T1.d (by omega) (by omega))
  go_wp2_with fail
  refine L2.out.mono ?_
  rintro e u2 ⟨x, rfl, x0, x1, d2, g2⟩
  have T2 := T1.dice d2 g2
  clear L2 T1 d2 g2
  go_wp2_with fail
  refine (known x u2).mono ?_
  rintro e u3 ⟨S, sn, sc, R, rn, rc, D, rfl, oS, hne, hO, hM, b3⟩
  have z2 := T2.rN.lt
  have T3 := T2.over (b3.mono (by omega))
  have own := (hO p (by omega)).lower (show w.heap.size + 1 ≤ u2.heap.size by omega)
  have sS : RdQ u3 (OutR u3 p (blk R)) sI [.slice S sn sc] ([2, 1, 0] : List Int) := rdq_own oS fun b h1 h2 h3 => ⟨h2, by omega, fun e => hne (by rw [h3]; exact e)⟩
  have cN : u3.cell? ⟨w.heap.size, 0, none⟩ = some (.slice none 0 0) := T3.rN.cell 0
  have cN1 : u3.cell? ⟨w.heap.size, 1, none⟩ = some (.slice none 0 0) := T3.rN.cell 1
  have fN : u3.frozen? ⟨w.heap.size, 0, none⟩ = false := T3.rN.free 0
  have fN1 : u3.frozen? ⟨w.heap.size, 1, none⟩ = false := T3.rN.free 1
  have F := hid (sys_result T3 sS own (by simp) hM)
  clear T3 T2 b3 hO own sS oS
  go_wp2
  exact bodyPost_ret (v := .agg #[.slice S sn sc, .slice R rn rc]) (by simp [results, Tryz.results102, go_sem, cN, cN1]) rfl F.out
 | false =>
  have L2 := hid (drawSig p A n c u1 T1.d)
  go_wp2_with fail
  refine L2.out.mono ?_
  rintro e u2 ⟨S, sn, sc, sg, rfl, oS, hG, d2, g2⟩
  have T2 := T1.dice d2 g2
  have hars := good_arities hG
  have hsl := Own.len oS
  have hn1 : 1 ≤ sn := by have := hG.1; omega
  have hn4 : sn ≤ 4 := by have := hG.2.1; omega
  have h9 : sg.length ≤ 9 := by omega
  have z1 := T1.rN.lt
  have z2 := T2.rN.lt
  obtain ⟨o, ho⟩ : ∃ o, u2.heap.size = o := ⟨_, rfl⟩
  obtain ⟨W3, hW3⟩ : ∃ W3, W3 = u2.alloc (.cells #[.slice S sn sc, .slice none 0 0] 29) := ⟨_, rfl⟩
  have T3 : YA w p A n c o S sn sc sg none 0 0 [] W3 := by
   have bb : Below u2.heap.size u2 W3 := by rw [hW3]; exact (Below.refl _ _).alloc (Nat.le_refl _) _
   have hSS : RdQ u2 (OutR u2 p (blk none)) sI [.slice S sn sc] sg := rdq_own oS fun b h1 h2 _ => ⟨h2, by omega, fun e => by cases e⟩
   exact ⟨T2.over (bb.mono (by omega)), by rw [hW3, ← ho]; exact Row.new _ _ _, outR_below hSS bb, OwnQ.nil _ _ _ _ _, (fun e => by cases e), by omega⟩
  have HW3 := hid hW3
  have HO := hid ho
  have L3 := hid (below p A n c 4 W3 T3.z.d (by omega) (by omega))
  clear L2 T1 T2 d2 g2 oS hG hW3 ho hsl
  go_wp2_with fail
  rw [← HW3.out, HO.out]
  refine L3.out.mono ?_
  rintro e u4 ⟨x, rfl, x0, x1, d4, g4⟩
  have T4 := T3.dice d4 g4
  obtain ⟨q, rfl⟩ := Int.eq_ofNat_of_zero_le x0
  have HH := hid (show HeadY w p A n c o S sn sc sg (.int .i64 (q : Int)) u4 from ⟨q, none, 0, 0, [], rfl, by omega, small_nil _, T4⟩)
  clear T3 T4 d4 g4 L3 HW3 HO x0 x1
  go_wp2_with fail
  go_loopw [4] (fun k wr => HeadY w p A n c o S sn sc sg k wr) (fun k _ => (intOf k).toNat)
  case atStart => exact HH.out
  case round =>
   obtain ⟨q, R, rn, rc, D, rfl, hq, hD, T⟩ := hrel
   clear HH
   have cV : wr.cell? ⟨o, 0, none⟩ = some (.slice S sn sc) := T.rO.cell 0
   have cR : wr.cell? ⟨o, 1, none⟩ = some (.slice R rn rc) := T.rO.cell 1
   cases q with
   | zero =>
    have cN : wr.cell? ⟨w.heap.size, 0, none⟩ = some (.slice none 0 0) := T.z.rN.cell 0
    have cN1 : wr.cell? ⟨w.heap.size, 1, none⟩ = some (.slice none 0 0) := T.z.rN.cell 1
    have fN : wr.frozen? ⟨w.heap.size, 0, none⟩ = false := T.z.rN.free 0
    have fN1 : wr.frozen? ⟨w.heap.size, 1, none⟩ = false := T.z.rN.free 1
    have F := hid (sys_result T.z T.s T.own h9 (small_wider hD (show rn ≤ 3 by omega)))
    clear T
    go_wp2
    exact bodyPost_ret (v := .agg #[.slice S sn sc, .slice R rn rc]) (by simp [results, Tryz.results102, go_sem, cN, cN1]) rfl F.out
   | succ q =>
    have e0 : (0 : Int) < ((q + 1 : Nat) : Int) := by omega
    have T6 := T.drew
    clear T
    go_wp2_with fail
    go_region_law (first
     | (refine stepQ1 rfl _ _ 27 126 sRule _ 48 Tryz.underlying27 info_RuleS rfl (by omega) rfl p (w.heap.size + 1) R rn rc D (by simp [Act.eval, Act.put]) (T7.alloc _).own w7.heap.size 1 [.slice a1 n1 c1, .slice a2 n2 c2] ((xs, ys) : List Int × List Int) (by simp [Act.eval, Act.put]) (fun i hi => by match i, hi with | 0, _ => exact (Row.new _ _ _).cell 0 | 1, _ => exact (Row.new _ _ _).cell 1) (outR_below RX ((Below.refl _ _).alloc (Nat.le_refl _) _)) (by omega) (by simp; omega) ?_; intro O' oc' w8 ho8 hg8 hat8 hlt8; have r8 := Row.away (T7.alloc _).rO hg8 T7.hR; have cV8 : w8.cell? ⟨o, 0, none⟩ = some (.slice S sn sc) := r8.cell 0; have cR8 : w8.cell? ⟨o, 1, none⟩ = some (.slice R rn rc) := r8.cell 1; have fV8 : w8.frozen? ⟨o, 1, none⟩ = false := r8.free 1)
     | (go_simp; go_at_call 145; refine (drawRule p A n c S sn sc sg _ T6.z.d (rd_of T6.s) hars hn1 (by omega)).mono ?_; rintro e w7 ⟨a1, n1, c1, a2, n2, c2, xs, ys, rfl, rx, hx1, hx2, d7, g7⟩; have T7 := T6.dice d7 g7; have RX : RdQ w7 (OutR w7 p (blk R)) sRule [.slice a1 n1 c1, .slice a2 n2 c2] ((xs, ys) : List Int × List Int) := (rx.mono fun b hb => ⟨hb.2, (by have h5 := hb.1; have h6 := T6.z.rN.lt; omega), fun e => by have h5 := hb.1; have h6 := (T6.own.ge b e.symm).2; omega⟩); have cV7 : w7.cell? ⟨o, 0, none⟩ = some (.slice S sn sc) := T7.rO.cell 0; have cR7 : w7.cell? ⟨o, 1, none⟩ = some (.slice R rn rc) := T7.rO.cell 1; have zV7 : o < w7.heap.size := T7.rO.lt; have zW7 : w.heap.size < w7.heap.size := T7.z.rN.lt))
    all_goals
     have T8 := YA.put (T7.alloc _) ho8 hg8 hat8
     have F := hid (show HeadY w p A n c o S sn sc sg (.int .i64 (q : Int)) _ from ⟨q, _, _, _, _, rfl, by omega, small_app hD (by omega) (by omega), T8⟩)
     clear T8 T7 T6 ho8 hg8 hat8 hlt8 r8 d7 g7 cV7 cR7 RX rx
     go_wp2
     go_roundw
     case rel => first | exact F.out | simpa using F.out
     case measure => simp [intOf]
end drawSys
end
section
open Go.Lib (hid)
namespace drawSysAny
open Go.RowKit base ints sig term cursor marks app appAt sym segs dice drawSig drawTerm drawAny drawSub drawS drawX drawRule drawKnown drawSys compImpl
open shape (Sh Dat nc dft sI sz)
open kindsR (sRule info_RuleS)
set_option maxRecDepth 100000
section
variable {w : World} {p : Nat} {A : Option Addr} {n c : Nat} {o : Nat} {S : Option Addr} {sn sc : Nat} {sg : List Int} {R : Option Addr} {rn rc : Nat} {D : List (Dat sRule)} {wr w' : World}
theorem YA.sig {S' : Option Addr} {sn' sc' : Nat} {xs : List Int} {base : Nat} (t : YA w p A n c o S sn sc sg R rn rc D wr) (h : Own wr base (.slice S' sn' sc') xs) (hb : ∀ k, blk R = some k → k < base) (hp : p < base) :
  YA w p A n c o S' sn' sc' xs R rn rc D (wr.setCell ⟨o, 0, none⟩ (.slice S' sn' sc')) := by
 have h1 := t.ho
 have hS : RdQ wr (OutR wr p (blk R)) sI [.slice S' sn' sc'] xs := rdq_own h fun b h1 h2 _ => ⟨h2, by omega, fun e => by have := hb b e.symm; omega⟩
 have hbb : Below (w.heap.size + 1) wr (wr.setCell ⟨o, 0, none⟩ (.slice S' sn' sc')) := (Below.refl _ _).setCell (p := ⟨o, 0, none⟩) (by show w.heap.size + 1 ≤ o; omega) _
 exact ⟨t.z.over hbb, t.rO.put 0 _, ints_put hS t.rO 0 _, ownQ_put t.own t.rO t.hR 0 _, t.hR, t.ho⟩
theorem lit_rule (x y : Int) (t : YA w p A n c o S sn sc sg R rn rc D wr) : RdQ ((wr.alloc (.cells #[.int .i64 x] 2)).alloc (.cells #[.int .i64 y] 2)) (OutR ((wr.alloc (.cells #[.int .i64 x] 2)).alloc (.cells #[.int .i64 y] 2)) p (blk R)) sRule [.slice (some ⟨wr.heap.size, 0, none⟩) 1 1, .slice (some ⟨wr.heap.size + 1, 0, none⟩) 1 1] (([x], [y]) : List Int × List Int) := by
 have hp := t.z.hp
 have hz := t.z.rN.lt
 have hne : ∀ g, wr.heap.size ≤ g → some g ≠ blk R := fun g hg e => by have := (t.own.ge g e.symm).2; omega
 refine RdQ.cat (ca := [_]) (cb := [_]) ?_ ?_
 ·refine lit_seg (xs := [x]) (g := wr.heap.size) ?_ (by simp) ⟨by simp only [sz_alloc]; omega, by omega, hne _ (Nat.le_refl _)⟩
  exact row_alloc (row_top rfl)
 ·refine lit_seg (xs := [y]) (g := wr.heap.size + 1) ?_ (by simp) ⟨by simp only [sz_alloc]; omega, by omega, hne _ (Nat.le_succ _)⟩
  exact row_top (by simp only [sz_alloc])
theorem ownQ_some {lo : Nat} {e : TypeId} (h : OwnQ wr p lo e sRule R rn rc D) (h1 : 1 ≤ rn) : ∃ g, R = some ⟨g, 0, none⟩ := by
 obtain ⟨_, vs, ho, _⟩ := h
 rcases ho.2 with ⟨e1, h0⟩ | ⟨g, cap, cur, e1, _⟩
 ·omega
 ·injection e1 with e1 _ _; exact ⟨g, e1⟩
theorem put_any {A' : Option Addr} {rc' : Nat} {x : Dat sRule} (t : YA w p A n c o S sn sc sg R rn rc D wr) (hown : OwnQ w' p (w.heap.size + 1) 126 sRule A' (rn + 1) rc' (D ++ [x])) (hg : wr.grownBy w' (blk R)) (hat : blk A' = blk R ∨ blk A' = some wr.heap.size) :
  w'.cell? ⟨o, 0, none⟩ = some (.slice S sn sc) ∧ w'.cell? ⟨o, 1, none⟩ = some (.slice R rn rc) ∧ w'.frozen? ⟨o, 1, none⟩ = false ∧ Row w' w.heap.size 29 #[.slice none 0 0, .slice none 0 0] ∧ YA w p A n c o S sn sc sg A' (rn + 1) rc' (D ++ [x]) (w'.setCell ⟨o, 1, none⟩ (.slice A' (rn + 1) rc')) := by
 obtain ⟨g', rfl⟩ := ownQ_some hown (by omega)
 have hO := Row.away t.rO hg t.hR
 refine ⟨hO.cell 0, hO.cell 1, hO.free 1, Row.away t.z.rN hg (fun e => by have := (t.own.ge _ e).1; omega), YA.put t hown hg ?_⟩
 rcases hat with e | e
 ·exact .inl e.symm
 ·have e : some g' = some wr.heap.size := e
  injection e with e
  exact .inr e
end
theorem rule_two {u v : World} {p N : Nat} {r : Option Nat} {O P : Option Addr} {on oc pn pc : Nat} {xs ys : List Int} (ra : Go.Proofs.YtmoidijngeijkaaGreat.drawTerm.Rd u p u.heap.size O on xs) (rb : Go.Proofs.YtmoidijngeijkaaGreat.drawTerm.Rd v p v.heap.size P pn ys) (h1 : on ≤ oc) (h2 : oc ≤ 9223372036854775807) (h3 : O = none → oc = 0) (k1 : pn ≤ pc) (k2 : pc ≤ 9223372036854775807) (k3 : P = none → pc = 0)
  (g : u.grownBy v (some p)) (hr : ∀ k, r = some k → k < N) (hNu : N ≤ u.heap.size) (hO : ∀ k, blk O = some k → N ≤ k) (hP : ∀ k, blk P = some k → u.heap.size ≤ k) : RdQ v (OutR v p r) sRule [.slice O on oc, .slice P pn pc] ((xs, ys) : List Int × List Int) := by
 have ra' := (ra.grown g (Nat.le_refl _)).more g.size
 have one : ∀ {Z : Option Addr} {zn zc : Nat} {zs : List Int}, Go.Proofs.YtmoidijngeijkaaGreat.drawTerm.Rd v p v.heap.size Z zn zs → Cap Z zn zc → (∀ k, blk Z = some k → N ≤ k) → RdQ v (OutR v p r) sI [.slice Z zn zc] zs := fun {Z zn zc zs} h hc hz =>
  rdq_seg h.1 hc fun hn => by
   obtain ⟨b, off, e, hb, hp, hcell⟩ := h.2 hn
   exact ⟨b, off, e, ⟨hb, hp, fun e2 => by have := hz b (by rw [e]; rfl); have := hr b e2.symm; omega⟩, hcell⟩
 exact RdQ.cat (ca := [_]) (cb := [_]) (one ra' ⟨h1, h2, h3⟩ hO) (one rb ⟨k1, k2, k3⟩ (fun k hk => Nat.le_trans hNu (hP k hk)))
def HeadM (w : World) (p : Nat) (A : Option Addr) (n c : Nat) (o : Nat) (S : Option Addr) (sn sc : Nat) (sg : List Int) (g : Nat) (wr : World) : Prop :=
 ∃ (R : Option Addr) (rn rc : Nat) (D : List (Dat sRule)), rn + g = 13 ∧ SmallD 13 D ∧ YA w p A n c o S sn sc sg R rn rc D wr
set_option maxHeartbeats 4000000 in
theorem drawSysAny (p : Nat) (A : Option Addr) (n c : Nat) (w : World) (hd : Dice w p A n c) :
  Calls Tryz.prog 51 #[.pointer (some ⟨p, 0, none⟩)] w (AnsSys w p A n c 13) := by
 obtain ⟨W, hW⟩ : ∃ W, W = w.alloc (.cells #[.slice none 0 0, .slice none 0 0] 29) := ⟨_, rfl⟩
 have T : Y0 w p A n c W := by rw [hW]; exact ⟨hd.alloc _, Row.new _ _ _, World.grownBy_alloc _ _ _, hd.lt⟩
 have zW : W.heap.size = w.heap.size + 1 := by rw [hW]; simp
 have HW := hid hW
 have hp := hd.lt
 clear hW hd
 have L1 := hid (drawSys p A n c W T.d)
 go_enter Tryz.func51, Tryz.ntmps51
 go_wp2_with fail
 rw [← HW.out]
 refine L1.out.mono ?_
 rintro e u2 ⟨S, sn, sc, sg, R, rn, rc, D, rfl, sS, h9, own, hM, d1, g1⟩
 rw [zW] at own
 have T2 := T.dice d1 g1
 have z2 := T2.rN.lt
 obtain ⟨o, ho⟩ : ∃ o, u2.heap.size = o := ⟨_, rfl⟩
 obtain ⟨W3, hW3⟩ : ∃ W3, W3 = u2.alloc (.cells #[.slice S sn sc, .slice R rn rc] 29) := ⟨_, rfl⟩
 have T3 : YA w p A n c o S sn sc sg R rn rc D W3 := by
  have bb : Below u2.heap.size u2 W3 := by rw [hW3]; exact (Below.refl _ _).alloc (Nat.le_refl _) _
  exact ⟨T2.over (bb.mono (by omega)), by rw [hW3, ← ho]; exact Row.new _ _ _, outR_below sS bb, own.below bb, (fun e => by have := (own.ge _ e).2; omega), by omega⟩
 have HW3 := hid hW3
 have HO := hid ho
 have L3 := hid (once p A n c 15 W3 T3.z.d (by omega) (by omega))
 have hDl := hid own.1
 have hrn : rn ≤ 3 := by have := own.1; have := hM.1; omega
 clear L1 T T2 d1 g1 sS own hW3 ho HW zW
 go_wp2_with fail
 rw [← HW3.out, HO.out]
 refine L3.out.mono ?_
 rintro e u4 ⟨b, rfl, d4, g4⟩
 have T4 := T3.dice d4 g4
 clear T3 d4 g4 L3 HW3 HO
 cases b with
 | false =>
  have cN : u4.cell? ⟨w.heap.size, 0, none⟩ = some (.slice none 0 0) := T4.z.rN.cell 0
  have cN1 : u4.cell? ⟨w.heap.size, 1, none⟩ = some (.slice none 0 0) := T4.z.rN.cell 1
  have fN : u4.frozen? ⟨w.heap.size, 0, none⟩ = false := T4.z.rN.free 0
  have fN1 : u4.frozen? ⟨w.heap.size, 1, none⟩ = false := T4.z.rN.free 1
  have cV : u4.cell? ⟨o, 0, none⟩ = some (.slice S sn sc) := T4.rO.cell 0
  have cR : u4.cell? ⟨o, 1, none⟩ = some (.slice R rn rc) := T4.rO.cell 1
  have F := hid (sys_result T4.z T4.s T4.own h9 (small_wider hM (show 3 ≤ 13 by omega)))
  clear T4
  go_wp2
  exact bodyPost_ret (v := .agg #[.slice S sn sc, .slice R rn rc]) (by simp [results, Tryz.results51, go_sem, cN, cN1]) rfl F.out
 | true =>
  have L4 := hid (below p A n c 4 u4 T4.z.d (by omega) (by omega))
  go_wp2_with fail
  refine L4.out.mono ?_
  rintro e u5 ⟨x, rfl, x0, x1, d5, g5⟩
  have T5 := T4.dice d5 g5
  clear T4 d5 g5 L4
  have cV : u5.cell? ⟨o, 0, none⟩ = some (.slice S sn sc) := T5.rO.cell 0
  have cR : u5.cell? ⟨o, 1, none⟩ = some (.slice R rn rc) := T5.rO.cell 1
  have zne : ¬ o = w.heap.size := by have := T5.ho; omega
  by_cases hx0 : x = 0
  ·subst hx0
   have T6 := T5.drew
   clear x0 x1 T5
   go_wp2_with fail
   go_region_law (first
    | (refine stepQ1 rfl _ _ 27 126 sRule _ 48 Tryz.underlying27 info_RuleS rfl (by omega) rfl p (w.heap.size + 1) R rn rc D (by simp [Act.eval, Act.put]) (T8.alloc _).own w8.heap.size 1 [.slice O on oc, .slice P pn pc] ((xs, ys) : List Int × List Int) (by simp [Act.eval, Act.put]) (fun i hi => by match i, hi with | 0, _ => exact (Row.new _ _ _).cell 0 | 1, _ => exact (Row.new _ _ _).cell 1) (outR_below RX ((Below.refl _ _).alloc (Nat.le_refl _) _)) (by omega) (by simp; omega) ?_; intro O' oc' w9 ho9 hg9 hat9 hlt9; have r9 := Row.away (T8.alloc _).rO hg9 T8.hR; have cV9 : w9.cell? ⟨o, 0, none⟩ = some (.slice S sn sc) := r9.cell 0; have cR9 : w9.cell? ⟨o, 1, none⟩ = some (.slice R rn rc) := r9.cell 1; have fV9 : w9.frozen? ⟨o, 1, none⟩ = false := r9.free 1)
    | (go_simp; go_at_call 53; refine (drawAnyN p A n c S sn sc sg _ T7.z.d (rd_of T7.s) (by have := (rd_of T7.s).1; omega)).mono ?_; rintro e w8 ⟨P, pn, pc, ys, rfl, rb, k1, k2, k3, k4, d8, g8, hnew8⟩; have T8 := T7.dice d8 g8; have RX := rule_two (pc := pc) ra rb h1 h2 h3 k1 k2 k3 g8 (fun k hk => (T6.own.ge k hk).2) g7.size hnew7 hnew8; have cV8 : w8.cell? ⟨o, 0, none⟩ = some (.slice S sn sc) := T8.rO.cell 0; have cR8 : w8.cell? ⟨o, 1, none⟩ = some (.slice R rn rc) := T8.rO.cell 1; have zV8 : o < w8.heap.size := T8.rO.lt; have zW8 : w.heap.size < w8.heap.size := T8.z.rN.lt)
    | (go_simp; go_at_call 53; refine (drawAnyN p A n c S sn sc sg _ T6.z.d (rd_of T6.s) (by have := (rd_of T6.s).1; omega)).mono ?_; rintro e w7 ⟨O, on, oc, xs, rfl, ra, h1, h2, h3, h4, d7, g7, hnew7⟩; have T7 := T6.dice d7 g7; have cV7 : w7.cell? ⟨o, 0, none⟩ = some (.slice S sn sc) := T7.rO.cell 0; have cR7 : w7.cell? ⟨o, 1, none⟩ = some (.slice R rn rc) := T7.rO.cell 1; have zV7 : o < w7.heap.size := T7.rO.lt; have zW7 : w.heap.size < w7.heap.size := T7.z.rN.lt))
   all_goals
    have T9 := YA.put (T8.alloc _) ho9 hg9 hat9
    have cN9 : (w9.setCell ⟨o, 1, none⟩ (.slice (some ⟨O', 0, none⟩) (rn + 1) oc')).cell? ⟨w.heap.size, 0, none⟩ = some (.slice none 0 0) := T9.z.rN.cell 0
    have cN91 : (w9.setCell ⟨o, 1, none⟩ (.slice (some ⟨O', 0, none⟩) (rn + 1) oc')).cell? ⟨w.heap.size, 1, none⟩ = some (.slice none 0 0) := T9.z.rN.cell 1
    have fN9 : (w9.setCell ⟨o, 1, none⟩ (.slice (some ⟨O', 0, none⟩) (rn + 1) oc')).frozen? ⟨w.heap.size, 0, none⟩ = false := T9.z.rN.free 0
    have fN91 : (w9.setCell ⟨o, 1, none⟩ (.slice (some ⟨O', 0, none⟩) (rn + 1) oc')).frozen? ⟨w.heap.size, 1, none⟩ = false := T9.z.rN.free 1
    have cW9 : (w9.setCell ⟨o, 1, none⟩ (.slice (some ⟨O', 0, none⟩) (rn + 1) oc')).cell? ⟨o, 0, none⟩ = some (.slice S sn sc) := T9.rO.cell 0
    have cW91 : (w9.setCell ⟨o, 1, none⟩ (.slice (some ⟨O', 0, none⟩) (rn + 1) oc')).cell? ⟨o, 1, none⟩ = some (.slice (some ⟨O', 0, none⟩) (rn + 1) oc') := T9.rO.cell 1
    have F := hid (sys_result T9.z T9.s T9.own h9 (small_wider (small_app hM (by rw [ra.1]; exact h4) (by rw [rb.1]; exact k4)) (show 3 + 1 ≤ 13 by omega)))
    clear T9 T8 T7 T6 ho9 hg9 hat9 hlt9 r9 d7 g7 d8 g8 cV7 cR7 cV8 cR8 RX ra rb
    go_wp2
    exact bodyPost_ret (v := .agg #[.slice S sn sc, .slice (some ⟨O', 0, none⟩) (rn + 1) oc']) (by simp [results, Tryz.results51, go_sem, cN9, cN91]) rfl F.out
  ·by_cases hx1 : x = 1
   ·subst hx1
    have L6 := hid (drawSigAny p A n c u5 T5.z.d)
    go_wp2_with fail
    refine L6.out.mono ?_
    rintro e u6 ⟨S', sn', sc', xs, rfl, oS, hsh, d6, g6⟩
    have T6 := T5.dice d6 g6
    have T8 := YA.sig T6 oS (fun k hk => (T5.own.ge k hk).2) (by have := T5.z.rN.lt; omega)
    have cV6 : u6.cell? ⟨o, 0, none⟩ = some (.slice S sn sc) := T6.rO.cell 0
    have cR6 : u6.cell? ⟨o, 1, none⟩ = some (.slice R rn rc) := T6.rO.cell 1
    have fV6 : u6.frozen? ⟨o, 0, none⟩ = false := T6.rO.free 0
    have cN8 : (u6.setCell ⟨o, 0, none⟩ (.slice S' sn' sc')).cell? ⟨w.heap.size, 0, none⟩ = some (.slice none 0 0) := T8.z.rN.cell 0
    have cN81 : (u6.setCell ⟨o, 0, none⟩ (.slice S' sn' sc')).cell? ⟨w.heap.size, 1, none⟩ = some (.slice none 0 0) := T8.z.rN.cell 1
    have fN8 : (u6.setCell ⟨o, 0, none⟩ (.slice S' sn' sc')).frozen? ⟨w.heap.size, 0, none⟩ = false := T8.z.rN.free 0
    have fN81 : (u6.setCell ⟨o, 0, none⟩ (.slice S' sn' sc')).frozen? ⟨w.heap.size, 1, none⟩ = false := T8.z.rN.free 1
    have cW8 : (u6.setCell ⟨o, 0, none⟩ (.slice S' sn' sc')).cell? ⟨o, 0, none⟩ = some (.slice S' sn' sc') := T8.rO.cell 0
    have cW81 : (u6.setCell ⟨o, 0, none⟩ (.slice S' sn' sc')).cell? ⟨o, 1, none⟩ = some (.slice R rn rc) := T8.rO.cell 1
    have F := hid (sys_result T8.z T8.s T8.own hsh (small_wider hM (show 3 ≤ 13 by omega)))
    clear T8 T6 T5 d6 g6 L6 oS
    go_wp2
    exact bodyPost_ret (v := .agg #[.slice S' sn' sc', .slice R rn rc]) (by simp [results, Tryz.results51, go_sem, cN8, cN81]) rfl F.out
   ·by_cases hx2 : x = 2
    ·subst hx2
     clear x0 x1 hx0 hx1 cV cR
     have HH := hid (show HeadM w p A n c o S sn sc sg (13 - rn) u5 from ⟨R, rn, rc, D, by omega, small_wider hM (by omega), T5⟩)
     clear T5 hM hDl
     go_wp2_with fail
     go_loopg [] (13 - rn) (fun g wr => HeadM w p A n c o S sn sc sg g wr)
     case atStart => exact HH.out
     case round =>
      clear HH hrn
      obtain ⟨R, rn, rc, D, hg13, hM, T⟩ := hrel
      have HG := hid hg13
      have hDl := hid T.own.1
      have cV : wr.cell? ⟨o, 0, none⟩ = some (.slice S sn sc) := T.rO.cell 0
      have cR : wr.cell? ⟨o, 1, none⟩ = some (.slice R rn rc) := T.rO.cell 1
      clear hg13
      by_cases hlt : rn < 13
      ·have i1 : (rn : Int) < 13 := by omega
       have hgk := hid (show gk - 1 < gk ∧ rn + 1 + (gk - 1) = 13 by have := HG.out; omega)
       have LR := hid (lit_rule 2 2 T)
       have TA := ((T.alloc (.cells #[.int .i64 2] 2)).alloc (.cells #[.int .i64 2] 2)).alloc (.cells #[.slice (some ⟨wr.heap.size, 0, none⟩) 1 1, .slice (some ⟨wr.heap.size + 1, 0, none⟩) 1 1] 126)
       have zu := T.z.rN.lt
       have hM1 := hid (show SmallD 13 (D ++ [(([2], [2]) : List Int × List Int)]) from small_wider (small_app (M := rn) ⟨Nat.le_of_eq hDl.out, hM.2⟩ (by simp) (by simp)) (by omega))
       go_wp2_with (at_builtin; refine appQ1 rfl _ _ 27 126 sRule _ 48 Tryz.underlying27 info_RuleS rfl (by omega) rfl p (w.heap.size + 1) R rn rc D rfl TA.own (wr.heap.size + 1 + 1) 1 [.slice (some ⟨wr.heap.size, 0, none⟩) 1 1, .slice (some ⟨wr.heap.size + 1, 0, none⟩) 1 1] (([2], [2]) : List Int × List Int) rfl (fun i hi => by match i, hi with | 0, _ => exact (row_top (by simp only [sz_alloc])).cell 0 | 1, _ => exact (row_top (by simp only [sz_alloc])).cell 1) (outR_below LR.out ((Below.refl _ _).alloc (Nat.le_refl _) _)) (by omega) (by simp only [sz_alloc]; omega) ?_; intro A' c' w8 ho8 hg8 hat8 hb8; obtain ⟨cV8, cR8, fV8, rN8, T8⟩ := put_any TA ho8 hg8 hat8)
       have F := hid (show HeadM w p A n c o S sn sc sg (gk - 1) _ from ⟨A', rn + 1, c', _, hgk.out.2, hM1.out, T8⟩)
       clear T8 TA T ho8 hg8 hat8 hb8 LR hM1 hM
       go_wp2
       go_roundg (gk - 1)
       case measure => exact hgk.out.1
       case rel => exact F.out
      ·have i1 : ¬ (rn : Int) < 13 := by omega
       have cN : wr.cell? ⟨w.heap.size, 0, none⟩ = some (.slice none 0 0) := T.z.rN.cell 0
       have cN1 : wr.cell? ⟨w.heap.size, 1, none⟩ = some (.slice none 0 0) := T.z.rN.cell 1
       have fN : wr.frozen? ⟨w.heap.size, 0, none⟩ = false := T.z.rN.free 0
       have fN1 : wr.frozen? ⟨w.heap.size, 1, none⟩ = false := T.z.rN.free 1
       have F := hid (sys_result T.z T.s T.own h9 hM)
       clear T hM
       go_wp2
       exact bodyPost_ret (v := .agg #[.slice S sn sc, .slice R rn rc]) (by simp [results, Tryz.results51, go_sem, cN, cN1]) rfl F.out
    ·have e3 : x = 3 := by omega
     subst e3
     clear x0 x1 hx0 hx1 hx2
     have LR := hid (lit_rule (-1) (-1) T5)
     have TA := ((T5.alloc (.cells #[.int .i64 (-1)] 2)).alloc (.cells #[.int .i64 (-1)] 2)).alloc (.cells #[.slice (some ⟨u5.heap.size, 0, none⟩) 1 1, .slice (some ⟨u5.heap.size + 1, 0, none⟩) 1 1] 126)
     have zu := T5.z.rN.lt
     go_wp2_with (at_builtin; refine appQ1 rfl _ _ 27 126 sRule _ 48 Tryz.underlying27 info_RuleS rfl (by omega) rfl p (w.heap.size + 1) R rn rc D rfl TA.own (u5.heap.size + 1 + 1) 1 [.slice (some ⟨u5.heap.size, 0, none⟩) 1 1, .slice (some ⟨u5.heap.size + 1, 0, none⟩) 1 1] (([-1], [-1]) : List Int × List Int) rfl (fun i hi => by match i, hi with | 0, _ => exact (row_top (by simp only [sz_alloc])).cell 0 | 1, _ => exact (row_top (by simp only [sz_alloc])).cell 1) (outR_below LR.out ((Below.refl _ _).alloc (Nat.le_refl _) _)) (by omega) (by simp only [sz_alloc]; omega) ?_; intro A' c' w8 ho8 hg8 hat8 hb8; obtain ⟨cV8, cR8, fV8, rN8, T8⟩ := put_any TA ho8 hg8 hat8; have dN8 : w8.cell? ⟨w.heap.size, 0, none⟩ = some (.slice none 0 0) := rN8.cell 0; have dN81 : w8.cell? ⟨w.heap.size, 1, none⟩ = some (.slice none 0 0) := rN8.cell 1; have eN8 : w8.frozen? ⟨w.heap.size, 0, none⟩ = false := rN8.free 0; have eN81 : w8.frozen? ⟨w.heap.size, 1, none⟩ = false := rN8.free 1)
     have cN8 : (w8.setCell ⟨o, 1, none⟩ (.slice A' (rn + 1) c')).cell? ⟨w.heap.size, 0, none⟩ = some (.slice none 0 0) := T8.z.rN.cell 0
     have cN81 : (w8.setCell ⟨o, 1, none⟩ (.slice A' (rn + 1) c')).cell? ⟨w.heap.size, 1, none⟩ = some (.slice none 0 0) := T8.z.rN.cell 1
     have fN8 : (w8.setCell ⟨o, 1, none⟩ (.slice A' (rn + 1) c')).frozen? ⟨w.heap.size, 0, none⟩ = false := T8.z.rN.free 0
     have fN81 : (w8.setCell ⟨o, 1, none⟩ (.slice A' (rn + 1) c')).frozen? ⟨w.heap.size, 1, none⟩ = false := T8.z.rN.free 1
     have cW8 : (w8.setCell ⟨o, 1, none⟩ (.slice A' (rn + 1) c')).cell? ⟨o, 0, none⟩ = some (.slice S sn sc) := T8.rO.cell 0
     have cW81 : (w8.setCell ⟨o, 1, none⟩ (.slice A' (rn + 1) c')).cell? ⟨o, 1, none⟩ = some (.slice A' (rn + 1) c') := T8.rO.cell 1
     have F := hid (sys_result T8.z T8.s T8.own h9 (small_wider (small_app hM (by simp) (by simp)) (show 3 + 1 ≤ 13 by omega)))
     clear T8 TA T5 ho8 hg8 hat8 hb8 LR
     try go_wp2
     exact bodyPost_ret (v := .agg #[.slice S sn sc, .slice A' (rn + 1) c']) (by simp [results, Tryz.results51, go_sem, cN8, cN81, dN8, dN81, zne]) rfl F.out
end drawSysAny
end
section
namespace drawSysD
open Go.RowKit base ints sig term cursor marks app appAt sym segs dice drawTwo drawX drawRule drawKnown drawSys drawSysAny
open shape (Sh Dat nc dft sI sz)
open kindsR (sRule sSystem sRuleS)
set_option maxRecDepth 100000
theorem sz_small {M : Nat} {D : List (Dat sRule)} (h : SmallD M D) : sz sRuleS D ≤ M + M * 130 := by
 have h1 : ∀ x ∈ D, sz sRule x ≤ 130 := fun x hx => by
  obtain ⟨j, hj, rfl⟩ := List.mem_iff_getElem.1 hx
  obtain ⟨h2, h3⟩ := h.2 j
  rw [List.getD_eq_getElem?_getD, List.getElem?_eq_getElem hj] at h2 h3
  have h2 : ((D[j]).1 : List Int).length ≤ 65 := h2
  have h3 : ((D[j]).2 : List Int).length ≤ 65 := h3
  show sz sI (D[j]).1 + sz sI (D[j]).2 ≤ 130
  rw [Go.Proofs.YtmoidijngeijkaaGreat.shape.sz_ints, Go.Proofs.YtmoidijngeijkaaGreat.shape.sz_ints]
  omega
 have h2 : ∀ l : List (Dat sRule), (∀ x ∈ l, sz sRule x ≤ 130) → (l.map (sz sRule)).sum ≤ l.length * 130 := fun l => by
  induction l with
  | nil => intro _; exact Nat.le_refl _
  | cons x l ih =>
   intro hx
   have a := hx x (List.mem_cons_self ..)
   have b := ih fun y hy => hx y (List.mem_cons_of_mem _ hy)
   rw [List.map_cons, List.sum_cons, List.length_cons, Nat.add_mul]
   omega
 have h3 := h2 D h1
 have h4 := Nat.mul_le_mul_right 130 h.1
 show D.length + (D.map (sz sRule)).sum ≤ _
 have := h.1
 omega
end drawSysD
end
section
namespace drawSA
open Go.RowKit base ints sig term cursor termOk marks app appAt sym segs segsHelp dice drawSig drawTerm drawAny drawPair drawOne drawSub drawS
set_option maxRecDepth 100000
structure D0 (w : World) (p : Nat) (A : Option Addr) (n c : Nat) (S : Option Addr) (sn sc : Nat) (sg : List Int) (wr : World) : Prop where
 d : Dice wr p A n c
 rS : Row wr w.heap.size 26 #[.slice S sn sc]
 rR : Row wr (w.heap.size + 1) 51 #[.slice none 0 0]
 s : Rd wr p w.heap.size S sn sg
 g : w.grownBy wr (some p)
 hp : p < w.heap.size
structure DA (w : World) (p : Nat) (A : Option Addr) (n c : Nat) (S : Option Addr) (sn sc : Nat) (sg : List Int) (o : Nat) (B : Option Addr) (m cB : Nat) (xss : List (List Int)) (wr : World) : Prop where
 z : D0 w p A n c S sn sc sg wr
 rO : Row wr o 51 #[.slice B m cB]
 own : OwnR wr p (w.heap.size + 2) B m cB xss
 hB : blk B ≠ some o
 ho : w.heap.size + 1 < o
section
variable {w : World} {p : Nat} {A : Option Addr} {n c : Nat} {S : Option Addr} {sn sc : Nat} {sg : List Int} {o : Nat} {B : Option Addr} {m cB : Nat} {xss : List (List Int)} {wr w' : World}
theorem D0.next (t : D0 w p A n c S sn sc sg wr) (hb : Below wr.heap.size wr w') : D0 w p A n c S sn sc sg w' :=
 ⟨t.d.next hb, t.rS.next hb, t.rR.next hb, t.s.below hb t.g.size, grown_over t.g hb t.g.size, t.hp⟩
theorem D0.over {o : Nat} (t : D0 w p A n c S sn sc sg wr) (hb : Below (w.heap.size + 2) wr w') : D0 w p A n c S sn sc sg w' :=
 ⟨t.d.keep (hb.mono (by have := t.hp; omega)), t.rS.below hb (by omega), t.rR.below hb (by omega), t.s.below hb (by omega), grown_over t.g hb (by omega), t.hp⟩
theorem DA.next (t : DA w p A n c S sn sc sg o B m cB xss wr) (hb : Below wr.heap.size wr w') : DA w p A n c S sn sc sg o B m cB xss w' :=
 ⟨t.z.next hb, t.rO.next hb, t.own.below hb, t.hB, t.ho⟩
end
end drawSA
end
section
namespace drawVar
open Go.RowKit base ints sig term cursor termOk marks app sym dice drawSig drawTerm drawAny drawTwo drawPair drawOne fillMath shifted
structure V3 (w : World) (p : Nat) (A : Option Addr) (n c v : Nat) (S : Option Addr) (sn sc : Nat) (sg : List Int) (O : Option Addr) (on : Nat) (xs : List Int) (wr : World) : Prop where
 d : Dice wr p A n c
 rN : Row wr w.heap.size 26 #[.slice none 0 0]
 rV : Row wr v 26 #[.slice S sn sc]
 s : Rd wr p wr.heap.size S sn sg
 o : Rd wr p wr.heap.size O on xs
 b : Below w.heap.size w wr
 hp : w.heap.size < p
 pv : p < v
section
variable {w : World} {p : Nat} {A : Option Addr} {n c v : Nat} {S : Option Addr} {sn sc : Nat} {sg : List Int} {O : Option Addr} {on : Nat} {xs : List Int} {wr w' : World}
theorem V3.next (t : V3 w p A n c v S sn sc sg O on xs wr) (hb : Below wr.heap.size wr w') : V3 w p A n c v S sn sc sg O on xs w' :=
 ⟨t.d.next hb, t.rN.next hb, t.rV.next hb, (t.s.below hb (Nat.le_refl _)).more hb.size, (t.o.below hb (Nat.le_refl _)).more hb.size, next_trans t.b hb, t.hp, t.pv⟩
end
end drawVar
end
section
namespace drawSS
open Go.RowKit base ints sig term cursor termOk marks app appAt sym segs segsHelp dice drawSig drawTerm drawAny drawTwo drawPair drawOne drawSub drawS drawSA drawVar plain plainOf
set_option maxRecDepth 100000
theorem OwnR.segs {w : World} {p lo n c : Nat} {A : Option Addr} {xss : List (List Int)} (h : OwnR w p lo A n c xss) : Segs w w.heap.size A n xss := by
 obtain ⟨h1, vs, hr, h3⟩ := h
 refine ⟨h1, fun hn => ?_⟩
 rcases own_form hr with ⟨_, e, _⟩ | ⟨g, cur, rfl, _, hrow, _, _, _, _, hc⟩
 ·omega
 ·refine ⟨g, 0, rfl, hrow.lt, fun j hj => ?_⟩
  obtain ⟨A', n', c', e, hrd, hcap, _⟩ := h3 j hj
  refine ⟨A', n', c', ?_, hrd.seg, hcap⟩
  rw [Nat.zero_add, hrow.cell j, hc j hj, e]
structure V4 (w : World) (p : Nat) (A : Option Addr) (n c v6 v7 : Nat) (S : Option Addr) (sn sc : Nat) (sg : List Int) (B : Option Addr) (m cB : Nat) (xss : List (List Int)) (wr : World) : Prop where
 d : Dice wr p A n c
 rN : Row wr w.heap.size 26 #[.slice none 0 0]
 rP : Row wr (w.heap.size + 1) 51 #[.slice none 0 0]
 r6 : Row wr v6 26 #[.slice S sn sc]
 r7 : Row wr v7 51 #[.slice B m cB]
 s : Rd wr p wr.heap.size S sn sg
 own : OwnR wr p (p + 1) B m cB xss
 b : Below w.heap.size w wr
 hp : w.heap.size + 1 < p
 p6 : p < v6
 p7 : p < v7
section
variable {w : World} {p : Nat} {A : Option Addr} {n c v6 v7 : Nat} {S : Option Addr} {sn sc : Nat} {sg : List Int} {B : Option Addr} {m cB : Nat} {xss : List (List Int)} {wr w' : World}
theorem V4.next (t : V4 w p A n c v6 v7 S sn sc sg B m cB xss wr) (hb : Below wr.heap.size wr w') : V4 w p A n c v6 v7 S sn sc sg B m cB xss w' :=
 ⟨t.d.next hb, t.rN.next hb, t.rP.next hb, t.r6.next hb, t.r7.next hb, (t.s.below hb (Nat.le_refl _)).more hb.size, t.own.below hb, next_trans t.b hb, t.hp, t.p6, t.p7⟩
end
end drawSS
end
section
namespace ruleSpec
open Go.RowKit base ints sig term termOk marks app sym segs termFacts varsMath varsOf rename same count linear shape kindsR ruleMath
set_option maxRecDepth 100000
end ruleSpec
end
section
namespace inside
open Go.RowKit base ints sig term arity endOf cursor termOk endAt
set_option maxRecDepth 100000
def Tells (w : World) (b : Bool) (e : Ending) (w' : World) : Prop := e = .returned (.bool b) ∧ Below w.heap.size w w'
structure Fr (w wr : World) (A : Option Addr) (n c : Nat) (sg : List Int) (A' : Option Addr) (m : Nat) (t : List Int) : Prop where
 r : Row wr w.heap.size 26 #[.slice A n c]
 s : Seg wr w.heap.size A n sg
 s' : Seg wr w.heap.size A' m t
 b : Below w.heap.size w wr
section
variable {w wr w' : World} {A : Option Addr} {n c : Nat} {sg : List Int} {A' : Option Addr} {m : Nat} {t : List Int}
theorem Fr.start (h : Seg w w.heap.size A n sg) (h' : Seg w w.heap.size A' m t) : Fr w (w.alloc (.cells #[.slice A n c] 26)) A n c sg A' m t :=
 have b : Below w.heap.size w (w.alloc (.cells #[.slice A n c] 26)) := (Below.refl _ _).alloc (Nat.le_refl _) _
 ⟨Row.new _ _ _, h.below b, h'.below b, b⟩
theorem Fr.next (f : Fr w wr A n c sg A' m t) (hb : Below wr.heap.size wr w') : Fr w w' A n c sg A' m t :=
 have b : Below w.heap.size wr w' := hb.mono (Nat.le_of_lt f.r.lt)
 ⟨f.r.next hb, f.s.below b, f.s'.below b, f.b.trans b⟩
theorem Fr.over (f : Fr w wr A n c sg A' m t) (hb : Below (w.heap.size + 1) wr w') : Fr w w' A n c sg A' m t :=
 have b : Below w.heap.size wr w' := hb.mono (Nat.le_succ _)
 ⟨f.r.below hb (Nat.lt_succ_self _), f.s.below b, f.s'.below b, f.b.trans b⟩
theorem Fr.alloc (f : Fr w wr A n c sg A' m t) (o : Obj) : Fr w (wr.alloc o) A n c sg A' m t := f.next ((Below.refl _ _).alloc (Nat.le_refl _) _)
theorem Fr.cell (f : Fr w wr A n c sg A' m t) : wr.cell? ⟨w.heap.size, 0, none⟩ = some (.slice A n c) := f.r.cell 0
theorem Fr.s1 (f : Fr w wr A n c sg A' m t) : Seg wr wr.heap.size A n sg := f.s.more (Nat.le_of_lt f.r.lt)
theorem Fr.t1 (f : Fr w wr A n c sg A' m t) : Seg wr wr.heap.size A' m t := f.s'.more (Nat.le_of_lt f.r.lt)
theorem Fr.size (f : Fr w wr A n c sg A' m t) : w.heap.size < wr.heap.size := f.r.lt
end
set_option maxHeartbeats 1000000 in
theorem placeIn (A A' : Option Addr) (n c m c' : Nat) (sg t : List Int) (x : Int) (w : World) (h : Seg w w.heap.size A n sg) (h' : Seg w w.heap.size A' m t) (hn : n ≤ 1048576) (hm : m ≤ 1048576) :
  Calls Tryz.prog 156 #[.agg #[.slice A n c], .slice A' m c', .int .i64 x] w (Tells w (thereB sg t x)) := by
 obtain ⟨W, hW⟩ : ∃ W, W = w.alloc (.cells #[.slice A n c] 26) := ⟨_, rfl⟩
 have f : Fr w W A n c sg A' m t := by rw [hW]; exact Fr.start h h'
 have HW := Lib.hid hW
 have L := Lib.hid (cursorAt A A' n c m c' sg t x W f.s1 f.t1 hn hm)
 clear hW h h'
 go_enter Tryz.func156, Tryz.ntmps156
 go_wp2_with fail
 rw [← HW.out]
 refine L.out.mono ?_
 rintro e w1 ⟨bb, ⟨ht, p, rfl, hp, hc⟩ | ⟨ht, rfl⟩⟩
 ·have F := Lib.hid (show Tells w (thereB sg t x) (.returned (.bool true)) w1 from ⟨by rw [ht], (f.next bb).b⟩)
  clear f L bb hc hp
  go_wp2
  go_ret
  exact F.out
 ·have F := Lib.hid (show Tells w (thereB sg t x) (.returned (.bool false)) w1 from ⟨by rw [ht], (f.next bb).b⟩)
  clear f L bb
  go_wp2
  go_ret
  exact F.out
end inside
end
section
open Go.Lib (hid)
namespace concat
open Go.RowKit base ints marks app sym segs segsHelp
set_option maxRecDepth 100000
set_option maxHeartbeats 1000000 in
theorem growNil (s : Nat) (w : World) (hs : s ≤ 2097152) :
  Calls Tryz.prog 147 #[.slice none 0 0, .int .i64 (s : Int)] w (AnsList w []) := by
 by_cases h0 : s = 0
 ·subst h0
  go_enter Tryz.func147, Tryz.ntmps147
  go_wp2
  go_ret
  exact ⟨none, 0, 0, rfl, Own.nil _ _, Below.refl _ _⟩
 ·obtain ⟨i0, hi, hz0, hz1, hz2⟩ := info_parts info_i64
  obtain ⟨G, hG⟩ : ∃ G, G = grownCap w s 0 2 := ⟨_, rfl⟩
  have hge : s ≤ G := by rw [hG]; exact grownCap_ge w _ _ _
  have hcm : G ≤ maxLen := by rw [hG]; exact grownCap_le_maxLen w _ _ _ (by unfold maxLen; omega)
  obtain ⟨cs, hcs⟩ : ∃ cs, cs = Builtin.zeroCells (Value.int .i64 0).cells s ++ Builtin.zeroCells (Value.int .i64 0).cells (G - s) := ⟨_, rfl⟩
  have hsz : cs.size = G := by
   rw [hcs]
   have e : (Value.int .i64 0).cells.size = 1 := rfl
   simp only [Array.size_append, size_zeroCells, e]
   omega
  have hr : ∀ ty, (Builtin.append_ #[24, 3] ty #[.slice none 0 0, .int .i64 (s : Int)]).run Tryz.prog w = .ok (.slice (some ⟨w.heap.size, 0, none⟩) s G) (w.drew.alloc (.cells cs 2)) := fun ty => by
   rw [hG, hcs, hG]
   exact Lib.run_append_nil_zeros w 24 3 ty 2 i0 (.int .i64 0) .i64 .i64 Tryz.underlying24 Tryz.underlying3 hi hz0 s (by omega) (by rw [hz1]; omega) (by omega) (by rw [hz2]; omega)
  have hrow : Row (w.drew.alloc (.cells cs 2)) w.heap.size 2 cs := Row.new w.drew _ _
  have F : AnsList w [] (.returned (.slice (some ⟨w.heap.size, 0, none⟩) 0 G)) (w.drew.alloc (.cells cs 2)) :=
   ⟨_, _, _, rfl, Own.of_row hrow rfl hsz (Nat.zero_le _) (by unfold maxLen at hcm; omega) (Nat.le_refl _) (fun j hj => absurd hj (Nat.not_lt_zero _)), ((Below.refl _ _).drew).alloc (Nat.le_refl _) _⟩
  have HF := hid F
  have hG63 : G ≤ 9223372036854775807 := by unfold maxLen at hcm; omega
  clear F hrow hsz hcs hG hcm
  have h1 : (0 : Int) < (s : Int) := by omega
  go_enter Tryz.func147, Tryz.ntmps147
  go_wp2_with (at_builtin; refine Lib.wpList_append_run _ rfl _ _ _ _ rfl _ _ rfl rfl _ _ (hr _) ?_)
  go_wp2
  go_ret
  exact HF.out
def catL (xss : List (List Int)) (k : Nat) : List Int := (xss.take k).flatten
theorem cat_len {xss : List (List Int)} {k : Nat} : (catL xss k).length = sumL xss k := by unfold catL sumL; rw [List.length_flatten]
theorem cat_succ {xss : List (List Int)} {k : Nat} (h : k < xss.length) : catL xss (k + 1) = catL xss k ++ xss.getD k [] := by
 unfold catL
 rw [List.take_succ_eq_append_getElem h, List.flatten_append]
 simp [List.getD, h]
set_option maxHeartbeats 1000000 in
theorem concat (S : Option Addr) (k c : Nat) (xss : List (List Int)) (w : World) (h : Segs w w.heap.size S k xss) (ht : tot xss ≤ 1048576) :
  Calls Tryz.prog 112 #[.slice S k c] w (AnsList w xss.flatten) := by
 have HL := hid h.1
 have hk : k ≤ 1048576 := tot_len h.1 ht
 have hs1 : Hid (∀ j, j ≤ k → sumL xss j ≤ 1048576) := hid (fun j hj => by have := sumL_mono (xss := xss) (k := j) (m := xss.length) (by rw [h.1]; exact hj) (Nat.le_refl _); unfold tot at ht; omega)
 have HS : Hid (∀ j, j < k → sumL xss (j + 1) = sumL xss j + (xss.getD j []).length) := hid (fun j hj => sumL_succ (by rw [h.1]; exact hj))
 have HC : Hid (∀ j, j < k → catL xss (j + 1) = catL xss j ++ xss.getD j []) := hid (fun j hj => cat_succ (by rw [h.1]; exact hj))
 have HF := hid (show catL xss k = xss.flatten by unfold catL; rw [List.take_of_length_le (by rw [h.1]; exact Nat.le_refl _)])
 have HCL := hid (fun j => cat_len (xss := xss) (k := j))
 have HH := hid h
 have S0 := hid (show sumL xss 0 = 0 by simp [sumL])
 have C0 := hid (show catL xss 0 = [] by simp [catL])
 clear h ht
 go_enter Tryz.func112, Tryz.ntmps112
 go_wp2
 go_loopg [3, 11] k (fun g s i wr => w = wr ∧ ∃ j : Nat, i = .int .i64 j ∧ j + g = k ∧ s = .int .i64 (sumL xss j : Nat))
 case atStart => exact ⟨rfl, 0, rfl, by omega, by rw [S0.out]; rfl⟩
 case round =>
  obtain ⟨rfl, j, rfl, hj, rfl⟩ := hrel
  have HJ := hid hj
  clear hj
  by_cases hjk : j < k
  ·obtain ⟨b, off, A', n', c', rfl, hb, hc, hsg, hcap⟩ := HH.out.spot hjk
   have hl := hsg.1
   have hb1 := hs1.out j (by omega)
   have hb2 := hs1.out (j + 1) (by omega)
   have hsu := HS.out j hjk
   obtain ⟨s, hs⟩ : ∃ s, sumL xss j = s := ⟨_, rfl⟩
   have HSS := hid (show sumL xss (j + 1) = s + n' by rw [hsu, hs, hl])
   have hb3 : s + n' ≤ 1048576 := by rw [← HSS.out]; exact hb2
   rw [hs]
   clear hsg hcap hl hb1 hb2 hsu hs
   go_wp2
   go_roundg (gk - 1)
   case measure => have := HJ.out; omega
   case rel => exact ⟨rfl, j + 1, by simp, by have := HJ.out; omega, by rw [HSS.out]; simp⟩
  ·have hjk2 : j = k := by have := HJ.out; omega
   obtain ⟨s, hs⟩ : ∃ s, sumL xss j = s := ⟨_, rfl⟩
   have hs2 : s ≤ 2097152 := by rw [← hs]; have := hs1.out j (by omega); omega
   rw [hs]
   have LG := hid (growNil s w hs2)
   clear hs hs2 hjk2
   go_wp2_with fail
   refine LG.out.mono ?_
   rintro e w1 ⟨O, on, oc, rfl, o1, b1⟩
   have on0 : on = 0 := Own.len o1
   subst on0
   have P0 : Own w1 w.heap.size (.slice O 0 oc) (catL xss 0) := by rw [C0.out]; exact o1
   have HP := hid (And.intro P0 b1)
   clear P0 o1 b1 LG
   go_wp2
   go_loopg [6, 27] k (fun g s i wr => ∃ (j : Nat) (O : Option Addr) (on oc : Nat), i = .int .i64 j ∧ j + g = k ∧ s = .slice O on oc ∧ Own wr w.heap.size (.slice O on oc) (catL xss j) ∧ Below w.heap.size w wr)
   case atStart => exact ⟨0, O, 0, oc, rfl, by omega, rfl, HP.out.1, HP.out.2⟩
   case round =>
    obtain ⟨j, O, on, oc, rfl, hj, rfl, ho, hb⟩ := hrel
    clear HP
    have HJ := hid hj
    clear hj
    by_cases hjk : j < k
    ·have hsegs := (HH.out.below hb)
     obtain ⟨b, off, A', n', c', rfl, hbb, hc, hsg, hcap⟩ := hsegs.spot hjk
     have hon : on ≤ 1048576 := by rw [Own.len ho, HCL.out j]; exact hs1.out j (by omega)
     have hn' : n' ≤ 1048576 := by have h1 := hsg.1; have h2 := hs1.out (j + 1) (by omega); rw [HS.out j hjk, h1] at h2; omega
     have HCAP := hid hcap.2.2
     have hsz := hb.size
     clear hsegs hcap
     go_wp2_with (at_builtin; refine appAll rfl _ _ rfl w.heap.size O on oc (catL xss j) rfl ho A' n' c' w.heap.size (xss.getD j []) rfl hsg HCAP.out (by omega) (by omega) hsz ?_; intro O' oc' w3 ho3 b3)
     have S := hid (show Own w3 w.heap.size (.slice O' (on + n') oc') (catL xss (j + 1)) ∧ Below w.heap.size w w3 from ⟨by rw [HC.out j hjk]; exact ho3, hb.trans b3⟩)
     clear ho ho3 hb b3 hsg hc
     go_wp2
     go_roundg (gk - 1)
     case measure => have := HJ.out; omega
     case rel => exact ⟨j + 1, O', on + n', oc', by simp, by have := HJ.out; omega, rfl, S.out⟩
    ·have hjk2 : j = k := by have := HJ.out; omega
     have F : AnsList w xss.flatten (.returned (.slice O on oc)) wr := ⟨O, on, oc, rfl, by rw [← HF.out, ← hjk2]; exact ho, hb⟩
     have HFF := hid F
     clear F ho hb hjk2
     go_wp2
     go_ret
     exact HFF.out
end concat
end
section
namespace args
open Go.RowKit base ints sig term arity endOf cursor termOk endAt marks app sym
def Coll (sg t : List Int) (m : Nat) (L ys : List Int) (q p : Nat) : Prop := ys ++ places sg t q p = L ∧ ∃ i, scan sg q (t.drop p) = some i ∧ p + i ≤ m
theorem Coll.first {sg t : List Int} {m : Nat} {L ys : List Int} {q p : Nat} (h : Coll sg t m L ys (q + 1) p) : ∃ j, scan sg 1 (t.drop p) = some j ∧ p + j ≤ m ∧ p < t.length ∧ Coll sg t m L (ys ++ [(p : Int)]) q (p + j) := by
 obtain ⟨h1, i, h2, h3⟩ := h
 obtain ⟨j, e1, e2, e3, e4⟩ := scan_first h2
 have e5 := scan_le h2
 refine ⟨j, e1, by omega, ?_, ?_, i - j, e4, by omega⟩
 ·simp only [List.length_drop] at e5; omega
 ·rw [← h1, List.append_assoc]
  congr 1
  simp only [places, len1_eq e1, List.singleton_append]
theorem Coll.done {sg t : List Int} {m : Nat} {L ys : List Int} {p : Nat} (h : Coll sg t m L ys 0 p) : ys = L := by
 have := h.1
 simpa [places] using this
theorem Coll.len {sg t : List Int} {m : Nat} {L ys : List Int} {q p : Nat} (h : Coll sg t m L ys q p) : ys.length ≤ L.length := by
 rw [← h.1]; simp
theorem Cur.keep {w w' : World} {p : Nat} {A : Option Addr} {n c : Nat} {A' : Option Addr} {m c' : Nat} {sg t : List Int} {k : Nat} (h : Cur w p A n c A' m c' sg t k) (hb : Below (p + 1) w w') : Cur w' p A n c A' m c' sg t k :=
 ⟨h.row.below hb (Nat.lt_succ_self _), h.s.below (hb.mono (Nat.le_succ _)), h.s'.below (hb.mono (Nat.le_succ _)), h.le, h.hn, h.hm, h.ars⟩
end args
end
section
namespace depth
open Go.RowKit base ints sig term arity endOf cursor termOk endAt marks app sym args
def Deep (sg t : List Int) (f : Nat) (M d : Int) (q p : Nat) : Prop := max d (maxOver sg t (dep sg t f) q p) = M ∧ 0 ≤ d ∧ d ≤ f ∧ ∃ i, scan sg q (t.drop p) = some i ∧ i ≤ f ∧ p + i ≤ t.length
theorem Deep.first {sg t : List Int} {f : Nat} {M d : Int} {q p : Nat} (h : Deep sg t f M d (q + 1) p) : ∃ j, scan sg 1 (t.drop p) = some j ∧ j ≤ f ∧ p < t.length ∧ p + j ≤ t.length ∧ Deep sg t f M (max d (dep sg t f p)) q (p + j) := by
 obtain ⟨h1, h2, h3, i, h4, h5, h6⟩ := h
 obtain ⟨j, e1, e2, e3, e4⟩ := scan_first h4
 have hb := dep_bd (sg := sg) (t := t) f p
 refine ⟨j, e1, by omega, by omega, by omega, ?_, by omega, by omega, i - j, e4, by omega, by omega⟩
 simp only [maxOver, len1_eq e1] at h1
 omega
theorem Deep.done {sg t : List Int} {f : Nat} {M d : Int} {p : Nat} (h : Deep sg t f M d 0 p) : d = M := by
 have h1 := h.1
 have h2 := h.2.1
 simp only [maxOver] at h1
 omega
def depthI (sg t : List Int) : Int := if termOkB sg t = true then dep sg t t.length 0 else 0
end depth
end
section
namespace termMath
open term termOk endAt sub args depth sig
theorem scan_append {sg : List Int} : ∀ {l r : List Int} {q j : Nat}, scan sg q l = some j → scan sg q (l ++ r) = some j := by
 intro l
 induction l with
 | nil =>
  intro r q j h
  cases q with
  | zero => rw [scan_zero] at h ⊢; exact h
  | succ q => rw [scan_nil] at h; cases h
 | cons x l ih =>
  intro r q j h
  cases q with
  | zero => rw [scan_zero] at h ⊢; exact h
  | succ q =>
   by_cases ha : ar sg x < 0
   ·rw [scan_bad ha] at h; cases h
   ·rw [scan_step ha] at h
    rw [List.cons_append, scan_step ha]
    obtain ⟨j', hj', rfl⟩ := Option.map_eq_some_iff.1 h
    rw [ih hj']
    rfl
theorem scan_take {sg : List Int} : ∀ {l : List Int} {q j : Nat}, scan sg q l = some j → scan sg q (l.take j) = some j := by
 intro l
 induction l with
 | nil => intro q j h; simpa using h
 | cons x l ih =>
  intro q j h
  cases q with
  | zero => rw [scan_zero] at h ⊢; exact h
  | succ q =>
   by_cases ha : ar sg x < 0
   ·rw [scan_bad ha] at h; cases h
   ·rw [scan_step ha] at h
    obtain ⟨j', hj', rfl⟩ := Option.map_eq_some_iff.1 h
    rw [List.take_succ_cons, scan_step ha, ih hj']
    rfl
theorem scan_same {sg l l' : List Int} {q j : Nat} (h : scan sg q l = some j) (e : l.take j = l'.take j) : scan sg q l' = some j := by
 have h1 := scan_take h
 rw [e] at h1
 have h2 := scan_append (r := l'.drop j) h1
 rwa [List.take_append_drop] at h2
theorem take_less {l l' : List Int} {i j : Nat} (e : l.take i = l'.take i) (h : j ≤ i) : l.take j = l'.take j := by
 have : (l.take i).take j = (l'.take i).take j := by rw [e]
 rwa [List.take_take, List.take_take, Nat.min_eq_left h] at this
theorem drop_same {l l' : List Int} {i j : Nat} (e : l.take i = l'.take i) : (l.drop j).take (i - j) = (l'.drop j).take (i - j) := by
 rw [← List.drop_take, ← List.drop_take, e]
theorem get_same {t t' : List Int} {a a' i : Nat} (e : (t.drop a).take i = (t'.drop a').take i) (h : 1 ≤ i) : t.getD a 0 = t'.getD a' 0 := by
 have : ((t.drop a).take i)[0]? = ((t'.drop a').take i)[0]? := by rw [e]
 rw [List.getElem?_take, List.getElem?_take, if_pos (by omega), if_pos (by omega), List.getElem?_drop, List.getElem?_drop] at this
 simpa [List.getD] using congrArg (fun o => o.getD 0) this
theorem max_same {sg t t' : List Int} {f f' : Nat} (hd : ∀ a a' j, (t.drop a).take j = (t'.drop a').take j → scan sg 1 (t.drop a) = some j → j ≤ f → j ≤ f' → dep sg t f a = dep sg t' f' a') :
  ∀ q p p' i, (t.drop p).take i = (t'.drop p').take i → scan sg q (t.drop p) = some i → i ≤ f → i ≤ f' → maxOver sg t (dep sg t f) q p = maxOver sg t' (dep sg t' f') q p'
 | 0, _, _, _, _, _, _, _ => rfl
 | q + 1, p, p', i, e, h, h1, h2 => by
  obtain ⟨j, e1, e2, e3, e4⟩ := scan_first h
  have e5 := scan_same e1 (take_less e e3)
  have hdr : (t.drop (p + j)).take (i - j) = (t'.drop (p' + j)).take (i - j) := by
   have := drop_same (j := j) e
   rwa [List.drop_drop, List.drop_drop] at this
  simp only [maxOver, len1_eq e1, len1_eq e5]
  rw [hd p p' j (take_less e e3) e1 (by omega) (by omega), max_same hd q (p + j) (p' + j) (i - j) hdr e4 (by omega) (by omega)]
theorem dep_same {sg : List Int} : ∀ (f f' : Nat) (t t' : List Int) (a a' j : Nat), (t.drop a).take j = (t'.drop a').take j → scan sg 1 (t.drop a) = some j → j ≤ f → j ≤ f' → dep sg t f a = dep sg t' f' a'
 | 0, _, _, _, _, _, _, _, h, h1, _ => by have := scan_pos (q := 0) h; omega
 | _ + 1, 0, _, _, _, _, _, _, h, _, h2 => by have := scan_pos (q := 0) h; omega
 | f + 1, f' + 1, t, t', a, a', j, e, h, h1, h2 => by
  have hj := scan_pos (q := 0) h
  have hg := get_same e hj
  obtain ⟨i, e1, _, _, e2⟩ := scan_args h
  have hdr : (t.drop (a + 1)).take i = (t'.drop (a' + 1)).take i := by
   have := drop_same (j := 1) e
   rw [List.drop_drop, List.drop_drop] at this
   have e3 : j - 1 = i := by omega
   rwa [e3] at this
  simp only [dep]
  rw [← hg, max_same (fun a a' j e h h1 h2 => dep_same f f' t t' a a' j e h h1 h2) _ (a + 1) (a' + 1) i hdr e2 (by omega) (by omega)]
theorem sub_term {sg t : List Int} {a : Nat} (hok : termOkB sg t = true) (ha : a < t.length) : termOkB sg (subL sg t a) = true ∧ depthI sg (subL sg t a) = dep sg t (t.length + 1) a ∧ endI sg t a = (a : Int) + ((subL sg t a).length : Int) ∧ 1 ≤ (subL sg t a).length := by
 have hp := termOk_parts hok
 obtain ⟨j, hj, hj1, hj2⟩ := scan_at hp.2.2 ha
 have hl : len1 sg t a = j := len1_eq hj
 have hs : subL sg t a = (t.drop a).take j := by unfold subL; rw [hl]
 have hlen : (subL sg t a).length = j := by rw [hs]; simp; omega
 have hsc : scan sg 1 (subL sg t a) = some (subL sg t a).length := by rw [hlen, hs]; exact scan_take hj
 have hok2 : termOkB sg (subL sg t a) = true := by
  unfold termOkB termB
  rw [hp.1, hsc]
  simp
  omega
 refine ⟨hok2, ?_, by rw [endI_some hj, hlen], by omega⟩
 unfold depthI
 rw [if_pos hok2, hlen]
 refine (dep_same _ _ _ _ _ _ j ?_ ?_ (Nat.le_refl _) (by omega))
 ·rw [List.drop_zero, hs, List.take_take, Nat.min_self]
 ·rw [List.drop_zero, hsc, hlen]
def Loop (sg t : List Int) (a : Nat) (M : Int) (zs args : List Int) (d : Int) (k q pp : Nat) : Prop :=
 args.drop k = places sg t q pp ∧ max d (maxOver sg t (dep sg t t.length) q pp) = M ∧ 0 ≤ d ∧ d ≤ t.length ∧ ∃ i, scan sg q (t.drop pp) = some i ∧ pp + i ≤ t.length ∧ zs ++ (t.drop pp).take i = subL sg t a
theorem Loop.done {sg t : List Int} {a : Nat} {M : Int} {zs args : List Int} {d : Int} {k pp : Nat} (h : Loop sg t a M zs args d k 0 pp) : zs = subL sg t a ∧ d = M := by
 obtain ⟨_, h2, h3, _, i, h5, _, h7⟩ := h
 rw [scan_zero] at h5
 injection h5 with h5
 subst h5
 simp only [maxOver] at h2
 exact ⟨by simpa using h7, by omega⟩
end termMath
end
section
namespace posMath
open sig term termOk termFacts endAt sub args depth termMath
theorem scan_cat {sg : List Int} : ∀ {l l' : List Int} {q q' j : Nat}, scan sg q l = some l.length → scan sg q' l' = some j → scan sg (q + q') (l ++ l') = some (l.length + j)
 | [], l', q, q', j, h, h' => by
  cases q with
  | zero => simpa using h'
  | succ q => rw [scan_nil] at h; cases h
 | x :: r, l', q, q', j, h, h' => by
  cases q with
  | zero => rw [scan_zero] at h; simp at h
  | succ q =>
   by_cases ha : ar sg x < 0
   ·rw [scan_bad ha] at h; cases h
   ·rw [scan_step ha] at h
    obtain ⟨i, hi, e⟩ := Option.map_eq_some_iff.1 h
    have e2 : i = r.length := by simp at e; omega
    subst e2
    have h2 := scan_cat hi h'
    rw [show q + 1 + q' = (q + q') + 1 by omega, List.cons_append, scan_step ha, show q + q' + (ar sg x).toNat = q + (ar sg x).toNat + q' by omega, h2]
    simp
    omega
theorem term_at {sg t : List Int} (h : termOkB sg t = true) {a : Nat} (ha : a < t.length) : scan sg 1 (t.drop a) = some (len1 sg t a) ∧ 1 ≤ len1 sg t a ∧ a + len1 sg t a ≤ t.length := by
 obtain ⟨j, e, h1, h2⟩ := scan_at (term_parts h).2.2 ha
 rw [len1_eq e]
 exact ⟨e, h1, h2⟩
theorem end_at {sg t : List Int} (h : termOkB sg t = true) {a : Nat} (ha : a < t.length) : endI sg t a = ((a + len1 sg t a : Nat) : Int) := by
 rw [endI_some (term_at h ha).1]; omega
def argP (sg t : List Int) : Nat → Nat → Nat
 | 0, p => p
 | k + 1, p => argP sg t k (p + len1 sg t p)
theorem argP_succ {sg t : List Int} : ∀ k p, argP sg t (k + 1) p = argP sg t k p + len1 sg t (argP sg t k p)
 | 0, _ => rfl
 | k + 1, p => by
  show argP sg t (k + 1) (p + len1 sg t p) = _
  rw [argP_succ k]
  rfl
theorem argP_mono {sg t : List Int} {p k : Nat} : ∀ {k' : Nat}, k ≤ k' → argP sg t k p ≤ argP sg t k' p := by
 intro k' h
 induction k' with
 | zero => rw [Nat.le_zero.1 h]; exact Nat.le_refl _
 | succ k' ih =>
  by_cases e : k = k' + 1
  ·rw [e]; exact Nat.le_refl _
  ·have := ih (by omega)
   rw [argP_succ]
   omega
theorem places_get {sg t : List Int} : ∀ {q p k : Nat}, k < q → (places sg t q p).getD k 0 = (argP sg t k p : Int) := by
 intro q
 induction q with
 | zero => intro p k h; omega
 | succ q ih =>
  intro p k h
  cases k with
  | zero => rfl
  | succ k =>
   show ((p : Int) :: places sg t q (p + len1 sg t p)).getD (k + 1) 0 = _
   rw [List.getD_cons_succ, ih (by omega)]
   rfl
def arN (sg t : List Int) (p : Nat) : Nat := (ar sg (t.getD p 0)).toNat
inductive Trail (sg t : List Int) (at_ : Nat) : Nat → List Int → List Int → Prop
 | here : Trail sg t at_ at_ [] []
 | down {p k : Nat} {ab pa : List Int} (h1 : p < at_) (h2 : k < arN sg t p) (h3 : argP sg t k (p + 1) ≤ at_) (h4 : at_ < argP sg t k (p + 1) + len1 sg t (argP sg t k (p + 1))) (h5 : p < argP sg t k (p + 1)) (h6 : at_ < p + len1 sg t p) (hw : Trail sg t at_ (argP sg t k (p + 1)) ab pa) : Trail sg t at_ p ((p : Int) :: ab) ((k : Int) :: pa)
theorem Trail.here_eq {sg t : List Int} {at_ : Nat} {ab pa : List Int} (h : Trail sg t at_ at_ ab pa) : ab = [] ∧ pa = [] := by
 cases h with
 | here => exact ⟨rfl, rfl⟩
 | down h1 => omega
theorem arg_one {sg t : List Int} {p at_ k k' : Nat} (h3 : argP sg t k p ≤ at_) (h4 : at_ < argP sg t k p + len1 sg t (argP sg t k p)) (h3' : argP sg t k' p ≤ at_) (h4' : at_ < argP sg t k' p + len1 sg t (argP sg t k' p)) : k = k' := by
 rcases Nat.lt_trichotomy k k' with h | h | h
 ·have := argP_mono (sg := sg) (t := t) (p := p) (show k + 1 ≤ k' by omega)
  rw [argP_succ] at this
  omega
 ·exact h
 ·have := argP_mono (sg := sg) (t := t) (p := p) (show k' + 1 ≤ k by omega)
  rw [argP_succ] at this
  omega
theorem Trail.one {sg t : List Int} {at_ p : Nat} {ab pa : List Int} (h : Trail sg t at_ p ab pa) : ∀ {ab' pa' : List Int}, Trail sg t at_ p ab' pa' → ab = ab' ∧ pa = pa' := by
 induction h with
 | here => intro ab' pa' h'; obtain ⟨rfl, rfl⟩ := h'.here_eq; exact ⟨rfl, rfl⟩
 | @down p k ab pa h1 h2 h3 h4 h5 h6 hw ih =>
  intro ab' pa' h'
  cases h' with
  | here => omega
  | @down _ k' ab' pa' g1 g2 g3 g4 g5 g6 gw =>
   obtain rfl := arg_one h3 h4 g3 g4
   obtain ⟨rfl, rfl⟩ := ih gw
   exact ⟨rfl, rfl⟩
theorem Trail.len {sg t : List Int} {at_ p : Nat} {ab pa : List Int} (h : Trail sg t at_ p ab pa) : ab.length = pa.length := by
 induction h with
 | here => rfl
 | down _ _ _ _ _ _ _ ih => simp [ih]
theorem Trail.le {sg t : List Int} {at_ p : Nat} {ab pa : List Int} (h : Trail sg t at_ p ab pa) : p ≤ at_ ∧ pa.length ≤ at_ - p := by
 induction h with
 | here => simp
 | down h1 _ _ _ h5 _ _ ih => simp only [List.length_cons]; omega
def walkI (sg t : List Int) : Nat → List Int → Int
 | p, [] => (p : Int)
 | p, s :: r => if 0 ≤ s ∧ s < ar sg (t.getD p 0) then walkI sg t (argP sg t s.toNat (p + 1)) r else -1
theorem walk_step {sg t : List Int} {p k : Nat} {r : List Int} (h : k < arN sg t p) : walkI sg t p ((k : Int) :: r) = walkI sg t (argP sg t k (p + 1)) r := by
 unfold arN at h
 simp only [walkI]
 rw [if_pos (by omega), Int.toNat_natCast]
theorem Trail.walk {sg t : List Int} {at_ p : Nat} {ab pa : List Int} (h : Trail sg t at_ p ab pa) : walkI sg t p pa = (at_ : Int) := by
 induction h with
 | here => rfl
 | down _ h2 _ _ _ _ _ ih => rw [walk_step h2, ih]
theorem over_ge {sg t : List Int} {g : Nat → Int} : ∀ {q k p : Nat}, k < q → g (argP sg t k p) ≤ maxOver sg t g q p := by
 intro q
 induction q with
 | zero => intro k p h; omega
 | succ q ih =>
  intro k p h
  cases k with
  | zero => simp only [maxOver, argP]; omega
  | succ k =>
   have := ih (k := k) (p := p + len1 sg t p) (by omega)
   simp only [maxOver, argP]
   omega
theorem over_nonneg {sg t : List Int} {g : Nat → Int} : ∀ (q p : Nat), 0 ≤ maxOver sg t g q p
 | 0, _ => by simp [maxOver]
 | q + 1, p => by
  have := over_nonneg (sg := sg) (t := t) (g := g) q (p + len1 sg t p)
  simp only [maxOver]
  omega
theorem Trail.depth {sg t : List Int} {at_ p : Nat} {ab pa : List Int} (h : Trail sg t at_ p ab pa) : ∀ f, pa.length < f → (pa.length : Int) + 1 ≤ dep sg t f p := by
 induction h with
 | here =>
  intro f hf
  obtain ⟨f, rfl⟩ : ∃ f', f = f' + 1 := ⟨f - 1, by simp at hf; omega⟩
  have := over_nonneg (sg := sg) (t := t) (g := dep sg t f) (ar sg (t.getD at_ 0)).toNat (at_ + 1)
  simp only [dep, List.length_nil]
  omega
 | @down p k ab pa h1 h2 h3 h4 h5 h6 hw ih =>
  intro f hf
  simp only [List.length_cons] at hf ⊢
  obtain ⟨f, rfl⟩ : ∃ f', f = f' + 1 := ⟨f - 1, by omega⟩
  have e := ih f (by omega)
  have e2 := over_ge (sg := sg) (t := t) (g := dep sg t f) (p := p + 1) h2
  unfold arN at e2
  simp only [dep]
  omega
end posMath
end
section
namespace putMath
open sig term termOk termFacts endAt sub args depth termMath posMath
def putL (t : List Int) (a i : Nat) (u : List Int) : List Int := t.take a ++ (u ++ t.drop (a + i))
theorem scan_put {sg u : List Int} (hu : scan sg 1 u = some u.length) : ∀ {a q j i : Nat} {l : List Int}, scan sg q l = some j → a < j → scan sg 1 (l.drop a) = some i → i ≤ j - a ∧ scan sg q (putL l a i u) = some (j - i + u.length) := by
 intro a
 induction a with
 | zero =>
  intro q j i l h ha hi
  cases q with
  | zero => rw [scan_zero] at h; injection h; omega
  | succ q =>
   obtain ⟨i', _, s1, s2⟩ := scan_split (p := 1) (q := q) (by rw [Nat.add_comm]; exact h)
   rw [List.drop_zero] at hi
   rw [hi] at s1
   injection s1 with s1
   subst s1
   have hx := scan_cat hu s2
   refine ⟨by omega, ?_⟩
   unfold putL
   rw [List.take_zero, List.nil_append, Nat.zero_add, Nat.add_comm q 1, hx]
   congr 1
   omega
 | succ a ih =>
  intro q j i l h ha hi
  cases q with
  | zero => rw [scan_zero] at h; injection h; omega
  | succ q =>
   cases l with
   | nil => rw [scan_nil] at h; cases h
   | cons x l =>
    by_cases hx : ar sg x < 0
    ·rw [scan_bad hx] at h; cases h
    ·rw [scan_step hx] at h
     obtain ⟨j', hj', rfl⟩ := Option.map_eq_some_iff.1 h
     rw [List.drop_succ_cons] at hi
     obtain ⟨e1, e2⟩ := ih hj' (by omega) hi
     refine ⟨by omega, ?_⟩
     have e3 : putL (x :: l) (a + 1) i u = x :: putL l a i u := by
      unfold putL
      rw [List.take_succ_cons, show a + 1 + i = (a + i) + 1 by omega, List.drop_succ_cons]
      rfl
     rw [e3, scan_step hx, e2]
     simp only [Option.map_some]
     congr 1
     omega
section
variable {sg t u : List Int} {a : Nat}
theorem put_len (hok : termOkB sg t = true) (ha : a < t.length) : (putL t a (len1 sg t a) u).length = t.length - len1 sg t a + u.length := by
 have := term_at hok ha
 unfold putL
 simp only [List.length_append, List.length_take, List.length_drop]
 omega
theorem put_term (hok : termOkB sg t = true) (hu : termOkB sg u = true) (ha : a < t.length) (h60 : (putL t a (len1 sg t a) u).length ≤ 60) : termOkB sg (putL t a (len1 sg t a) u) = true := by
 obtain ⟨h1, h2, h3⟩ := term_parts hok
 refine term_mk h1 h60 ?_
 have := (scan_put (term_parts hu).2.2 h3 ha (term_at hok ha).1).2
 rw [this, put_len hok ha]
def Out (sg t : List Int) (a r : Nat) : Prop := r ≤ a ∨ a + len1 sg t a ≤ r
end
end putMath
end
section
open Go.Lib (hid)
namespace put
open Go.RowKit segsHelp base ints sig term arity endOf cursor termOk endAt inside marks app sym sub segs posMath putMath concat
set_option maxRecDepth 100000
theorem Seg.front {w : World} {B b off m a : Nat} {t : List Int} (h : Seg w B (some ⟨b, off, none⟩) m t) (ha : a ≤ m) : Seg w B (some ⟨b, off, none⟩) a (t.take a) := by
 have := Seg.cut (a := 0) (j := a) h (by omega)
 simpa using this
theorem Seg.back {w : World} {B b off m e : Nat} {t : List Int} (h : Seg w B (some ⟨b, off, none⟩) m t) (he : e ≤ m) : Seg w B (some ⟨b, off + e, none⟩) (m - e) (t.drop e) := by
 have := Seg.cut (a := e) (j := m - e) h (by omega)
 rwa [List.take_of_length_le (by simp [h.1])] at this
theorem Seg.none_any {w : World} {B : Nat} {A : Option Addr} {t : List Int} (h : t = []) : Seg w B A 0 t := ⟨by rw [h]; rfl, fun h => absurd h (Nat.lt_irrefl _)⟩
def putI (sg t u : List Int) (a : Nat) : List Int := putL t a (len1 sg t a) u
def AnsPut (w : World) (ys : List Int) (b : Bool) (e : Ending) (w' : World) : Prop := ∃ A n c, e = .returned (.tuple #[.slice A n c, .bool b]) ∧ Own w' w.heap.size (.slice A n c) ys ∧ Below w.heap.size w w'
def fitB (sg t u : List Int) (a : Nat) : Bool := decide ((putI sg t u a).length ≤ 60)
def fitL (sg t u : List Int) (a : Nat) : List Int := if fitB sg t u a = true then putI sg t u a else []
set_option maxHeartbeats 1000000 in
theorem l3Put (A A' U : Option Addr) (n c m c' un uc : Nat) (sg t u : List Int) (a : Nat) (w : World) (h : Seg w w.heap.size A n sg) (h' : Seg w w.heap.size A' m t) (hu : Seg w w.heap.size U un u) (hcu : U = none → uc = 0) (hn : n ≤ 1048576) (hm : m ≤ 1048576) (hun : un ≤ 60) (hc' : m ≤ c') (hc2 : c' ≤ 9223372036854775807)
  (hok : termOkB sg t = true) (hat : a < t.length) :
  Calls Tryz.prog 61 #[.agg #[.slice A n c], .slice A' m c', .int .i64 (a : Int), .slice U un uc] w (AnsPut w (fitL sg t u a) (fitB sg t u a)) := by
 have ham : a < m := by rw [h'.1] at hat; exact hat
 obtain ⟨b, off, x, rfl, -, -, -⟩ := h'.spot ham
 obtain ⟨W, hW⟩ : ∃ W, W = w.alloc (.cells #[.slice A n c] 26) := ⟨_, rfl⟩
 have f : Fr w W A n c sg (some ⟨b, off, none⟩) m t := by rw [hW]; exact Fr.start h h'
 have hU : Seg W w.heap.size U un u := hu.below f.b
 have HW := hid hW
 obtain ⟨j, hj⟩ : ∃ j, len1 sg t a = j := ⟨_, rfl⟩
 obtain ⟨t1, t2, t3⟩ := term_at hok hat
 have hars := (sig_arities (termOk_parts hok).1).1
 rw [hj] at t1 t2 t3
 rw [h'.1] at t3
 have h60 : m ≤ 60 := by have := (termOk_parts hok).2.1; rw [h'.1] at this; exact this
 have HE := hid (endI_some t1)
 have HTL := hid hat
 have HPI := hid (show putI sg t u a = t.take a ++ u ++ t.drop (a + j) by unfold putI putL; rw [hj, List.append_assoc])
 have hpl : (putI sg t u a).length = a + un + (m - (a + j)) := by rw [HPI.out]; simp [h'.1, hu.1]; omega
 have HPL := hid hpl
 have LC := hid (copyInts (some ⟨b, off, none⟩) a c' (t.take a) W ((Seg.front f.t1 (by omega))) (fun e => by cases e) (by omega))
 have HCU := hid hcu
 have i0 : (0 : Int) ≤ (a : Int) := by omega
 have i1 : (a : Int) ≤ (c' : Int) := by omega
 have i2 : (a : Int) + (j : Int) ≤ (c' : Int) := by omega
 have i3 : (a : Int) + (j : Int) ≤ (m : Int) := by omega
 clear hW h h' hu hj t1 hok hat hcu hpl
 go_enter Tryz.func61, Tryz.ntmps61
 go_wp2_with fail
 rw [← HW.out]
 refine LC.out.mono ?_
 rintro e w1 ⟨O1, n1, c1, rfl, o1, bb⟩
 have hta : (t.take a).length = a := by rw [List.length_take]; have := HTL.out; omega
 obtain rfl : n1 = a := by rw [Own.len o1, hta]
 replace hU := hU.below (bb.mono (Nat.le_of_lt f.size))
 replace o1 := Own.lower (base' := w.heap.size + 1) o1 f.size
 replace f := f.next bb
 have z1 : w.heap.size + 1 ≤ w1.heap.size := f.size
 clear bb hta LC
 go_wp2_with (at_builtin; refine appAll rfl _ _ rfl (w.heap.size + 1) O1 n1 c1 _ rfl o1 U un uc w.heap.size u rfl hU HCU.out (by omega) (by omega) z1 ?_; intro O2 c2 w2 o2 b2; have f2 := f.over b2; have cA2 : w2.cell? ⟨w.heap.size, 0, none⟩ = some (.slice A n c) := f2.cell)
 clear o1 b2 f hU z1 cA2
 replace f := f2
 clear f2
 have cA := f.cell
 obtain ⟨k, hk⟩ : ∃ k, n1 + j = k := ⟨_, rfl⟩
 rw [hk] at HPI HPL t3
 have HEK := hid (show endI sg t n1 = (k : Int) by rw [HE.out, ← hk]; omega)
 have hn1k : n1 ≤ k := by omega
 clear HE hk i2 i3 t2
 refine (specEnd A _ n c m c' sg t (n1 : Int) _ f.s1 f.t1 hn hm hars i0 (by omega)).mono ?_
 rintro e w3 ⟨he, bb⟩
 rw [Int.toNat_natCast, HEK.out] at he
 subst he
 replace f := f.next bb
 replace o2 := Own.next o2 bb
 clear bb cA
 have i2 : (k : Int) ≤ (c' : Int) := by omega
 have i4 : (k : Int) ≤ (m : Int) := by omega
 have z1 : w.heap.size + 1 ≤ w3.heap.size := f.size
 by_cases hce : c' = k
 ·subst hce
  have hmk : m - c' = 0 := by omega
  have HSG := hid (show Seg w3 w.heap.size (some ⟨b, off, none⟩) 0 [] from Seg.none_any rfl)
  have HPI2 := hid (show putI sg t u n1 = t.take n1 ++ u ++ [] by rw [HPI.out, List.drop_eq_nil_of_le (by rw [f.t1.1]; omega)])
  have HPL2 := hid (show (putI sg t u n1).length = n1 + un by rw [HPL.out, hmk]; rfl)
  clear hmk HPL HPI
  by_cases h6 : n1 + un ≤ 60
  ·have h7 : ¬ (60 : Int) < (n1 : Int) + (un : Int) := by omega
   go_wp2_with (at_builtin; refine appAll rfl _ _ rfl (w.heap.size + 1) O2 (n1 + un) c2 _ rfl o2 (some ⟨b, off, none⟩) 0 0 w.heap.size [] rfl HSG.out (fun e => by cases e) (by omega) (by omega) z1 ?_; intro O4 c4 w4 o4 b4)
   replace f := f.over b4
   have F : AnsPut w (fitL sg t u n1) (fitB sg t u n1) (.returned (.tuple #[.slice O4 (n1 + un) c4, .bool true])) w4 := ⟨O4, _, c4, by rw [show fitB sg t u n1 = true by unfold fitB; rw [HPL2.out]; exact decide_eq_true h6], by unfold fitL; rw [if_pos (by unfold fitB; rw [HPL2.out]; exact decide_eq_true h6), HPI2.out]; exact Own.lower o4 (Nat.le_succ _), f.b⟩
   have HF := hid F
   clear F o4 f
   go_ret2
   exact HF.out
  ·have h7 : (60 : Int) < (n1 : Int) + (un : Int) := by omega
   go_wp2_with (at_builtin; refine appAll rfl _ _ rfl (w.heap.size + 1) O2 (n1 + un) c2 _ rfl o2 (some ⟨b, off, none⟩) 0 0 w.heap.size [] rfl HSG.out (fun e => by cases e) (by omega) (by omega) z1 ?_; intro O4 c4 w4 o4 b4)
   replace f := f.over b4
   have F : AnsPut w (fitL sg t u n1) (fitB sg t u n1) (.returned (.tuple #[.slice (some ⟨w4.heap.size, 0, none⟩) 0 0, .bool false])) (w4.alloc (.cells #[] 2)) := ⟨_, 0, 0, by rw [show fitB sg t u n1 = false by unfold fitB; rw [HPL2.out]; exact decide_eq_false h6], by unfold fitL; rw [if_neg (by unfold fitB; rw [HPL2.out, decide_eq_false h6]; simp)]; exact own_empty w4 w.heap.size (Nat.le_of_lt f.size), (f.alloc _).b⟩
   have HF := hid F
   clear F o4 f
   go_ret2
   exact HF.out
 ·have HSG := hid (Seg.back f.s' (e := k) t3)
  obtain ⟨r, hr⟩ : ∃ r, m - k = r := ⟨_, rfl⟩
  rw [hr] at HPL HSG
  have hr60 : r ≤ 60 := by omega
  by_cases h6 : n1 + un + r ≤ 60
  ·have h7 : ¬ (60 : Int) < (n1 : Int) + (un : Int) + (r : Int) := by omega
   go_wp2_with (at_builtin; refine appAll rfl _ _ rfl (w.heap.size + 1) O2 (n1 + un) c2 _ rfl o2 (some ⟨b, off + k, none⟩) r (c' - k) w.heap.size (t.drop k) rfl HSG.out (fun e => by cases e) (by omega) (by omega) z1 ?_; intro O4 c4 w4 o4 b4)
   replace f := f.over b4
   have F : AnsPut w (fitL sg t u n1) (fitB sg t u n1) (.returned (.tuple #[.slice O4 (n1 + un + r) c4, .bool true])) w4 := ⟨O4, _, c4, by rw [show fitB sg t u n1 = true by unfold fitB; rw [HPL.out]; exact decide_eq_true h6], by unfold fitL; rw [if_pos (by unfold fitB; rw [HPL.out]; exact decide_eq_true h6), HPI.out]; exact Own.lower o4 (Nat.le_succ _), f.b⟩
   have HF := hid F
   clear F o4 f
   go_ret2
   exact HF.out
  ·have h7 : (60 : Int) < (n1 : Int) + (un : Int) + (r : Int) := by omega
   go_wp2_with (at_builtin; refine appAll rfl _ _ rfl (w.heap.size + 1) O2 (n1 + un) c2 _ rfl o2 (some ⟨b, off + k, none⟩) r (c' - k) w.heap.size (t.drop k) rfl HSG.out (fun e => by cases e) (by omega) (by omega) z1 ?_; intro O4 c4 w4 o4 b4)
   replace f := f.over b4
   have F : AnsPut w (fitL sg t u n1) (fitB sg t u n1) (.returned (.tuple #[.slice (some ⟨w4.heap.size, 0, none⟩) 0 0, .bool false])) (w4.alloc (.cells #[] 2)) := ⟨_, 0, 0, by rw [show fitB sg t u n1 = false by unfold fitB; rw [HPL.out]; exact decide_eq_false h6], by unfold fitL; rw [if_neg (by unfold fitB; rw [HPL.out, decide_eq_false h6]; simp)]; exact own_empty w4 w.heap.size (Nat.le_of_lt f.size), (f.alloc _).b⟩
   have HF := hid F
   clear F o4 f
   go_ret2
   exact HF.out
def putB (sg t u : List Int) (x : Int) : Bool := (thereB sg t x && termOkB sg u) && fitB sg t u x.toNat
def putR (sg t u : List Int) (x : Int) : List Int := if putB sg t u x = true then putI sg t u x.toNat else []
theorem put_no {sg t u : List Int} {x : Int} (h : thereB sg t x = false ∨ termOkB sg u = false) : putB sg t u x = false ∧ putR sg t u x = [] := by
 have e : putB sg t u x = false := by
  unfold putB
  rcases h with h | h <;> rw [h] <;> simp
 exact ⟨e, by unfold putR; rw [if_neg (by rw [e]; simp)]⟩
theorem put_yes {sg t u : List Int} {a : Nat} (h1 : thereB sg t (a : Int) = true) (h2 : termOkB sg u = true) : putB sg t u (a : Int) = fitB sg t u a ∧ putR sg t u (a : Int) = fitL sg t u a := by
 have e : putB sg t u (a : Int) = fitB sg t u a := by unfold putB; rw [h1, h2, Int.toNat_natCast]; rfl
 exact ⟨e, by unfold putR fitL; rw [e, Int.toNat_natCast]⟩
theorem ansPut_no {w w' : World} {sg t u : List Int} {x : Int} {A : Option Addr} {c : Nat} (h : thereB sg t x = false ∨ termOkB sg u = false) (ho : Own w' w.heap.size (.slice A 0 c) []) (hb : Below w.heap.size w w') : AnsPut w (putR sg t u x) (putB sg t u x) (.returned (.tuple #[.slice A 0 c, .bool false])) w' := by
 obtain ⟨e1, e2⟩ := put_no h
 exact ⟨A, 0, c, by rw [e1], by rw [e2]; exact ho, hb⟩
set_option maxHeartbeats 400000 in
theorem tooLong (A : Option Addr) (n c : Nat) (w : World) (hn : n ≤ 9223372036854775807) :
  Calls Tryz.prog 113 #[.slice A n c] w fun e w' => w = w' ∧ e = .returned (.bool (decide (60 < n))) := by
 have E : decide ((60 : Int) < (n : Int)) = decide (60 < n) := decide_eq_decide.2 (by omega)
 rw [← E]
 have HE := hid E
 clear E
 generalize hz : decide ((60 : Int) < (n : Int)) = z
 have HZ := hid hz
 clear hz
 go_enter Tryz.func113, Tryz.ntmps113
 go_wp2
 go_ret
 exact ⟨rfl, by rw [← HZ.out]; rfl⟩
theorem segs3 {w : World} {t : TypeId} {A1 A2 A3 : Option Addr} {n1 c1 n2 c2 n3 c3 : Nat} {x1 x2 x3 : List Int} (h1 : Seg w w.heap.size A1 n1 x1) (h2 : Seg w w.heap.size A2 n2 x2) (h3 : Seg w w.heap.size A3 n3 x3) (k1 : Cap A1 n1 c1) (k2 : Cap A2 n2 c2) (k3 : Cap A3 n3 c3) :
  Segs (w.alloc (.cells #[.slice A1 n1 c1, .slice A2 n2 c2, .slice A3 n3 c3] t)) (w.alloc (.cells #[.slice A1 n1 c1, .slice A2 n2 c2, .slice A3 n3 c3] t)).heap.size (some ⟨w.heap.size, 0, none⟩) 3 [x1, x2, x3] := by
 have r := Row.new w t #[.slice A1 n1 c1, .slice A2 n2 c2, .slice A3 n3 c3]
 have b : Below w.heap.size w (w.alloc (.cells #[.slice A1 n1 c1, .slice A2 n2 c2, .slice A3 n3 c3] t)) := (Below.refl _ _).alloc (Nat.le_refl _) _
 refine ⟨rfl, fun _ => ⟨w.heap.size, 0, rfl, r.lt, fun j hj => ?_⟩⟩
 rw [Nat.zero_add, r.cell j]
 rcases (show j = 0 ∨ j = 1 ∨ j = 2 by omega) with rfl | rfl | rfl
 ·exact ⟨A1, n1, c1, rfl, h1.next b, k1⟩
 ·exact ⟨A2, n2, c2, rfl, h2.next b, k2⟩
 ·exact ⟨A3, n3, c3, rfl, h3.next b, k3⟩
set_option maxHeartbeats 1000000 in
theorem implPutAt (A A' U : Option Addr) (n c m c' un uc : Nat) (sg t : List Int) (x : Int) (u : List Int) (w : World) (h : Seg w w.heap.size A n sg) (h' : Seg w w.heap.size A' m t) (hu : Seg w w.heap.size U un u) (hn : n ≤ 1048576) (hm : m ≤ 1048576) (hun : un ≤ 1048576) (hx1 : -9223372036854775808 ≤ x) (hx2 : x ≤ 9223372036854775807)
  (hcu : Cap U un uc) (hc' : m ≤ c') (hc2 : c' ≤ 9223372036854775807) :
  Calls Tryz.prog 56 #[.agg #[.slice A n c], .slice A' m c', .int .i64 x, .slice U un uc] w (AnsPut w (putR sg t u x) (putB sg t u x)) := by
 obtain ⟨W, hW⟩ : ∃ W, W = w.alloc (.cells #[.slice A n c] 26) := ⟨_, rfl⟩
 have f : Fr w W A n c sg A' m t := by rw [hW]; exact Fr.start h h'
 have hU : Seg W W.heap.size U un u := (hu.below f.b).more (Nat.le_of_lt f.size)
 have HW := hid hW
 have HLM := hid h'.1
 have L := hid (implEndOf A A' n c m c' sg t x W f.s1 f.t1 hn hm hx1 hx2)
 clear hW h h' hu
 cases hx : thereB sg t x with
 | false =>
  have HX := hid hx
  have HE := hid (show endOfI sg t x = -1 by unfold endOfI; rw [if_neg (by rw [hx]; simp)])
  clear hx
  go_enter Tryz.func56, Tryz.ntmps56
  go_wp2_with fail
  rw [← HW.out]
  refine L.out.mono ?_
  rintro e w1 ⟨he, bb⟩
  rw [HE.out] at he
  subst he
  have F := hid (ansPut_no (w := w) (u := u) (.inl HX.out) (Own.nil w1 w.heap.size) (f.next bb).b)
  clear f L bb hU
  go_wp2
  go_ret2
  exact F.out
 | true =>
  have HX := hid hx
  obtain ⟨hok, i0, i1⟩ := there_parts hx
  obtain ⟨a, rfl⟩ := Int.eq_ofNat_of_zero_le i0
  have hal : a < t.length := by omega
  obtain ⟨k, hk⟩ : ∃ k, a + len1 sg t a = k := ⟨_, rfl⟩
  have HE := hid (show endOfI sg t (a : Int) = (k : Int) by unfold endOfI; rw [if_pos hx, Int.toNat_natCast, end_at hok hal, hk])
  have HK := hid hk
  have hkm : k ≤ m := by have h3 := (term_at hok hal).2.2; rw [HLM.out] at h3; omega
  have hak : a < k := by have h3 := (term_at hok hal).2.1; omega
  have h60 : m ≤ 60 := by have h3 := (termOk_parts hok).2.1; rw [HLM.out] at h3; exact h3
  have hneg : ¬ (k : Int) < 0 := by omega
  clear hx hok i0 i1 hk
  cases hku : termOkB sg u with
  | false =>
   have HU := hid hku
   clear hku
   go_enter Tryz.func56, Tryz.ntmps56
   go_wp2_with fail
   rw [← HW.out]
   refine L.out.mono ?_
   rintro e w1 ⟨he, bb⟩
   rw [HE.out] at he
   subst he
   replace f := f.next bb
   replace hU := hU.next bb
   have cA := f.cell
   clear bb L
   go_wp2_with fail
   refine (implTermOk A U n c un uc sg u _ f.s1 hU hn hun).mono ?_
   rintro e w2 ⟨he, bb⟩
   rw [HU.out] at he
   subst he
   have F := hid (ansPut_no (w := w) (t := t) (x := (a : Int)) (.inr HU.out) (Own.nil w2 w.heap.size) (f.next bb).b)
   clear f bb hU cA
   go_wp2
   go_ret2
   exact F.out
  | true =>
   have HU := hid hku
   have hu60 : un ≤ 60 := by have h1 := (termOk_parts hku).2.1; rw [hU.1] at h1; exact h1
   have HP := hid (put_yes HX.out hku)
   have HUL := hid hU.1
   have HPI := hid (show [t.take a, u, t.drop k].flatten = putI sg t u a by unfold putI putL; rw [HK.out]; simp)
   have HPL := hid (show (putI sg t u a).length = a + un + (m - k) by rw [← HPI.out]; simp [HUL.out, HLM.out]; omega)
   have HT := hid (show tot [t.take a, u, t.drop k] ≤ 1048576 by unfold tot sumL; simp [HUL.out, HLM.out]; omega)
   clear hku
   go_enter Tryz.func56, Tryz.ntmps56
   go_wp2_with fail
   rw [← HW.out]
   refine L.out.mono ?_
   rintro e w1 ⟨he, bb⟩
   rw [HE.out] at he
   subst he
   replace f := f.next bb
   replace hU := hU.next bb
   have cA := f.cell
   clear bb L
   go_wp2_with fail
   refine (implTermOk A U n c un uc sg u _ f.s1 hU hn hun).mono ?_
   rintro e w2 ⟨he, bb⟩
   rw [HU.out] at he
   subst he
   replace f := f.next bb
   replace hU := hU.next bb
   clear bb cA
   obtain ⟨b, off, y, rfl, -, -, -⟩ := f.t1.spot (show a < m by omega)
   have i0 : (0 : Int) ≤ (a : Int) := by omega
   have i1 : (a : Int) ≤ (c' : Int) := by omega
   have i2 : (k : Int) ≤ (c' : Int) := by omega
   have i3 : (k : Int) ≤ (m : Int) := by omega
   have i4 : (0 : Int) ≤ (k : Int) := by omega
   have SF := Seg.front f.t1 (show a ≤ m by omega)
   by_cases hce : c' = k
   ·subst hce
    have hmk : m - c' = 0 := by omega
    have S3 := hid (segs3 (t := 24) (A3 := some ⟨b, off, none⟩) (c3 := 0) SF hU (Seg.none_any (show t.drop c' = [] from List.drop_eq_nil_of_le (by rw [f.t1.1]; omega))) ⟨show a ≤ c' by omega, hc2, fun e => by cases e⟩ hcu ⟨Nat.le_refl _, by omega, fun _ => rfl⟩).drew
    rw [hmk] at HPL
    clear SF hmk
    go_wp2_with fail
    go_region_held3 (fun _ => True)
     (trivial)
     (first
      | (go_at_call 112; refine (concat _ _ _ _ _ S3.out HT.out).mono ?_; rintro e w4 ⟨O4, n4, c4, rfl, o4, b4⟩))
    have hn4 : n4 = a + un + 0 := by rw [Own.len o4, HPI.out]; exact HPL.out
    have bf := (((Below.refl w2.heap.size w2).alloc (Nat.le_refl _) (.cells #[.slice (some ⟨b, off, none⟩) a c', .slice U un uc, .slice (some ⟨b, off, none⟩) 0 0] 24)).drew).trans (b4.mono (by simp))
    have hsz := f.size
    replace f := f.next bf
    replace o4 := Own.lower (base' := w.heap.size) o4 (by simp; omega)
    obtain ⟨z, hz⟩ : ∃ z, fitB sg t u a = z := ⟨_, rfl⟩
    have F : AnsPut w (putR sg t u (a : Int)) (putB sg t u (a : Int)) (.returned (.tuple #[if z = true then .slice O4 n4 c4 else .slice none 0 0, .bool z])) w4 := by
     refine ⟨if z = true then O4 else none, if z = true then n4 else 0, if z = true then c4 else 0, ?_, ?_, f.b⟩
     ·rw [HP.out.1, hz]; cases z <;> rfl
     ·rw [HP.out.2]
      unfold fitL
      rw [hz]
      cases z with
      | false => exact Own.nil _ _
      | true => rw [HPI.out] at o4; exact o4
    have HF := hid F
    have HTL := hid (show decide (60 < n4) = !z by
     rw [← hz]
     unfold fitB
     rw [HPL.out, hn4]
     by_cases e : a + un + 0 ≤ 60
     ·rw [decide_eq_true e, decide_eq_false (by omega)]; rfl
     ·rw [decide_eq_false e, decide_eq_true (by omega)]; rfl)
    have h463 : n4 ≤ 9223372036854775807 := by omega
    clear F o4 b4 f hz hn4 bf S3 hU
    go_wp2_with fail
    refine (tooLong O4 n4 c4 w4 h463).mono ?_
    rintro e w5 ⟨rfl, rfl⟩
    rw [HTL.out]
    cases z with
    | false =>
     go_wp2
     go_ret2
     exact HF.out
    | true =>
     go_wp2
     go_ret2
     exact HF.out
   ·obtain ⟨r, hr⟩ : ∃ r, m - k = r := ⟨_, rfl⟩
    have SB := Seg.back f.t1 hkm
    rw [hr] at SB HPL
    have hr60 : r ≤ 60 := by omega
    have S3 := hid (segs3 (t := 24) SF hU SB ⟨show a ≤ c' by omega, hc2, fun e => by cases e⟩ hcu ⟨show r ≤ c' - k by omega, by omega, fun e => by cases e⟩).drew
    clear SF SB
    go_wp2_with fail
    go_region_held3 (fun _ => True)
     (trivial)
     (first
      | (go_at_call 112; refine (concat _ _ _ _ _ S3.out HT.out).mono ?_; rintro e w4 ⟨O4, n4, c4, rfl, o4, b4⟩))
    have hn4 : n4 = a + un + r := by rw [Own.len o4, HPI.out]; exact HPL.out
    have bf := (((Below.refl w2.heap.size w2).alloc (Nat.le_refl _) (.cells #[.slice (some ⟨b, off, none⟩) a c', .slice U un uc, .slice (some ⟨b, off + k, none⟩) r (c' - k)] 24)).drew).trans (b4.mono (by simp))
    have hsz := f.size
    replace f := f.next bf
    replace o4 := Own.lower (base' := w.heap.size) o4 (by simp; omega)
    obtain ⟨z, hz⟩ : ∃ z, fitB sg t u a = z := ⟨_, rfl⟩
    have F : AnsPut w (putR sg t u (a : Int)) (putB sg t u (a : Int)) (.returned (.tuple #[if z = true then .slice O4 n4 c4 else .slice none 0 0, .bool z])) w4 := by
     refine ⟨if z = true then O4 else none, if z = true then n4 else 0, if z = true then c4 else 0, ?_, ?_, f.b⟩
     ·rw [HP.out.1, hz]; cases z <;> rfl
     ·rw [HP.out.2]
      unfold fitL
      rw [hz]
      cases z with
      | false => exact Own.nil _ _
      | true => rw [HPI.out] at o4; exact o4
    have HF := hid F
    have HTL := hid (show decide (60 < n4) = !z by
     rw [← hz]
     unfold fitB
     rw [HPL.out, hn4]
     by_cases e : a + un + r ≤ 60
     ·rw [decide_eq_true e, decide_eq_false (by omega)]; rfl
     ·rw [decide_eq_false e, decide_eq_true (by omega)]; rfl)
    have h463 : n4 ≤ 9223372036854775807 := by omega
    clear F o4 b4 f hz hn4 bf S3 hU
    go_wp2_with fail
    refine (tooLong O4 n4 c4 w4 h463).mono ?_
    rintro e w5 ⟨rfl, rfl⟩
    rw [HTL.out]
    cases z with
    | false =>
     go_wp2
     go_ret2
     exact HF.out
    | true =>
     go_wp2
     go_ret2
     exact HF.out
end put
end
section
namespace heldT
section
variable {P : Program} {md : Region.Mode} {ops : Array Oper} {Q : Exit → Act → World → Prop} {S : World → Prop} {late : Nat → Bool}
def AnyT (P : Program) (md : Region.Mode) (ops : Array Oper) (Q : Exit → Act → World → Prop) (S : World → Prop) (late : Nat → Bool) : Nat → Array Bool → Act → World → Prop
 | 0, listed, a, w => Region.ready md ops listed = [] ∧ Q .normal a w
 | fuel + 1, listed, a, w => (Region.ready md ops listed = [] → Q .normal a w) ∧
  ∀ i ∈ Region.ready md ops listed, wpOp P ops Q i (fun a' w' => (late i = false → S w → S w') ∧ AnyT P md ops Q S late fuel (listed.setIfInBounds i true) a' w') a w
theorem AnyT.any : ∀ (fuel : Nat) (listed : Array Bool) (a : Act) (w : World), AnyT P md ops Q S late fuel listed a w → wpAny P md ops Q fuel listed a w
 | 0, _, _, _, h => h
 | fuel + 1, _, _, _, h => ⟨h.1, fun i hi => wpOp_mono (fun a' w' h' => AnyT.any fuel _ a' w' h'.2) (h.2 i hi)⟩
def Waits (md : Region.Mode) (ops : Array Oper) (late : Nat → Bool) (listed : Array Bool) (i : Nat) : Prop :=
 ∀ j o, ops[j]? = some o → late j = true → listed.getD j true = false → ∃ e ∈ o.after, Region.binds md e = true ∧ e.on = i
def waitsB (md : Region.Mode) (ops : Array Oper) (late : Nat → Bool) (listed : Array Bool) (i : Nat) : Bool :=
 (List.range ops.size).all fun j => !late j || listed.getD j true || ((ops[j]?).map fun o => o.after.any fun e => Region.binds md e && e.on == i).getD false
theorem waits_of {listed : Array Bool} {i : Nat} (h : waitsB md ops late listed i = true) : Waits md ops late listed i := by
 intro j o ho hl hu
 have hj : j < ops.size := by
  rcases Nat.lt_or_ge j ops.size with h' | h'
  ·exact h'
  ·rw [Array.getElem?_eq_none h'] at ho; cases ho
 have := List.all_eq_true.1 h j (List.mem_range.2 hj)
 rw [hl, hu, ho] at this
 simp only [Bool.not_true, Bool.false_or, Option.map_some, Option.getD_some, Array.any_eq_true', Bool.and_eq_true, beq_iff_eq] at this
 exact this
theorem AnyT.first {i : Nat} {oi : Oper} {v : Value} (hi : ops[i]? = some oi) (hsel : ∀ (j : Nat) (o : Oper) cs b, ops[j]? = some o → o.op ≠ .select cs b) (hQ : ∀ c a w, Q (.panic c) (a.put oi.dst v) w → Q (.panic c) a w) :
  ∀ (fuel : Nat) (listed : Array Bool) (a : Act) (w : World),
   (∀ j oj, ops[j]? = some oj → j ≠ i → listed.getD j true = false → (∀ e ∈ oj.after, Region.binds md e = true → e.on ≠ i) → oi.apart ops oj = true) → Waits md ops late listed i →
   i ∈ Region.ready md ops listed → YieldsIf P ops S oi v a → S w → AnyT P md ops Q S late fuel (listed.setIfInBounds i true) (a.put oi.dst v) w → AnyT P md ops Q S late (fuel + 1) listed a w := by
 intro fuel
 induction fuel with
 | zero =>
  intro listed a w _ _ hr hy hS H
  refine ⟨fun h => (by rw [h] at hr; cases hr), fun j hj => ?_⟩
  rcases Classical.em (j = i) with e | e
  ·subst e; exact hy.wpOp hi hS ⟨fun _ h => h, H⟩
  ·have := ready_mono hj e
   rw [H.1] at this
   cases this
 | succ fuel ih =>
  intro listed a w hfree hwait hr hy hS H
  refine ⟨fun h => (by rw [h] at hr; cases hr), fun j hj => ?_⟩
  rcases Classical.em (j = i) with e | hji
  ·subst e; exact hy.wpOp hi hS ⟨fun _ h => h, H⟩
  have h1 := H.2 j (ready_mono hj hji)
  obtain ⟨hjun, oj, hoj, hall⟩ := mem_ready.1 hj
  have h0 := (mem_ready.1 hr).1
  have hnot : ∀ e ∈ oj.after, Region.binds md e = true → e.on ≠ i := fun e he hb heq => by
   have h1 := hall e he hb
   rw [heq] at h1
   rcases Nat.lt_or_ge i listed.size with h' | h'
   ·simp [h'] at h0 h1; rw [h0] at h1; cases h1
   ·simp [Array.getElem?_eq_none h'] at h1
  have hlj : late j = false := by
   cases e : late j with
   | false => rfl
   | true =>
    obtain ⟨x, hx, hb, ho⟩ := hwait j oj hoj e hjun
    exact absurd ho (hnot x hx hb)
  have far : ∀ {k : Nat}, j ≠ k → (listed.setIfInBounds j true).getD k true = false → listed.getD k true = false := fun hjk h => by rwa [getD_set_ne true hjk] at h
  have same : ∀ {k : Nat}, k = j → listed.getD k true = false := fun e => by rw [e]; exact hjun
  have un : ∀ (k : Nat), (listed.setIfInBounds j true).getD k true = false → listed.getD k true = false := fun k h => by
   rcases Classical.em (k = j) with e | e
   ·exact same e
   ·exact far (fun e' => e e'.symm) h
  have h2 := wpOp_putIf hoj (hfree j oj hoj hji hjun hnot) (fun cs b => hsel i oi cs b hi) (fun cs b => hsel j oj cs b hoj) hQ hy h1
  refine wpOp_mono (fun a' w' h3 => ⟨h3.2.1, ih (listed.setIfInBounds j true) a' w' (fun k ok hk hki hun hno => hfree k ok hk hki (un k hun) hno) (fun k o hk hl hu => hwait k o hk hl (un k hu)) (ready_mono hr (Ne.symm hji)) h3.1 (h3.2.1 hlj hS) ?_⟩) h2
  rw [Array.setIfInBounds_comm _ _ hji]
  exact h3.2.2
theorem AnyT.take {i : Nat} {oi : Oper} {v : Value} {fuel : Nat} {listed : Array Bool} {a : Act} {w : World} (hi : ops[i]? = some oi) (hs : Region.noSelect ops = true) (hf : Region.free md ops listed i = true) (hw : waitsB md ops late listed i = true) (hr : (Region.ready md ops listed).contains i = true)
  (hQ : ∀ c a w, Q (.panic c) (a.put oi.dst v) w → Q (.panic c) a w) (hy : YieldsIf P ops S oi v a) (hS : S w) (h : AnyT P md ops Q S late fuel (listed.setIfInBounds i true) (a.put oi.dst v) w) : AnyT P md ops Q S late (fuel + 1) listed a w :=
 AnyT.first hi (Region.noSelect_spec hs) hQ fuel listed a w (Region.free_spec hi hf) (waits_of hw) (by simpa using hr) hy hS h
theorem AnyT.firstA {i : Nat} {oi : Oper} {v : Value} (hi : ops[i]? = some oi) (hsel : ∀ (j : Nat) (o : Oper) cs b, ops[j]? = some o → o.op ≠ .select cs b) (hQ : ∀ c a w, Q (.panic c) (a.put oi.dst v) w → Q (.panic c) a w) :
  ∀ (fuel : Nat) (listed : Array Bool) (a : Act) (w : World),
   (∀ j oj, ops[j]? = some oj → j ≠ i → listed.getD j true = false → (∀ e ∈ oj.after, Region.binds md e = true → e.on ≠ i) → oi.apart ops oj = true) →
   i ∈ Region.ready md ops listed → YieldsIf P ops (fun _ => True) oi v a → AnyT P md ops Q S late fuel (listed.setIfInBounds i true) (a.put oi.dst v) w → AnyT P md ops Q S late (fuel + 1) listed a w := by
 intro fuel
 induction fuel with
 | zero =>
  intro listed a w _ hr hy H
  refine ⟨fun h => (by rw [h] at hr; cases hr), fun j hj => ?_⟩
  rcases Classical.em (j = i) with e | e
  ·subst e; exact hy.wpOp hi trivial ⟨fun _ h => h, H⟩
  ·have := ready_mono hj e
   rw [H.1] at this
   cases this
 | succ fuel ih =>
  intro listed a w hfree hr hy H
  refine ⟨fun h => (by rw [h] at hr; cases hr), fun j hj => ?_⟩
  rcases Classical.em (j = i) with e | hji
  ·subst e; exact hy.wpOp hi trivial ⟨fun _ h => h, H⟩
  have h1 := H.2 j (ready_mono hj hji)
  obtain ⟨hjun, oj, hoj, hall⟩ := mem_ready.1 hj
  have h0 := (mem_ready.1 hr).1
  have hnot : ∀ e ∈ oj.after, Region.binds md e = true → e.on ≠ i := fun e he hb heq => by
   have h1 := hall e he hb
   rw [heq] at h1
   rcases Nat.lt_or_ge i listed.size with h' | h'
   ·simp [h'] at h0 h1; rw [h0] at h1; cases h1
   ·simp [Array.getElem?_eq_none h'] at h1
  have un : ∀ (k : Nat), (listed.setIfInBounds j true).getD k true = false → listed.getD k true = false := fun k h => by
   rcases Classical.em (k = j) with e | e
   ·rw [e]; exact hjun
   ·rwa [getD_set_ne true (fun e' => e e'.symm)] at h
  have h2 := wpOp_putIf hoj (hfree j oj hoj hji hjun hnot) (fun cs b => hsel i oi cs b hi) (fun cs b => hsel j oj cs b hoj) hQ hy h1
  refine wpOp_mono (fun a' w' h3 => ⟨h3.2.1, ih (listed.setIfInBounds j true) a' w' (fun k ok hk hki hun hno => hfree k ok hk hki (un k hun) hno) (ready_mono hr (Ne.symm hji)) h3.1 ?_⟩) h2
  rw [Array.setIfInBounds_comm _ _ hji]
  exact h3.2.2
theorem AnyT.takeA {i : Nat} {oi : Oper} {v : Value} {fuel : Nat} {listed : Array Bool} {a : Act} {w : World} (hi : ops[i]? = some oi) (hs : Region.noSelect ops = true) (hf : Region.free md ops listed i = true) (hr : (Region.ready md ops listed).contains i = true)
  (hQ : ∀ c a w, Q (.panic c) (a.put oi.dst v) w → Q (.panic c) a w) (hy : YieldsIf P ops (fun _ => True) oi v a) (h : AnyT P md ops Q S late fuel (listed.setIfInBounds i true) (a.put oi.dst v) w) : AnyT P md ops Q S late (fuel + 1) listed a w :=
 AnyT.firstA hi (Region.noSelect_spec hs) hQ fuel listed a w (Region.free_spec hi hf) (by simpa using hr) hy h
theorem AnyT.call {i : Nat} {o : Oper} {fuel : Nat} {listed : Array Bool} {a : Act} {w : World} (hr : Region.ready md ops listed = [i]) (ho : ops[i]? = some o)
  (h : ∀ K' : Act → World → Prop, Shut (∀ a w', (late i = false → S w → S w') → ((late i = false → S w → S w') → AnyT P md ops Q S late fuel (listed.setIfInBounds i true) a w') → K' a w') → if Region.wanted o (yielded ops a.tmps) = true then Oper.wp P o a w K' Q else K' (a.put o.dst undef) w) : AnyT P md ops Q S late (fuel + 1) listed a w :=
 ⟨fun h0 => absurd (hr ▸ h0) (by simp), fun j hj => by
  rw [hr, List.mem_singleton] at hj
  subst hj
  exact wpOp_step ho (fun K' hK => h K' (fun a w' hS hW => hK a w' ⟨hS, hW hS⟩))⟩
theorem AnyT.done {listed : Array Bool} {a : Act} {w : World} (hr : Region.ready md ops listed = []) (h : Q .normal a w) : ∀ fuel, AnyT P md ops Q S late fuel listed a w
 | 0 => ⟨hr, h⟩
 | _ + 1 => ⟨fun _ => h, by rw [hr]; simp⟩
theorem AnyT.start {id : Nat} {a : Act} {w : World} (late : Nat → Bool) (hm : P.follows .mixedOrders = true) (hS : S w.drew) (h : S w.drew → AnyT P .any ops Q S late ops.size (Array.replicate ops.size false) a w.drew) : (Code.region id ops true).wp P Q a w :=
 wp_region_any hm (AnyT.any _ _ _ _ (h hS))
end
end heldT
end
section
namespace matchMath
open sig term termOk termFacts endAt sub termMath fillMath posMath renMath
def vr (x : Int) : Nat := (-1 - x).toNat
def mst (sg t : List Int) : List Int → Nat → List (List Int) → Option (List (List Int))
 | [], _, s => some s
 | x :: r, k, s =>
  if t.length ≤ k then none
  else if 0 ≤ x then (if x = t.getD k 0 then mst sg t r (k + 1) s else none)
  else if (s.getD (vr x) []).length ≠ 0 ∧ s.getD (vr x) [] ≠ subL sg t k then none
  else mst sg t r (k + (subL sg t k).length) (s.set (vr x) (subL sg t k))
section
variable {sg t : List Int} {r : List Int} {x : Int} {k : Nat} {s : List (List Int)}
theorem mst_out (h : t.length ≤ k) : mst sg t (x :: r) k s = none := by simp only [mst]; rw [if_pos h]
theorem mst_sym (h : ¬ t.length ≤ k) (hx : 0 ≤ x) (he : x = t.getD k 0) : mst sg t (x :: r) k s = mst sg t r (k + 1) s := by simp only [mst]; rw [if_neg h, if_pos hx, if_pos he]
theorem mst_symNo (h : ¬ t.length ≤ k) (hx : 0 ≤ x) (he : ¬ x = t.getD k 0) : mst sg t (x :: r) k s = none := by simp only [mst]; rw [if_neg h, if_pos hx, if_neg he]
theorem mst_var (h : ¬ t.length ≤ k) (hx : ¬ 0 ≤ x) (he : ¬ ((s.getD (vr x) []).length ≠ 0 ∧ s.getD (vr x) [] ≠ subL sg t k)) : mst sg t (x :: r) k s = mst sg t r (k + (subL sg t k).length) (s.set (vr x) (subL sg t k)) := by simp only [mst]; rw [if_neg h, if_neg hx, if_neg he]
theorem mst_varNo (h : ¬ t.length ≤ k) (hx : ¬ 0 ≤ x) (he : (s.getD (vr x) []).length ≠ 0 ∧ s.getD (vr x) [] ≠ subL sg t k) : mst sg t (x :: r) k s = none := by simp only [mst]; rw [if_neg h, if_neg hx, if_pos he]
end
theorem set_get {s : List (List Int)} {i j : Nat} {v : List Int} : (s.set i v).getD j [] = if i = j ∧ i < s.length then v else s.getD j [] := by
 simp only [List.getD_eq_getElem?_getD, List.getElem?_set]
 by_cases h : i = j
 ·subst h
  by_cases h2 : i < s.length
  ·simp [h2]
  ·simp [h2]
 ·simp [h]
theorem vr_lt {x : Int} (h0 : ¬ 0 ≤ x) (h : -24 ≤ x) : vr x < 24 := by unfold vr; omega
theorem mst_ext {sg t : List Int} : ∀ {p : List Int} {k : Nat} {s s' : List (List Int)}, mst sg t p k s = some s' → s.length = 24 → (∀ x ∈ p, -24 ≤ x) → s'.length = 24 ∧ ∀ i, (s.getD i []).length ≠ 0 → s'.getD i [] = s.getD i [] := by
 intro p
 induction p with
 | nil => intro k s s' h hl _; injection h with h; subst h; exact ⟨hl, fun _ _ => rfl⟩
 | cons x r ih =>
  intro k s s' h hl hx
  have hr : ∀ y ∈ r, -24 ≤ y := fun y hy => hx y (List.mem_cons_of_mem _ hy)
  by_cases h1 : t.length ≤ k
  ·rw [mst_out h1] at h; cases h
  ·by_cases h2 : 0 ≤ x
   ·by_cases h3 : x = t.getD k 0
    ·rw [mst_sym h1 h2 h3] at h; exact ih h hl hr
    ·rw [mst_symNo h1 h2 h3] at h; cases h
   ·by_cases h3 : (s.getD (vr x) []).length ≠ 0 ∧ s.getD (vr x) [] ≠ subL sg t k
    ·rw [mst_varNo h1 h2 h3] at h; cases h
    ·rw [mst_var h1 h2 h3] at h
     obtain ⟨e1, e2⟩ := ih h (by rw [List.length_set]; exact hl) hr
     refine ⟨e1, fun i hi => ?_⟩
     have hs : (s.set (vr x) (subL sg t k)).getD i [] = s.getD i [] := by
      rw [set_get]
      split
      ·rename_i hc
       obtain ⟨rfl, _⟩ := hc
       by_cases e : s.getD (vr x) [] = subL sg t k
       ·exact e.symm
       ·exact absurd ⟨hi, e⟩ h3
      ·rfl
     rw [← hs] at hi ⊢
     exact e2 i hi
theorem sub_len1 {sg t : List Int} (hok : termOkB sg t = true) {k : Nat} (hk : k < t.length) : (subL sg t k).length = len1 sg t k ∧ t.drop k = subL sg t k ++ t.drop (k + (subL sg t k).length) ∧ scan sg 1 (subL sg t k) = some (subL sg t k).length := by
 have h := term_at hok hk
 have hl : (subL sg t k).length = len1 sg t k := by unfold subL; rw [List.length_take, List.length_drop]; omega
 refine ⟨hl, ?_, (term_parts (sub_term hok hk).1).2.2⟩
 rw [hl, ← List.drop_drop]
 exact (List.take_append_drop _ _).symm
theorem mst_sound {sg t : List Int} (hok : termOkB sg t = true) : ∀ {p : List Int} {k : Nat} {s s' : List (List Int)}, mst sg t p k s = some s' → s.length = 24 → (∀ x ∈ p, -24 ≤ x) →
  (∃ rest, t.drop k = fillL (fun i => s'.getD i []) p ++ rest) ∧ ∀ x ∈ p, x < 0 → scan sg 1 (s'.getD (vr x) []) = some (s'.getD (vr x) []).length := by
 intro p
 induction p with
 | nil => intro k s s' _ _ _; exact ⟨⟨t.drop k, by rw [fill_nil, List.nil_append]⟩, fun x hx => absurd hx (List.not_mem_nil)⟩
 | cons x r ih =>
  intro k s s' h hl hx
  have hr : ∀ y ∈ r, -24 ≤ y := fun y hy => hx y (List.mem_cons_of_mem _ hy)
  have hx0 : -24 ≤ x := hx x (List.mem_cons_self ..)
  by_cases h1 : t.length ≤ k
  ·rw [mst_out h1] at h; cases h
  ·by_cases h2 : 0 ≤ x
   ·by_cases h3 : x = t.getD k 0
    ·rw [mst_sym h1 h2 h3] at h
     obtain ⟨⟨rest, e⟩, hv⟩ := ih h hl hr
     refine ⟨⟨rest, ?_⟩, fun y hy h0 => ?_⟩
     ·rw [drop_cons (by omega), e, ← h3, fill_cons, rep_sym h2]; rfl
     ·rcases List.mem_cons.1 hy with rfl | hy
      ·omega
      ·exact hv y hy h0
    ·rw [mst_symNo h1 h2 h3] at h; cases h
   ·by_cases h3 : (s.getD (vr x) []).length ≠ 0 ∧ s.getD (vr x) [] ≠ subL sg t k
    ·rw [mst_varNo h1 h2 h3] at h; cases h
    ·rw [mst_var h1 h2 h3] at h
     have hl' : (s.set (vr x) (subL sg t k)).length = 24 := by rw [List.length_set]; exact hl
     obtain ⟨⟨rest, e⟩, hv⟩ := ih h hl' hr
     obtain ⟨_, e2⟩ := mst_ext h hl' hr
     obtain ⟨l1, l2, l3⟩ := sub_len1 hok (show k < t.length by omega)
     have hpos := (sub_term hok (show k < t.length by omega)).2.2.2
     have hg : (s.set (vr x) (subL sg t k)).getD (vr x) [] = subL sg t k := by rw [set_get, if_pos ⟨rfl, by rw [hl]; exact vr_lt h2 hx0⟩]
     have hgx : s'.getD (vr x) [] = subL sg t k := by rw [e2 (vr x) (by rw [hg]; omega), hg]
     refine ⟨⟨rest, ?_⟩, fun y hy h0 => ?_⟩
     ·rw [l2, e, fill_cons, rep_var (by omega), List.append_assoc]
      congr 1
      exact hgx.symm
     ·rcases List.mem_cons.1 hy with rfl | hy
      ·rw [hgx]; exact l3
      ·exact hv y hy h0
theorem mst_full {sg t : List Int} {L : Nat → List Int} : ∀ {p : List Int} {k : Nat} {s : List (List Int)} {rest : List Int}, t.drop k = fillL L p ++ rest → s.length = 24 → (∀ x ∈ p, -24 ≤ x) → (∀ x ∈ p, x < 0 → scan sg 1 (L (vr x)) = some (L (vr x)).length) → (∀ i, (s.getD i []).length ≠ 0 → s.getD i [] = L i) →
  ∃ s', mst sg t p k s = some s' ∧ (∀ i, (s'.getD i []).length ≠ 0 → s'.getD i [] = L i) ∧ ∀ x ∈ p, x < 0 → s'.getD (vr x) [] = L (vr x) := by
 intro p
 induction p with
 | nil => intro k s rest _ _ _ _ hc; exact ⟨s, rfl, hc, fun x hx => absurd hx (List.not_mem_nil)⟩
 | cons x r ih =>
  intro k s rest h hl hx hL hc
  have hr : ∀ y ∈ r, -24 ≤ y := fun y hy => hx y (List.mem_cons_of_mem _ hy)
  have hLr : ∀ y ∈ r, y < 0 → scan sg 1 (L (vr y)) = some (L (vr y)).length := fun y hy => hL y (List.mem_cons_of_mem _ hy)
  have hx0 : -24 ≤ x := hx x (List.mem_cons_self ..)
  rw [fill_cons, List.append_assoc] at h
  by_cases h2 : 0 ≤ x
  ·rw [rep_sym h2] at h
   have hk : k < t.length := by
    by_cases hk : k < t.length
    ·exact hk
    ·rw [List.drop_eq_nil_of_le (by omega)] at h; cases h
   rw [drop_cons hk] at h
   injection h with e1 e2
   obtain ⟨s', m1, m2, m3⟩ := ih e2 hl hr hLr hc
   exact ⟨s', by rw [mst_sym (by omega) h2 e1.symm]; exact m1, m2, fun y hy h0 => by
    rcases List.mem_cons.1 hy with rfl | hy
    ·omega
    ·exact m3 y hy h0⟩
  ·rw [rep_var (by omega)] at h
   change t.drop k = L (vr x) ++ (fillL L r ++ rest) at h
   have hsc := hL x (List.mem_cons_self ..) (by omega)
   have hpos := scan_pos (q := 0) hsc
   have hk : k < t.length := by
    by_cases hk : k < t.length
    ·exact hk
    ·rw [List.drop_eq_nil_of_le (by omega)] at h
     have := congrArg List.length h
     simp only [List.length_nil, List.length_append] at this
     omega
   have hsub : subL sg t k = L (vr x) := by
    unfold subL
    have e : len1 sg t k = (L (vr x)).length := len1_eq (by rw [h]; exact scan_append hsc)
    rw [e, h, List.take_left' rfl]
   have hnext : t.drop (k + (subL sg t k).length) = fillL L r ++ rest := by rw [← List.drop_drop, h, hsub, List.drop_left' rfl]
   have hno : ¬ ((s.getD (vr x) []).length ≠ 0 ∧ s.getD (vr x) [] ≠ subL sg t k) := fun ⟨g1, g2⟩ => g2 (by rw [hsub]; exact hc _ g1)
   have hl' : (s.set (vr x) (subL sg t k)).length = 24 := by rw [List.length_set]; exact hl
   obtain ⟨s', m1, m2, m3⟩ := ih hnext hl' hr hLr (fun i hi => by
    rw [set_get] at hi ⊢
    split
    ·rename_i hcc; rw [hsub, ← hcc.1]
    ·rename_i hcc; rw [if_neg hcc] at hi; exact hc i hi)
   refine ⟨s', by rw [mst_var (by omega) h2 hno]; exact m1, m2, fun y hy h0 => ?_⟩
   rcases List.mem_cons.1 hy with rfl | hy
   ·have hg : (s.set (vr y) (subL sg t k)).getD (vr y) [] = L (vr y) := by rw [set_get, if_pos ⟨rfl, by rw [hl]; exact vr_lt h2 hx0⟩, hsub]
    rw [(mst_ext m1 hl' hr).2 (vr y) (by rw [hg]; omega), hg]
   ·exact m3 y hy h0
def s0 : List (List Int) := List.replicate 24 []
theorem s0_get (i : Nat) : s0.getD i [] = [] := by
 unfold s0
 rw [List.getD_eq_getElem?_getD, List.getElem?_replicate]
 split <;> rfl
def matchO (sg p t : List Int) : Option (List (List Int)) := if (termOkB sg p && termOkB sg t) = true then mst sg t p 0 s0 else none
def instB (sg p t : List Int) : Bool := (matchO sg p t).isSome
theorem match_yes {sg p t : List Int} (h1 : termOkB sg p = true) (h2 : termOkB sg t = true) : matchO sg p t = mst sg t p 0 s0 := by unfold matchO; rw [if_pos (by rw [h1, h2]; rfl)]
theorem match_no {sg p t : List Int} (h : termOkB sg p = false ∨ termOkB sg t = false) : matchO sg p t = none := by
 unfold matchO
 rw [if_neg]
 rcases h with h | h <;> rw [h] <;> simp
theorem inst_no {sg p t : List Int} (h : termOkB sg p = false ∨ termOkB sg t = false) : instB sg p t = false := by unfold instB; rw [match_no h]; rfl
theorem inst_ok {sg p t : List Int} (h : instB sg p t = true) : termOkB sg p = true ∧ termOkB sg t = true := by
 cases h1 : termOkB sg p with
 | false => rw [inst_no (.inl h1)] at h; cases h
 | true =>
  cases h2 : termOkB sg t with
  | false => rw [inst_no (.inr h2)] at h; cases h
  | true => exact ⟨rfl, rfl⟩
def Turns (sg p t : List Int) (L : Nat → List Int) : Prop := fillL L p = t ∧ ∀ x ∈ p, x < 0 → scan sg 1 (L (vr x)) = some (L (vr x)).length
theorem match_turns {sg p t : List Int} {s' : List (List Int)} (h : matchO sg p t = some s') : s'.length = 24 ∧ Turns sg p t (fun i => s'.getD i []) := by
 have h12 : termOkB sg p = true ∧ termOkB sg t = true := inst_ok (by unfold instB; rw [h]; rfl)
 obtain ⟨h1, h2⟩ := h12
 rw [match_yes h1 h2] at h
 have hx : ∀ x ∈ p, -24 ≤ x := fun x hx => (term_mem h1 hx).1
 obtain ⟨⟨rest, e⟩, hv⟩ := mst_sound h2 h (by rfl) hx
 refine ⟨(mst_ext h (by rfl) hx).1, ?_, hv⟩
 rw [List.drop_zero] at e
 have hs := scan_fill (L := fun i => s'.getD i []) (term_parts h1).2.2 hv
 have hs2 := scan_append (r := rest) hs
 rw [← e, (term_parts h2).2.2] at hs2
 injection hs2 with hs2
 have hl := congrArg List.length e
 rw [List.length_append] at hl
 have hr : rest = [] := List.eq_nil_of_length_eq_zero (by omega)
 rw [e, hr, List.append_nil]
theorem turns_match {sg p t : List Int} {L : Nat → List Int} (h1 : termOkB sg p = true) (h2 : termOkB sg t = true) (h : Turns sg p t L) : ∃ s', matchO sg p t = some s' ∧ ∀ x ∈ p, x < 0 → s'.getD (vr x) [] = L (vr x) := by
 rw [match_yes h1 h2]
 obtain ⟨s', m1, _, m3⟩ := mst_full (sg := sg) (t := t) (L := L) (p := p) (k := 0) (s := s0) (rest := []) (by rw [List.drop_zero, List.append_nil, h.1]) (by rfl) (fun x hx => (term_mem h1 hx).1) h.2 (fun i hi => by rw [s0_get] at hi; exact absurd rfl hi)
 exact ⟨s', m1, m3⟩
theorem inst_iff {sg p t : List Int} (h1 : termOkB sg p = true) (h2 : termOkB sg t = true) : instB sg p t = true ↔ ∃ L, Turns sg p t L := by
 constructor
 ·intro h
  unfold instB at h
  obtain ⟨s', hs⟩ := Option.isSome_iff_exists.1 h
  exact ⟨_, (match_turns hs).2⟩
 ·rintro ⟨L, h⟩
  obtain ⟨s', hs, _⟩ := turns_match h1 h2 h
  unfold instB
  rw [hs]; rfl
end matchMath
end
section
namespace stepMath
open sig term termOk termFacts fillMath gives endAt sub matchMath termMath posMath putMath ruleMath
def putAt (sg t u : List Int) (a : Nat) : List Int := putL t a (len1 sg t a) u
def stepO (sg : List Int) (x : Rl) (t : List Int) (a : Nat) : Option (List Int) :=
 match mst sg (subL sg t a) x.1 0 s0 with
 | none => none
 | some ss => if (fillL (givesL ss) x.2).length ≤ 60 ∧ (putAt sg t (fillL (givesL ss) x.2) a).length ≤ 60 then some (putAt sg t (fillL (givesL ss) x.2) a) else none
def redB (sg : List Int) (x : Rl) (t : List Int) (a : Nat) : Bool := (mst sg (subL sg t a) x.1 0 s0).isSome
theorem sub_ok {sg t : List Int} (h : termOkB sg t = true) {a : Nat} (ha : a < t.length) : termOkB sg (subL sg t a) = true := by
 obtain ⟨h1, h2, h3⟩ := term_parts h
 obtain ⟨e1, e2, e3⟩ := sub_len1 h ha
 have h4 := term_at h ha
 exact term_mk h1 (by omega) e3
theorem gives_of {sg l s : List Int} {ss : List (List Int)} (h1 : termOkB sg l = true) (h2 : termOkB sg s = true) (h : mst sg s l 0 s0 = some ss) : Turns sg l s (givesL ss) ∧ ∀ x ∈ l, x < 0 → givesL ss (vr x) = ss.getD (vr x) [] := by
 have hm : matchO sg l s = some ss := by rw [match_yes h1 h2]; exact h
 obtain ⟨e, t1, t2⟩ := match_turns hm
 have hg : ∀ x ∈ l, x < 0 → givesL ss (vr x) = ss.getD (vr x) [] := fun x hx h0 => by
  have this : scan sg 1 (ss.getD (vr x) []) = some (ss.getD (vr x) []).length := t2 x hx h0
  unfold givesL
  rw [if_neg ?_]
  intro e0
  have e1 : ss.getD (vr x) [] = [] := List.length_eq_zero_iff.1 e0
  rw [e1] at this
  exact absurd this (by simp [scan])
 refine ⟨⟨?_, fun x hx h0 => by rw [hg x hx h0]; exact t2 x hx h0⟩, hg⟩
 rw [fill_ext (L' := fun i => ss.getD i []) (fun x hx h0 => hg x hx h0)]
 exact t1
theorem step_iff {sg : List Int} {x : Rl} {t v : List Int} {a : Nat} (hx : ruleOkB sg x = true) (ht : termOkB sg t = true) (ha : a < t.length) :
  stepO sg x t a = some v ↔ ∃ L, Turns sg x.1 (subL sg t a) L ∧ v = putAt sg t (fillL L x.2) a ∧ (fillL L x.2).length ≤ 60 ∧ v.length ≤ 60 := by
 obtain ⟨h1, h2, h3, h4⟩ := rule_parts hx
 have hs := sub_ok ht ha
 constructor
 ·intro h
  unfold stepO at h
  cases hm : mst sg (subL sg t a) x.1 0 s0 with
  | none => rw [hm] at h; cases h
  | some ss =>
   rw [hm] at h
   dsimp only at h
   split at h
   ·rename_i hf
    injection h with h
    subst h
    exact ⟨_, (gives_of h1 hs hm).1, rfl, hf.1, hf.2⟩
   ·cases h
 ·rintro ⟨L, hL, rfl, hf, hv⟩
  obtain ⟨ss, hm, hg⟩ := turns_match h1 hs hL
  rw [match_yes h1 hs] at hm
  have g := gives_of h1 hs hm
  have e : fillL (givesL ss) x.2 = fillL L x.2 := fill_ext (fun y hy h0 => by
   have hy1 := h4 y hy h0
   show givesL ss (vr y) = L (vr y)
   rw [g.2 y hy1 h0]
   exact hg y hy1 h0)
  unfold stepO
  rw [hm]
  dsimp only
  rw [e, if_pos ⟨hf, hv⟩]
theorem step_ok {sg : List Int} {x : Rl} {t v : List Int} {a : Nat} (hx : ruleOkB sg x = true) (ht : termOkB sg t = true) (ha : a < t.length) (h : stepO sg x t a = some v) : termOkB sg v = true := by
 obtain ⟨L, hL, rfl, hf, hv⟩ := (step_iff hx ht ha).1 h
 obtain ⟨h1, h2, h3, h4⟩ := rule_parts hx
 obtain ⟨s1, s2, s3⟩ := term_parts ht
 exact put_term ht (term_mk s1 hf (scan_fill (term_parts h2).2.2 (fun y hy h0 => hL.2 y (h4 y hy h0) h0))) ha hv
end stepMath
end
end Go.Proofs.YtmoidijngeijkaaGreat
