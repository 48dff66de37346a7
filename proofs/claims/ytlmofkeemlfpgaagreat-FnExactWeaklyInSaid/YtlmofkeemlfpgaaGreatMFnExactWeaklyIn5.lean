/-
  MERGED: my texts HeldT, StepImpl, AnyR, RuleImpl, RuleImplB, StepImplB, PathSpec, WayTo, Place, PeakMath, KindsP, PeakSame, StepsMath, OwnL, StepSpecB, PeakSpec, TrySpec, OverSpec, OvsMath, RenPure, PkMath, PkVars, one behind the other, as they are. By an AI agent.
-/
import Derived.Test.YtlmofkeemlfpgaaGreatMFnExactWeaklyIn4
import Derived.OrdersHeld
import Derived.Deep.RegionHeld
import Derived.Deep.WholeRow
import Derived.Shelf.Abstract
import Derived.Deep.LoopGhost
import Derived.Deep.RegionHeld3
namespace Go.Proofs.YtlmofkeemlfpgaaGreat
section
namespace heldT
section
variable {P : Program} {md : Region.Mode} {ops : Array Oper} {Q : Exit → Act → World → Prop} {S : World → Prop} {late : Nat → Bool}
def AnyT (P : Program) (md : Region.Mode) (ops : Array Oper) (Q : Exit → Act → World → Prop) (S : World → Prop) (late : Nat → Bool) : Nat → Array Bool → Act → World → Prop
 | 0, listed, a, w => Region.ready md ops listed = [] ∧ Q .normal a w
 | fuel + 1, listed, a, w => (Region.ready md ops listed = [] → Q .normal a w) ∧
  ∀ i ∈ Region.ready md ops listed, wpOp P ops Q i (fun a' w' => (late i = false → S w → S w') ∧ AnyT P md ops Q S late fuel (listed.setIfInBounds i true) a' w') a w
theorem AnyT.any : ∀ (fuel : Nat) (listed : Array Bool) (a : Act) (w : World), AnyT P md ops Q S late fuel listed a w → wpAny P md ops Q fuel listed a w
 | 0, _, _, _, h => h
 | fuel + 1, _, _, _, h => ⟨h.1, fun i hi => wpOp_mono (fun a' w' h' => AnyT.any fuel _ a' w' h'.2) (h.2 i hi)⟩
def Waits (md : Region.Mode) (ops : Array Oper) (late : Nat → Bool) (listed : Array Bool) (i : Nat) : Prop :=
 ∀ j o, ops[j]? = some o → late j = true → listed.getD j true = false → ∃ e ∈ o.after, Region.binds md e = true ∧ e.on = i
def waitsB (md : Region.Mode) (ops : Array Oper) (late : Nat → Bool) (listed : Array Bool) (i : Nat) : Bool :=
 (List.range ops.size).all fun j => !late j || listed.getD j true || ((ops[j]?).map fun o => o.after.any fun e => Region.binds md e && e.on == i).getD false
theorem waits_of {listed : Array Bool} {i : Nat} (h : waitsB md ops late listed i = true) : Waits md ops late listed i := by
 intro j o ho hl hu
 have hj : j < ops.size := by
  rcases Nat.lt_or_ge j ops.size with h' | h'
  ·exact h'
  ·rw [Array.getElem?_eq_none h'] at ho; cases ho
 have := List.all_eq_true.1 h j (List.mem_range.2 hj)
 rw [hl, hu, ho] at this
 simp only [Bool.not_true, Bool.false_or, Option.map_some, Option.getD_some, Array.any_eq_true', Bool.and_eq_true, beq_iff_eq] at this
 exact this
theorem AnyT.first {i : Nat} {oi : Oper} {v : Value} (hi : ops[i]? = some oi) (hsel : ∀ (j : Nat) (o : Oper) cs b, ops[j]? = some o → o.op ≠ .select cs b) (hQ : ∀ c a w, Q (.panic c) (a.put oi.dst v) w → Q (.panic c) a w) :
  ∀ (fuel : Nat) (listed : Array Bool) (a : Act) (w : World),
   (∀ j oj, ops[j]? = some oj → j ≠ i → listed.getD j true = false → (∀ e ∈ oj.after, Region.binds md e = true → e.on ≠ i) → oi.apart ops oj = true) → Waits md ops late listed i →
   i ∈ Region.ready md ops listed → YieldsIf P ops S oi v a → S w → AnyT P md ops Q S late fuel (listed.setIfInBounds i true) (a.put oi.dst v) w → AnyT P md ops Q S late (fuel + 1) listed a w := by
 intro fuel
 induction fuel with
 | zero =>
  intro listed a w _ _ hr hy hS H
  refine ⟨fun h => (by rw [h] at hr; cases hr), fun j hj => ?_⟩
  rcases Classical.em (j = i) with e | e
  ·subst e; exact hy.wpOp hi hS ⟨fun _ h => h, H⟩
  ·have := ready_mono hj e
   rw [H.1] at this
   cases this
 | succ fuel ih =>
  intro listed a w hfree hwait hr hy hS H
  refine ⟨fun h => (by rw [h] at hr; cases hr), fun j hj => ?_⟩
  rcases Classical.em (j = i) with e | hji
  ·subst e; exact hy.wpOp hi hS ⟨fun _ h => h, H⟩
  have h1 := H.2 j (ready_mono hj hji)
  obtain ⟨hjun, oj, hoj, hall⟩ := mem_ready.1 hj
  have h0 := (mem_ready.1 hr).1
  have hnot : ∀ e ∈ oj.after, Region.binds md e = true → e.on ≠ i := fun e he hb heq => by
   have h1 := hall e he hb
   rw [heq] at h1
   rcases Nat.lt_or_ge i listed.size with h' | h'
   ·simp [h'] at h0 h1; rw [h0] at h1; cases h1
   ·simp [Array.getElem?_eq_none h'] at h1
  have hlj : late j = false := by
   cases e : late j with
   | false => rfl
   | true =>
    obtain ⟨x, hx, hb, ho⟩ := hwait j oj hoj e hjun
    exact absurd ho (hnot x hx hb)
  have far : ∀ {k : Nat}, j ≠ k → (listed.setIfInBounds j true).getD k true = false → listed.getD k true = false := fun hjk h => by rwa [getD_set_ne true hjk] at h
  have same : ∀ {k : Nat}, k = j → listed.getD k true = false := fun e => by rw [e]; exact hjun
  have un : ∀ (k : Nat), (listed.setIfInBounds j true).getD k true = false → listed.getD k true = false := fun k h => by
   rcases Classical.em (k = j) with e | e
   ·exact same e
   ·exact far (fun e' => e e'.symm) h
  have h2 := wpOp_putIf hoj (hfree j oj hoj hji hjun hnot) (fun cs b => hsel i oi cs b hi) (fun cs b => hsel j oj cs b hoj) hQ hy h1
  refine wpOp_mono (fun a' w' h3 => ⟨h3.2.1, ih (listed.setIfInBounds j true) a' w' (fun k ok hk hki hun hno => hfree k ok hk hki (un k hun) hno) (fun k o hk hl hu => hwait k o hk hl (un k hu)) (ready_mono hr (Ne.symm hji)) h3.1 (h3.2.1 hlj hS) ?_⟩) h2
  rw [Array.setIfInBounds_comm _ _ hji]
  exact h3.2.2
theorem AnyT.take {i : Nat} {oi : Oper} {v : Value} {fuel : Nat} {listed : Array Bool} {a : Act} {w : World} (hi : ops[i]? = some oi) (hs : Region.noSelect ops = true) (hf : Region.free md ops listed i = true) (hw : waitsB md ops late listed i = true) (hr : (Region.ready md ops listed).contains i = true)
  (hQ : ∀ c a w, Q (.panic c) (a.put oi.dst v) w → Q (.panic c) a w) (hy : YieldsIf P ops S oi v a) (hS : S w) (h : AnyT P md ops Q S late fuel (listed.setIfInBounds i true) (a.put oi.dst v) w) : AnyT P md ops Q S late (fuel + 1) listed a w :=
 AnyT.first hi (Region.noSelect_spec hs) hQ fuel listed a w (Region.free_spec hi hf) (waits_of hw) (by simpa using hr) hy hS h
theorem AnyT.firstA {i : Nat} {oi : Oper} {v : Value} (hi : ops[i]? = some oi) (hsel : ∀ (j : Nat) (o : Oper) cs b, ops[j]? = some o → o.op ≠ .select cs b) (hQ : ∀ c a w, Q (.panic c) (a.put oi.dst v) w → Q (.panic c) a w) :
  ∀ (fuel : Nat) (listed : Array Bool) (a : Act) (w : World),
   (∀ j oj, ops[j]? = some oj → j ≠ i → listed.getD j true = false → (∀ e ∈ oj.after, Region.binds md e = true → e.on ≠ i) → oi.apart ops oj = true) →
   i ∈ Region.ready md ops listed → YieldsIf P ops (fun _ => True) oi v a → AnyT P md ops Q S late fuel (listed.setIfInBounds i true) (a.put oi.dst v) w → AnyT P md ops Q S late (fuel + 1) listed a w := by
 intro fuel
 induction fuel with
 | zero =>
  intro listed a w _ hr hy H
  refine ⟨fun h => (by rw [h] at hr; cases hr), fun j hj => ?_⟩
  rcases Classical.em (j = i) with e | e
  ·subst e; exact hy.wpOp hi trivial ⟨fun _ h => h, H⟩
  ·have := ready_mono hj e
   rw [H.1] at this
   cases this
 | succ fuel ih =>
  intro listed a w hfree hr hy H
  refine ⟨fun h => (by rw [h] at hr; cases hr), fun j hj => ?_⟩
  rcases Classical.em (j = i) with e | hji
  ·subst e; exact hy.wpOp hi trivial ⟨fun _ h => h, H⟩
  have h1 := H.2 j (ready_mono hj hji)
  obtain ⟨hjun, oj, hoj, hall⟩ := mem_ready.1 hj
  have h0 := (mem_ready.1 hr).1
  have hnot : ∀ e ∈ oj.after, Region.binds md e = true → e.on ≠ i := fun e he hb heq => by
   have h1 := hall e he hb
   rw [heq] at h1
   rcases Nat.lt_or_ge i listed.size with h' | h'
   ·simp [h'] at h0 h1; rw [h0] at h1; cases h1
   ·simp [Array.getElem?_eq_none h'] at h1
  have un : ∀ (k : Nat), (listed.setIfInBounds j true).getD k true = false → listed.getD k true = false := fun k h => by
   rcases Classical.em (k = j) with e | e
   ·rw [e]; exact hjun
   ·rwa [getD_set_ne true (fun e' => e e'.symm)] at h
  have h2 := wpOp_putIf hoj (hfree j oj hoj hji hjun hnot) (fun cs b => hsel i oi cs b hi) (fun cs b => hsel j oj cs b hoj) hQ hy h1
  refine wpOp_mono (fun a' w' h3 => ⟨h3.2.1, ih (listed.setIfInBounds j true) a' w' (fun k ok hk hki hun hno => hfree k ok hk hki (un k hun) hno) (ready_mono hr (Ne.symm hji)) h3.1 ?_⟩) h2
  rw [Array.setIfInBounds_comm _ _ hji]
  exact h3.2.2
theorem AnyT.takeA {i : Nat} {oi : Oper} {v : Value} {fuel : Nat} {listed : Array Bool} {a : Act} {w : World} (hi : ops[i]? = some oi) (hs : Region.noSelect ops = true) (hf : Region.free md ops listed i = true) (hr : (Region.ready md ops listed).contains i = true)
  (hQ : ∀ c a w, Q (.panic c) (a.put oi.dst v) w → Q (.panic c) a w) (hy : YieldsIf P ops (fun _ => True) oi v a) (h : AnyT P md ops Q S late fuel (listed.setIfInBounds i true) (a.put oi.dst v) w) : AnyT P md ops Q S late (fuel + 1) listed a w :=
 AnyT.firstA hi (Region.noSelect_spec hs) hQ fuel listed a w (Region.free_spec hi hf) (by simpa using hr) hy h
theorem AnyT.call {i : Nat} {o : Oper} {fuel : Nat} {listed : Array Bool} {a : Act} {w : World} (hr : Region.ready md ops listed = [i]) (ho : ops[i]? = some o)
  (h : ∀ K' : Act → World → Prop, Shut (∀ a w', (late i = false → S w → S w') → ((late i = false → S w → S w') → AnyT P md ops Q S late fuel (listed.setIfInBounds i true) a w') → K' a w') → if Region.wanted o (yielded ops a.tmps) = true then Oper.wp P o a w K' Q else K' (a.put o.dst undef) w) : AnyT P md ops Q S late (fuel + 1) listed a w :=
 ⟨fun h0 => absurd (hr ▸ h0) (by simp), fun j hj => by
  rw [hr, List.mem_singleton] at hj
  subst hj
  exact wpOp_step ho (fun K' hK => h K' (fun a w' hS hW => hK a w' ⟨hS, hW hS⟩))⟩
theorem AnyT.done {listed : Array Bool} {a : Act} {w : World} (hr : Region.ready md ops listed = []) (h : Q .normal a w) : ∀ fuel, AnyT P md ops Q S late fuel listed a w
 | 0 => ⟨hr, h⟩
 | _ + 1 => ⟨fun _ => h, by rw [hr]; simp⟩
theorem AnyT.start {id : Nat} {a : Act} {w : World} (late : Nat → Bool) (hm : P.follows .mixedOrders = true) (hS : S w.drew) (h : S w.drew → AnyT P .any ops Q S late ops.size (Array.replicate ops.size false) a w.drew) : (Code.region id ops true).wp P Q a w :=
 wp_region_any hm (AnyT.any _ _ _ _ (h hS))
end
end heldT
end
section
namespace stepImpl
open Go.RowKit base ints sig term termOk endAt marks app sym sub segs segsHelp kinds termFacts termMath posMath plainMath gives fillMath matchMath matchSpec whole takeMath take extended varsOf shape kindsR ruleMath ruleSpec stepMath walkMath stepSpec heldT
set_option maxRecDepth 100000
end stepImpl
end
section
open Go.Lib (hid)
namespace anyR
open Go.RowKit base ints sig segs varsOf shape kindsR ruleMath
set_option maxRecDepth 100000
theorem any_of {α : Type} [Inhabited α] {f : α → Bool} {xs : List α} {k : Nat} {x z : α} (hk : k < xs.length) (ex : xs.getD k z = x) (h : f x = true) : xs.any f = true := by
 rw [List.any_eq_true]
 refine ⟨xs[k], List.getElem_mem hk, ?_⟩
 have : xs.getD k z = xs[k] := by simp [List.getD, hk]
 rw [← this, ex]; exact h
theorem none_of {α : Type} {f : α → Bool} {xs : List α} {z : α} (h : ∀ j, j < xs.length → f (xs.getD j z) = false) : xs.any f = false := by
 rw [List.any_eq_false]
 intro x hx
 obtain ⟨i, hi, rfl⟩ := List.getElem_of_mem hx
 have := h i hi
 simpa [List.getD, hi] using this
theorem mem_at {α : Type} {xs : List α} {k : Nat} {x z : α} (hk : k < xs.length) (ex : xs.getD k z = x) : x ∈ xs := by
 have : xs.getD k z = xs[k] := by simp [List.getD, hk]
 rw [← ex, this]; exact List.getElem_mem hk
def TestsI (g : Nat) (fa lb : Array Value) (w : World) (xs : List Int) (f : Int → Bool) : Prop := ∀ (W : World) (x : Int), Below w.heap.size w W → x ∈ xs → Calls Tryz.prog g (fa ++ #[.int .i64 x] ++ lb) W (AnsB W (f x))
def AnsIxI (w : World) (f : Int → Bool) (xs : List Int) (e : Ending) (w' : World) : Prop := ∃ z : Int, e = .returned (.int .i64 z) ∧ -1 ≤ z ∧ z ≤ 1048576 ∧ decide (0 ≤ z) = xs.any f ∧ Below w.heap.size w w'
def HeadIxI (w : World) (n : Nat) (f : Int → Bool) (xs : List Int) (i : Value) (wr : World) : Prop := ∃ k : Nat, k ≤ n ∧ i = .int .i64 k ∧ (∀ j, j < k → f (xs.getD j 0) = false) ∧ Below w.heap.size w wr
set_option maxHeartbeats 2000000 in
theorem indexFuncI (g : Nat) (fa lb : Array Value) (eg : ∀ args w, (callFunc g args).run Tryz.prog w = .ok (.enter g args) w) (f : Int → Bool) (A : Option Addr) (n c : Nat) (xs : List Int) (w : World) (hT : TestsI g fa lb w xs f)
  (h : Rd w w.heap.size sI [.slice A n c] xs) (hl : xs.length = n) (hn : n ≤ 1048576) :
  Calls Tryz.prog 153 #[.slice A n c, .func (.func g) fa lb] w (AnsIxI w f xs) := by
 have HL := hid hl
 have HK := hid hT
 have HR := hid h
 have HH : Hid (HeadIxI w n f xs (.int .i64 0) w) := hid ⟨0, Nat.zero_le _, rfl, fun j hj => absurd hj (Nat.not_lt_zero _), Below.refl _ _⟩
 clear hT h hl
 go_enter Tryz.func153, Tryz.ntmps153
 go_wp2_with fail
 go_loopw [8] (fun i wr => HeadIxI w n f xs i wr) (fun i _ => n - (intOf i).toNat)
 case atStart => exact HH.out
 case round =>
  obtain ⟨k, hk, rfl, hlow, hb⟩ := hrel
  have HLOW := hid hlow
  clear hlow HH
  by_cases hlt : k < n
  ·have hkD : k < xs.length := by rw [HL.out]; exact hlt
   obtain ⟨b, off, x, rfl, hbB, hx0, ex⟩ := HR.out.seg.spot hlt
   have hx : wr.cell? ⟨b, off + k, none⟩ = some (.int .i64 x) := (hb.cell (p := ⟨b, off + k, none⟩) hbB).trans hx0
   have hcall := HK.out wr x hb (mem_at hkD ex.out)
   obtain ⟨v, hv⟩ : ∃ v, f x = v := ⟨_, rfl⟩
   rw [hv] at hcall
   have HV := hid hv
   have HC := hid hcall
   have i0 : (0 : Int) ≤ (k : Int) := by omega
   have i1 : (k : Int) < (n : Int) := by omega
   clear hv hcall
   cases v with
   | true =>
    go_wp2_with (first
     | (go_at_fn g; refine HC.out.mono ?_; rintro e w1 ⟨rfl, bb⟩))
    have F : AnsIxI w f xs (.returned (.int .i64 (k : Int))) w1 := ⟨k, rfl, by omega, by omega, by rw [decide_eq_true (by omega)]; exact (any_of hkD ex.out HV.out).symm, next_trans hb bb⟩
    have HF := hid F
    clear F bb hb HC
    go_wp2
    go_ret
    exact HF.out
   | false =>
    go_wp2_with (first
     | (go_at_fn g; refine HC.out.mono ?_; rintro e w1 ⟨rfl, bb⟩))
    have S1 : HeadIxI w n f xs (.int .i64 ((k : Int) + 1)) w1 := ⟨k + 1, hlt, by simp, fun j hj => by
     by_cases e : j = k
     ·rw [e, ex.out]; exact HV.out
     ·exact HLOW.out j (by omega), next_trans hb bb⟩
    have HS1 := hid S1
    clear S1 bb hb HC
    go_wp2
    go_roundw
    case rel => exact HS1.out
    case measure => simp [intOf]; omega
  ·have F : AnsIxI w f xs (.returned (.int .i64 (-1))) wr := ⟨-1, rfl, by omega, by omega, (none_of (fun j hj => HLOW.out j (by rw [HL.out] at hj; omega))).symm, hb⟩
   have HF := hid F
   clear F hb
   go_wp2
   go_ret
   exact HF.out
theorem containsFuncI (g : Nat) (fa lb : Array Value) (eg : ∀ args w, (callFunc g args).run Tryz.prog w = .ok (.enter g args) w) (f : Int → Bool) (A : Option Addr) (n c : Nat) (xs : List Int) (w : World) (hT : TestsI g fa lb w xs f)
  (h : Rd w w.heap.size sI [.slice A n c] xs) (hl : xs.length = n) (hn : n ≤ 1048576) :
  Calls Tryz.prog 123 #[.slice A n c, .func (.func g) fa lb] w (AnsB w (xs.any f)) := by
 have L := hid (indexFuncI g fa lb eg f A n c xs w hT h hl hn)
 clear h hl hT
 go_enter Tryz.func123, Tryz.ntmps123
 go_wp2_with fail
 refine L.out.mono ?_
 rintro e w' ⟨z, rfl, h1, h2, hz, bb⟩
 have HZ := hid hz
 have HB := hid bb
 clear hz L bb
 go_wp2
 go_ret
 exact ⟨by rw [← HZ.out]; rfl, HB.out⟩
def TestsRule (g : Nat) (fa lb : Array Value) (w : World) (xs : List (Dat sRule)) (f : Dat sRule → Bool) : Prop := ∀ (W : World) (l r : Value) (x : Dat sRule), Below w.heap.size w W → x ∈ xs → Rd W W.heap.size sRule [l, r] x → Calls Tryz.prog g (fa ++ #[.agg #[l, r]] ++ lb) W (AnsB W (f x))
def AnsIxRule (w : World) (f : Dat sRule → Bool) (xs : List (Dat sRule)) (e : Ending) (w' : World) : Prop := ∃ z : Int, e = .returned (.int .i64 z) ∧ -1 ≤ z ∧ z ≤ 1048576 ∧ decide (0 ≤ z) = xs.any f ∧ Below w.heap.size w w'
def HeadIxRule (w : World) (n : Nat) (f : Dat sRule → Bool) (xs : List (Dat sRule)) (i : Value) (wr : World) : Prop := ∃ k : Nat, k ≤ n ∧ i = .int .i64 k ∧ (∀ j, j < k → f (xs.getD j (dft sRule)) = false) ∧ Below w.heap.size w wr
set_option maxHeartbeats 2000000 in
theorem indexFuncRule (g : Nat) (fa lb : Array Value) (eg : ∀ args w, (callFunc g args).run Tryz.prog w = .ok (.enter g args) w) (f : Dat sRule → Bool) (A : Option Addr) (n c : Nat) (xs : List (Dat sRule)) (w : World) (hT : TestsRule g fa lb w xs f)
  (h : Rd w w.heap.size sRuleS [.slice A n c] xs) (hl : xs.length = n) (hn : n ≤ 1048576) :
  Calls Tryz.prog 148 #[.slice A n c, .func (.func g) fa lb] w (AnsIxRule w f xs) := by
 have HL := hid hl
 have HK := hid hT
 have HR := hid h
 have HH : Hid (HeadIxRule w n f xs (.int .i64 0) w) := hid ⟨0, Nat.zero_le _, rfl, fun j hj => absurd hj (Nat.not_lt_zero _), Below.refl _ _⟩
 clear hT h hl
 go_enter Tryz.func148, Tryz.ntmps148
 go_wp2_with fail
 go_loopw [8] (fun i wr => HeadIxRule w n f xs i wr) (fun i _ => n - (intOf i).toNat)
 case atStart => exact HH.out
 case round =>
  obtain ⟨k, hk, rfl, hlow, hb⟩ := hrel
  have HLOW := hid hlow
  clear hlow HH
  by_cases hlt : k < n
  ·have hkD : k < xs.length := by rw [HL.out]; exact hlt
   obtain ⟨b, off, n2, c2, es, ev, -, -, hbB, hel, hp, hr⟩ := HR.out.elem hkD
   injection ev with e1 e2 e3
   subst e1 e2 e3
   obtain ⟨l, r, rfl⟩ := cells_Rule hr
   have hpw := hp.keep (w' := wr) (fun p hp => hb.cell (p := p) (by rw [hp]; exact hbB))
   have c0 : wr.cell? ⟨b, off + k * 2, none⟩ = some l := hpw 0 (by simp)
   have c1 : wr.cell? ⟨b, off + k * 2 + 1, none⟩ = some r := hpw 1 (by simp)
   obtain ⟨x, hx⟩ : ∃ x, xs.getD k (dft sRule) = x := ⟨_, rfl⟩
   have ex := hid hx
   rw [hx] at hr
   have hcall := HK.out wr l r x hb (mem_at hkD hx) ((hr.below hb).more hb.size)
   clear hpw hp hel hr
   clear hx
   obtain ⟨v, hv⟩ : ∃ v, f x = v := ⟨_, rfl⟩
   rw [hv] at hcall
   have HV := hid hv
   have HC := hid hcall
   have i0 : (0 : Int) ≤ (k : Int) := by omega
   have i1 : (k : Int) < (n : Int) := by omega
   clear hv hcall
   cases v with
   | true =>
    go_wp2_with (first
     | (go_at_fn g; refine HC.out.mono ?_; rintro e w1 ⟨rfl, bb⟩))
    have F : AnsIxRule w f xs (.returned (.int .i64 (k : Int))) w1 := ⟨k, rfl, by omega, by omega, by rw [decide_eq_true (by omega)]; exact (any_of hkD ex.out HV.out).symm, next_trans hb bb⟩
    have HF := hid F
    clear F bb hb HC
    go_wp2
    go_ret
    exact HF.out
   | false =>
    go_wp2_with (first
     | (go_at_fn g; refine HC.out.mono ?_; rintro e w1 ⟨rfl, bb⟩))
    have S1 : HeadIxRule w n f xs (.int .i64 ((k : Int) + 1)) w1 := ⟨k + 1, hlt, by simp, fun j hj => by
     by_cases e : j = k
     ·rw [e, ex.out]; exact HV.out
     ·exact HLOW.out j (by omega), next_trans hb bb⟩
    have HS1 := hid S1
    clear S1 bb hb HC
    go_wp2
    go_roundw
    case rel => exact HS1.out
    case measure => simp [intOf]; omega
  ·have F : AnsIxRule w f xs (.returned (.int .i64 (-1))) wr := ⟨-1, rfl, by omega, by omega, (none_of (fun j hj => HLOW.out j (by rw [HL.out] at hj; omega))).symm, hb⟩
   have HF := hid F
   clear F hb
   go_wp2
   go_ret
   exact HF.out
theorem containsFuncRule (g : Nat) (fa lb : Array Value) (eg : ∀ args w, (callFunc g args).run Tryz.prog w = .ok (.enter g args) w) (f : Dat sRule → Bool) (A : Option Addr) (n c : Nat) (xs : List (Dat sRule)) (w : World) (hT : TestsRule g fa lb w xs f)
  (h : Rd w w.heap.size sRuleS [.slice A n c] xs) (hl : xs.length = n) (hn : n ≤ 1048576) :
  Calls Tryz.prog 117 #[.slice A n c, .func (.func g) fa lb] w (AnsB w (xs.any f)) := by
 have L := hid (indexFuncRule g fa lb eg f A n c xs w hT h hl hn)
 clear h hl hT
 go_enter Tryz.func117, Tryz.ntmps117
 go_wp2_with fail
 refine L.out.mono ?_
 rintro e w' ⟨z, rfl, h1, h2, hz, bb⟩
 have HZ := hid hz
 have HB := hid bb
 clear hz L bb
 go_wp2
 go_ret
 exact ⟨by rw [← HZ.out]; rfl, HB.out⟩
end anyR
end
section
open Go.Lib (hid)
namespace ruleImpl
open Go.RowKit base ints sig term termOk marks app sym segs termFacts varsMath varsOf rename same count linear shape kindsR ruleMath ruleSpec anyR
set_option maxRecDepth 100000
theorem containsI (A : Option Addr) (n c : Nat) (xs : List Int) (x : Int) (w : World) (h : Seg w w.heap.size A n xs) (hn : n ≤ 1048576) :
  Calls Tryz.prog 122 #[.slice A n c, .int .i64 x] w fun e w' => w = w' ∧ e = .returned (.bool (decide (x ∈ xs))) := by
 have L := hid (indexOf A n c xs x w h hn)
 clear h
 go_enter Tryz.func122, Tryz.ntmps122
 go_wp2_with fail
 refine L.out.mono ?_
 rintro e w' ⟨rfl, rfl⟩
 have E : decide (0 ≤ indexI xs x) = decide (x ∈ xs) := decide_eq_decide.2 (by unfold indexI; split <;> simp_all)
 have HE := hid E
 clear L E
 generalize indexI xs x = z at *
 go_wp2
 go_ret
 exact ⟨rfl, by rw [← HE.out]; rfl⟩
set_option maxHeartbeats 1000000 in
theorem ruleNew (g : Nat) (A1 : Option Addr) (n1 c1 : Nat) (r : Value) (t : List Int) (x : Int) (W : World) (hr : Row W g 69 #[.slice A1 n1 c1, r]) (h : Seg W W.heap.size A1 n1 t) (hn : n1 ≤ 1048576) :
  Calls Tryz.prog 121 #[.int .i64 x, .pointer (some ⟨g, 0, none⟩)] W (AnsB W (newB t x)) := by
 have L := hid (containsI A1 n1 c1 t x W h hn)
 have c0 : W.cell? ⟨g, 0, none⟩ = some (.slice A1 n1 c1) := hr.cell 0
 clear h hr
 by_cases hx : x < 0
 ·have hd : decide (x < 0) = true := decide_eq_true hx
  have E : (!decide (x ∈ t)) = newB t x := by unfold newB; by_cases h : x ∈ t <;> simp [h, hx]
  have HE := hid E
  clear E
  go_enter Tryz.func121, Tryz.ntmps121
  go_wp2_with fail
  refine L.out.mono ?_
  rintro e w' ⟨rfl, rfl⟩
  have F : AnsB W (newB t x) (.returned (.bool (!decide (x ∈ t)))) W := ⟨by rw [HE.out], Below.refl _ _⟩
  have HF := hid F
  clear L F
  generalize decide (x ∈ t) = z at *
  go_wp2
  go_ret
  exact HF.out
 ·have hd : decide (x < 0) = false := decide_eq_false hx
  have F : AnsB W (newB t x) (.returned (.bool false)) W := ⟨by unfold newB; rw [decide_eq_false (fun h => hx h.1)], Below.refl _ _⟩
  have HF := hid F
  clear F L
  go_enter Tryz.func121, Tryz.ntmps121
  go_wp2
  go_ret
  exact HF.out
theorem rule_all {sg : List Int} {d : Rl} (h1 : termOkB sg d.1 = true) (h2 : termOkB sg d.2 = true) (h0 : ¬ hd d.1 < 0) : ruleOkB sg d = !d.2.any (newB d.1) := by
 unfold ruleOkB; rw [h1, h2, decide_eq_false h0]; rfl
set_option maxHeartbeats 4000000 in
theorem implRuleOk (a l r : Value) (sg : List Int) (d : Dat sRule) (w : World) (h : Rd w w.heap.size sI [a] sg) (h' : Rd w w.heap.size sRule [l, r] d) (hz : sz sI sg ≤ 1048576) (hz' : sz sRule d ≤ 1048576) :
  Calls Tryz.prog 88 #[.agg #[a], .agg #[l, r]] w (AnsB w (ruleOkB sg d)) := by
 have g1 := (parts_Rule h').2
 obtain ⟨A, n, c, rfl, hs, hc⟩ := rd_ints.1 h
 have hn := len_ints hs.1 hz
 obtain ⟨A1, n1, c1, A2, n2, c2, rfl, rfl, s1, k1, s2, k2, hn1, hn2⟩ := rd_rule h' hz'
 obtain ⟨W, hW, rA, rR, bel⟩ := box2 w 30 69 #[.slice A n c] #[.slice A1 n1 c1, .slice A2 n2 c2]
 have HW := hid hW
 have HL1 := hid s1.1
 have HL2 := hid s2.1
 have L1 := hid (implTermOk A A1 n c n1 c1 sg d.1 W (hs.next bel) (s1.next bel) hn hn1)
 have L2 := hid (fun (w1 : World) (bb : Below w.heap.size w w1) => implTermOk A A2 n c n2 c2 sg d.2 w1 (hs.next bb) (s2.next bb) hn hn2)
 have LC := hid (fun (w1 : World) (bb : Below w.heap.size w w1) (hr : Row w1 (w.heap.size + 1) 69 #[.slice A1 n1 c1, .slice A2 n2 c2]) => containsFuncI 121 #[] #[.pointer (some ⟨w.heap.size + 1, 0, none⟩)] (fun _ _ => rfl) (newB d.1) A2 n2 c2 d.2 w1
  (fun W x hW _ => ruleNew (w.heap.size + 1) A1 n1 c1 (.slice A2 n2 c2) d.1 x W (hr.next hW) (s1.next (next_trans bb hW)) hn1) (g1.next bb) s2.1 hn2)
 clear hW h h' hz hz' hs hc k1 k2 g1
 cases ok1 : termOkB sg d.1 with
 | false =>
  have HS := hid ok1
  clear ok1 s1 s2
  go_enter Tryz.func88, Tryz.ntmps88
  go_wp2_with fail
  rw [← HW.out]
  refine L1.out.mono ?_
  rintro e w1 ⟨he, bb⟩
  rw [HS.out] at he
  subst he
  have F := hid (ansB (b := ruleOkB sg d) (a := false) (by rw [rule_noL HS.out]) (next_trans bel bb))
  clear bb bel rA rR
  go_wp2
  go_ret
  exact F.out
 | true =>
  have hp1 := (term_len ok1).1
  rw [s1.1] at hp1
  obtain ⟨b, off, x, rfl, hbB, hx, ex⟩ := s1.spot (k := 0) (by omega)
  have HS := hid ok1
  have EX := hid (show hd d.1 = x from ex.out)
  have i0 : (0 : Int) < (n1 : Int) := by omega
  clear ok1 ex
  go_enter Tryz.func88, Tryz.ntmps88
  go_wp2_with fail
  rw [← HW.out]
  refine L1.out.mono ?_
  rintro e w1 ⟨he, bb⟩
  rw [HS.out] at he
  subst he
  replace rA := rA.next bb
  replace rR := rR.next bb
  replace bel := next_trans bel bb
  have cA : w1.cell? ⟨w.heap.size, 0, none⟩ = some (.slice A n c) := rA.cell 0
  have cR : w1.cell? ⟨w.heap.size + 1, 1, none⟩ = some (.slice A2 n2 c2) := rR.cell 1
  clear bb L1
  go_wp2_with fail
  refine (L2.out w1 bel).mono ?_
  cases ok2 : termOkB sg d.2 with
  | false =>
   have HS2 := hid ok2
   clear ok2
   rintro e w2 ⟨he, bb⟩
   rw [HS2.out] at he
   subst he
   have F := hid (ansB (b := ruleOkB sg d) (a := false) (by rw [rule_noR HS2.out]) (next_trans bel bb))
   clear bb bel rA rR cA cR s1 s2
   go_wp2
   go_ret
   exact F.out
  | true =>
   have HS2 := hid ok2
   clear ok2
   rintro e w2 ⟨he, bb⟩
   rw [HS2.out] at he
   subst he
   replace rR := rR.next bb
   replace bel := next_trans bel bb
   have cR0 : w2.cell? ⟨w.heap.size + 1, 0, none⟩ = some (.slice (some ⟨b, off, none⟩) n1 c1) := rR.cell 0
   have cX : w2.cell? ⟨b, off, none⟩ = some (.int .i64 x) := by have := (bel.cell (p := ⟨b, off + 0, none⟩) hbB).trans hx; simpa using this
   clear bb rA cA cR L2
   by_cases hneg : x < 0
   ·have F := hid (ansB (b := ruleOkB sg d) (a := false) (by rw [rule_var (by rw [EX.out]; exact hneg)]) bel)
    have hdx : decide (x < 0) = true := decide_eq_true hneg
    clear bel rR s1 s2 LC
    go_wp2
    go_ret
    exact F.out
   ·have hdx : decide (x < 0) = false := decide_eq_false hneg
    have cR1 : w2.cell? ⟨w.heap.size + 1, 1, none⟩ = some (.slice A2 n2 c2) := rR.cell 1
    have LC2 := hid (LC.out w2 bel rR)
    have hmf : ∀ (fn : Fn) (first cap : Array Value) (w : World), (Instr.makeFunc fn first cap).run Tryz.prog w = .ok (.func fn first cap) w := fun _ _ _ _ => rfl
    have E := hid (rule_all HS.out HS2.out (by rw [EX.out]; exact hneg))
    clear LC s1 s2
    go_wp2_with fail
    refine LC2.out.mono ?_
    obtain ⟨z, hzz⟩ : ∃ z, d.2.any (newB d.1) = z := ⟨_, rfl⟩
    rw [hzz] at E
    rintro e w3 ⟨he, bb⟩
    rw [hzz] at he
    subst he
    have F := hid (ansB (b := ruleOkB sg d) (a := !z) E.out.symm (next_trans bel bb))
    clear bb bel rR cR0 cR1 cX LC2 E hzz
    go_wp2
    go_ret
    exact F.out
end ruleImpl
end
section
open Go.Lib (hid)
namespace ruleImpl
open Go.RowKit base ints sig term termOk marks app sym segs termFacts varsMath varsOf rename same count linear shape kindsR ruleMath ruleSpec anyR
set_option maxRecDepth 100000
def sysV (a v : Value) (ok : Bool) : Value := if ok = true then .agg #[a, v] else .agg #[.slice none 0 0, .slice none 0 0]
def AnsSys (w : World) (a v : Value) (ok : Bool) (e : Ending) (w' : World) : Prop := e = .returned (.tuple #[sysV a v ok, .bool ok]) ∧ Below w.heap.size w w'
def HeadSO (w : World) (T T' : TypeId) (cs cs' : Array Value) (n : Nat) (f : Rl → Bool) (rs : List Rl) (i : Value) (wr : World) : Prop :=
 ∃ k : Nat, k ≤ n ∧ i = .int .i64 k ∧ (∀ j, j < k → f (rs.getD j ([], [])) = true) ∧ Row wr w.heap.size T cs ∧ Row wr (w.heap.size + 1) T' cs' ∧ Below w.heap.size w wr
theorem headSO_step {w wr : World} {T T' : TypeId} {cs cs' : Array Value} {n k : Nat} {f : Rl → Bool} {rs : List Rl} {x : Rl} (hk : k < n) (hlow : ∀ j, j < k → f (rs.getD j ([], [])) = true) (ex : Hid (rs.getD k ([], []) = x)) (h : f x = true) (hr : Row wr w.heap.size T cs) (hr' : Row wr (w.heap.size + 1) T' cs') (hb : Below w.heap.size w wr) : HeadSO w T T' cs cs' n f rs (.int .i64 ((k : Int) + 1)) wr :=
 ⟨k + 1, hk, by simp, fun j hj => by
  by_cases e : j = k
  ·subst e; rw [ex.out]; exact h
  ·exact hlow j (by omega), hr, hr', hb⟩
set_option maxHeartbeats 8000000 in
theorem systemOf (a v : Value) (d : Dat sSystem) (w : World) (h : Rd w w.heap.size sSystem [a, v] d) (hz : sz sSystem d ≤ 1048576) :
  Calls Tryz.prog 62 #[.agg #[a, v]] w (AnsSys w a v (sysOkB d.1 d.2)) := by
 have hzs := hid (sys_szs hz)
 obtain ⟨A, n, c, V, m, cv, rfl, rfl, hs, hc, hcv, hm, hn, hm1, hrs, hsg, hE⟩ := rd_sys h hz
 obtain ⟨W, hW, rA, rR, bel⟩ := box2 w 33 76 #[.slice A n c, .slice V m cv] #[.slice none 0 0, .slice none 0 0]
 have HW := hid hW
 have HM := hid hm
 have HE := hid hE
 have HR := hid hrs
 have L1 := hid (implSigOk A n c d.1 W (hs.next bel) hn)
 have LR := hid (fun (w1 : World) (l r : Value) (x : Dat sRule) (bb : Below w.heap.size w w1) (hx : Rd w1 w1.heap.size sRule [l, r] x) (hzx : sz sRule x ≤ 1048576) => implRuleOk (.slice A n c) l r d.1 x w1 (hsg.next bb) hx hzs.out.1 hzx)
 clear hW h hz hs hc hcv hm hE hrs hsg
 cases ok1 : sigOkB d.1 with
 | false =>
  have HS := hid ok1
  clear ok1
  go_enter Tryz.func62, Tryz.ntmps62
  go_wp2_with fail
  rw [← HW.out]
  refine L1.out.mono ?_
  rintro e w1 ⟨he, bb⟩
  rw [HS.out] at he
  subst he
  replace rR := rR.next bb
  replace bel := next_trans bel bb
  have y0 : w1.cell? ⟨w.heap.size + 1, 0, none⟩ = some (.slice none 0 0) := rR.cell 0
  have y1 : w1.cell? ⟨w.heap.size + 1, 1, none⟩ = some (.slice none 0 0) := rR.cell 1
  have f0 := rR.free 0
  have f1 := rR.free 1
  have r1 := rR.put 0 (.slice none 0 0)
  have y2 : (w1.setCell ⟨w.heap.size + 1, 0, none⟩ (.slice none 0 0)).cell? ⟨w.heap.size + 1, 1, none⟩ = some (.slice none 0 0) := r1.cell 1
  have f2 := r1.free 1
  have r2 := r1.put 1 (.slice none 0 0)
  have u0 : ((w1.setCell ⟨w.heap.size + 1, 0, none⟩ (.slice none 0 0)).setCell ⟨w.heap.size + 1, 1, none⟩ (.slice none 0 0)).cell? ⟨w.heap.size + 1, 0, none⟩ = some (.slice none 0 0) := r2.cell 0
  have u1 : ((w1.setCell ⟨w.heap.size + 1, 0, none⟩ (.slice none 0 0)).setCell ⟨w.heap.size + 1, 1, none⟩ (.slice none 0 0)).cell? ⟨w.heap.size + 1, 1, none⟩ = some (.slice none 0 0) := r2.cell 1
  have F : AnsSys w (.slice A n c) (.slice V m cv) (sysOkB d.1 d.2) (.returned (.tuple #[.agg #[.slice none 0 0, .slice none 0 0], .bool false])) ((w1.setCell ⟨w.heap.size + 1, 0, none⟩ (.slice none 0 0)).setCell ⟨w.heap.size + 1, 1, none⟩ (.slice none 0 0)) :=
   ⟨by rw [sys_sig HS.out]; rfl, (bel.setCell (by simp) _).setCell (by simp) _⟩
  have HF := hid F
  clear F bel rA rR bb r1 r2 LR
  go_wp2
  exact bodyPost_ret (v := .tuple #[.agg #[.slice none 0 0, .slice none 0 0], .bool false]) (by simp [results, Tryz.results62, go_sem, u0, u1]) rfl HF.out
 | true =>
  have HS := hid ok1
  clear ok1
  go_enter Tryz.func62, Tryz.ntmps62
  go_wp2_with fail
  rw [← HW.out]
  refine L1.out.mono ?_
  rintro e w1 ⟨he, bb⟩
  rw [HS.out] at he
  subst he
  replace rA := rA.next bb
  replace rR := rR.next bb
  replace bel := next_trans bel bb
  have cR : w1.cell? ⟨w.heap.size, 1, none⟩ = some (.slice V m cv) := rA.cell 1
  clear bb L1
  by_cases h12 : m ≤ 12
  ·have H0 : Hid (HeadSO w 33 76 #[.slice A n c, .slice V m cv] #[.slice none 0 0, .slice none 0 0] m (ruleOkB d.1) d.2 (.int .i64 0) w1) := hid ⟨0, Nat.zero_le _, rfl, fun j hj => absurd hj (Nat.not_lt_zero _), rA, rR, bel⟩
   clear rA rR bel
   go_wp2_with fail
   go_loopw [20] (fun i wr => HeadSO w 33 76 #[.slice A n c, .slice V m cv] #[.slice none 0 0, .slice none 0 0] m (ruleOkB d.1) d.2 i wr) (fun i _ => m - (intOf i).toNat)
   case atStart => exact H0.out
   case round =>
    obtain ⟨k, hk, rfl, hlow, rr, rs, hb⟩ := hrel
    have HLOW := hid hlow
    clear hlow H0 cR
    have cA0 : wr.cell? ⟨w.heap.size, 0, none⟩ = some (.slice A n c) := rr.cell 0
    have cA1 : wr.cell? ⟨w.heap.size, 1, none⟩ = some (.slice V m cv) := rr.cell 1
    by_cases hlt : k < m
    ·obtain ⟨b, off, l, r, x, rfl, hbB, ex, hc0, hc1, hx⟩ := rd_at HR.out hb HM.out hlt
     have hzx : sz sRule x ≤ 1048576 := by have := HE.out k hlt; rw [ex.out] at this; exact this
     obtain ⟨A1, n1, c1, A2, n2, c2, rfl, rfl, s1, k1, s2, k2, hn1, hn2⟩ := rd_rule hx hzx
     obtain ⟨w2, hw2⟩ : ∃ x, x = wr.alloc (.cells #[.slice A1 n1 c1, .slice A2 n2 c2] 69) := ⟨_, rfl⟩
     have bb : Below wr.heap.size wr w2 := by rw [hw2]; exact (Below.refl _ _).alloc (Nat.le_refl _) _
     have rx : Row w2 wr.heap.size 69 #[.slice A1 n1 c1, .slice A2 n2 c2] := by rw [hw2]; exact Row.new wr 69 #[.slice A1 n1 c1, .slice A2 n2 c2]
     have rr2 := rr.next bb
     have rs2 := rs.next bb
     have hb2 := next_trans hb bb
     have L := hid (LR.out w2 (.slice A1 n1 c1) (.slice A2 n2 c2) x hb2 ((hx.more hb.size).next bb) hzx)
     have x0 : w2.cell? ⟨wr.heap.size, 0, none⟩ = some (.slice A1 n1 c1) := rx.cell 0
     have x1 : w2.cell? ⟨wr.heap.size, 1, none⟩ = some (.slice A2 n2 c2) := rx.cell 1
     have x2 : w2.cell? ⟨w.heap.size, 0, none⟩ = some (.slice A n c) := rr2.cell 0
     have X0 := x0
     have X1 := x1
     have X2 := x2
     rw [hw2] at X0 X1 X2
     have HW2 := hid hw2
     have i0 : (0 : Int) ≤ (k : Int) := by omega
     have i1 : (k : Int) < (m : Int) := by omega
     clear hx hzx s1 s2 k1 k2 rr rs hb bb rx hw2
     go_wp2_with fail
     rw [← HW2.out]
     refine L.out.mono ?_
     cases ok : ruleOkB d.1 x with
     | false =>
      have HO := hid ok
      clear ok
      rintro e w3 ⟨he, bb⟩
      subst he
      have rR := rs2.next bb
      have bel := next_trans hb2 bb
      have y0 : w3.cell? ⟨w.heap.size + 1, 0, none⟩ = some (.slice none 0 0) := rR.cell 0
      have y1 : w3.cell? ⟨w.heap.size + 1, 1, none⟩ = some (.slice none 0 0) := rR.cell 1
      have f0 := rR.free 0
      have f1 := rR.free 1
      have r1 := rR.put 0 (.slice none 0 0)
      have y2 : (w3.setCell ⟨w.heap.size + 1, 0, none⟩ (.slice none 0 0)).cell? ⟨w.heap.size + 1, 1, none⟩ = some (.slice none 0 0) := r1.cell 1
      have f2 := r1.free 1
      have r2 := r1.put 1 (.slice none 0 0)
      have u0 : ((w3.setCell ⟨w.heap.size + 1, 0, none⟩ (.slice none 0 0)).setCell ⟨w.heap.size + 1, 1, none⟩ (.slice none 0 0)).cell? ⟨w.heap.size + 1, 0, none⟩ = some (.slice none 0 0) := r2.cell 0
      have u1 : ((w3.setCell ⟨w.heap.size + 1, 0, none⟩ (.slice none 0 0)).setCell ⟨w.heap.size + 1, 1, none⟩ (.slice none 0 0)).cell? ⟨w.heap.size + 1, 1, none⟩ = some (.slice none 0 0) := r2.cell 1
      have F : AnsSys w (.slice A n c) (.slice (some ⟨b, off, none⟩) m cv) (sysOkB d.1 d.2) (.returned (.tuple #[.agg #[.slice none 0 0, .slice none 0 0], .bool false])) ((w3.setCell ⟨w.heap.size + 1, 0, none⟩ (.slice none 0 0)).setCell ⟨w.heap.size + 1, 1, none⟩ (.slice none 0 0)) :=
       ⟨by rw [sys_bad (k := k) (by rw [HM.out]; exact hlt) (by rw [ex.out]; exact HO.out)]; rfl, (bel.setCell (by simp) _).setCell (by simp) _⟩
      have HF := hid F
      clear F bel rR bb r1 r2 LR rr2 rs2 hb2 x0 x1 x2 X0 X1 X2 cA0 cA1 hc0 hc1 L
      go_wp2
      exact bodyPost_ret (v := .tuple #[.agg #[.slice none 0 0, .slice none 0 0], .bool false]) (by simp [results, Tryz.results62, go_sem, u0, u1]) rfl HF.out
     | true =>
      have HO := hid ok
      clear ok
      rintro e w3 ⟨he, bb⟩
      subst he
      have F := hid (headSO_step (f := ruleOkB d.1) (w := w) hlt HLOW.out ex HO.out (rr2.next bb) (rs2.next bb) (next_trans hb2 bb))
      clear bb rr2 rs2 hb2 L x0 x1 x2 X0 X1 X2 cA0 cA1 hc0 hc1
      go_wp2
      go_roundw
      case rel => exact F.out
      case measure => simp [intOf]; omega
    ·have OK := hid (show sysOkB d.1 d.2 = true from sys_good HS.out (by rw [HM.out]; exact h12) (fun j hj => HLOW.out j (by rw [HM.out] at hj; omega)))
     have y0 : wr.cell? ⟨w.heap.size + 1, 0, none⟩ = some (.slice none 0 0) := rs.cell 0
     have f0 := rs.free 0
     have r1 := rs.put 0 (.slice A n c)
     have y2 : (wr.setCell ⟨w.heap.size + 1, 0, none⟩ (.slice A n c)).cell? ⟨w.heap.size + 1, 1, none⟩ = some (.slice none 0 0) := r1.cell 1
     have f2 := r1.free 1
     have r2 := r1.put 1 (.slice V m cv)
     have u0 : ((wr.setCell ⟨w.heap.size + 1, 0, none⟩ (.slice A n c)).setCell ⟨w.heap.size + 1, 1, none⟩ (.slice V m cv)).cell? ⟨w.heap.size + 1, 0, none⟩ = some (.slice A n c) := r2.cell 0
     have u1 : ((wr.setCell ⟨w.heap.size + 1, 0, none⟩ (.slice A n c)).setCell ⟨w.heap.size + 1, 1, none⟩ (.slice V m cv)).cell? ⟨w.heap.size + 1, 1, none⟩ = some (.slice V m cv) := r2.cell 1
     have F : AnsSys w (.slice A n c) (.slice V m cv) (sysOkB d.1 d.2) (.returned (.tuple #[.agg #[.slice A n c, .slice V m cv], .bool true])) ((wr.setCell ⟨w.heap.size + 1, 0, none⟩ (.slice A n c)).setCell ⟨w.heap.size + 1, 1, none⟩ (.slice V m cv)) :=
      ⟨by rw [OK.out]; rfl, (hb.setCell (by simp) _).setCell (by simp) _⟩
     have HF := hid F
     clear F hb rr rs r1 r2 LR
     go_wp2
     exact bodyPost_ret (v := .tuple #[.agg #[.slice A n c, .slice V m cv], .bool true]) (by simp [results, Tryz.results62, go_sem, u0, u1]) rfl HF.out
  ·have i1 : (12 : Int) < (m : Int) := by omega
   have y0 : w1.cell? ⟨w.heap.size + 1, 0, none⟩ = some (.slice none 0 0) := rR.cell 0
   have y1 : w1.cell? ⟨w.heap.size + 1, 1, none⟩ = some (.slice none 0 0) := rR.cell 1
   have f0 := rR.free 0
   have f1 := rR.free 1
   have r1 := rR.put 0 (.slice none 0 0)
   have y2 : (w1.setCell ⟨w.heap.size + 1, 0, none⟩ (.slice none 0 0)).cell? ⟨w.heap.size + 1, 1, none⟩ = some (.slice none 0 0) := r1.cell 1
   have f2 := r1.free 1
   have r2 := r1.put 1 (.slice none 0 0)
   have u0 : ((w1.setCell ⟨w.heap.size + 1, 0, none⟩ (.slice none 0 0)).setCell ⟨w.heap.size + 1, 1, none⟩ (.slice none 0 0)).cell? ⟨w.heap.size + 1, 0, none⟩ = some (.slice none 0 0) := r2.cell 0
   have u1 : ((w1.setCell ⟨w.heap.size + 1, 0, none⟩ (.slice none 0 0)).setCell ⟨w.heap.size + 1, 1, none⟩ (.slice none 0 0)).cell? ⟨w.heap.size + 1, 1, none⟩ = some (.slice none 0 0) := r2.cell 1
   have F : AnsSys w (.slice A n c) (.slice V m cv) (sysOkB d.1 d.2) (.returned (.tuple #[.agg #[.slice none 0 0, .slice none 0 0], .bool false])) ((w1.setCell ⟨w.heap.size + 1, 0, none⟩ (.slice none 0 0)).setCell ⟨w.heap.size + 1, 1, none⟩ (.slice none 0 0)) :=
    ⟨by rw [sys_long HM.out h12]; rfl, (bel.setCell (by simp) _).setCell (by simp) _⟩
   have HF := hid F
   clear F bel rA rR r1 r2 LR
   go_wp2
   exact bodyPost_ret (v := .tuple #[.agg #[.slice none 0 0, .slice none 0 0], .bool false]) (by simp [results, Tryz.results62, go_sem, u0, u1]) rfl HF.out
end ruleImpl
end
section
namespace stepImpl
open Go.RowKit base ints sig term termOk endAt inside marks app sym sub segs segsHelp kinds termFacts termMath posMath plainMath gives Go.Proofs.YtlmofkeemlfpgaaGreat.look fillMath matchMath matchSpec whole takeMath take extended varsOf shape kindsR ruleMath ruleSpec ruleImpl stepMath walkMath stepSpec heldT
set_option maxRecDepth 100000
end stepImpl
end
section
namespace pathSpec
open Go.RowKit base ints sig term arity endOf cursor termOk endAt inside marks app appAt sym args posMath
set_option maxRecDepth 100000
theorem own_lt {w : World} {base : Nat} {A : Option Addr} {n c : Nat} {xs : List Int} (h : Own w base (.slice A n c) xs) : ∀ k, blk A = some k → base ≤ k ∧ k < w.heap.size := fun k hk => World.ownsRow.lt h k (by rw [blk_own]; exact hk)
def PathIs (sg t : List Int) (x : Int) (pa : List Int) : Prop := (thereB sg t x = true ∧ ∃ ab, Trail sg t x.toNat 0 ab pa) ∨ (thereB sg t x = false ∧ pa = [])
theorem PathIs.one {sg t : List Int} {x : Int} {pa pa' : List Int} (h : PathIs sg t x pa) (h' : PathIs sg t x pa') : pa = pa' := by
 rcases h with ⟨e, ab, hw⟩ | ⟨e, rfl⟩ <;> rcases h' with ⟨e', ab', hw'⟩ | ⟨e', rfl⟩
 ·exact (hw.one hw').2
 ·rw [e] at e'; cases e'
 ·rw [e] at e'; cases e'
 ·rfl
theorem PathIs.len {sg t : List Int} {x : Int} {pa : List Int} (h : PathIs sg t x pa) : pa.length ≤ 60 := by
 rcases h with ⟨e, ab, hw⟩ | ⟨e, rfl⟩
 ·obtain ⟨hok, h0, h1⟩ := there_parts e
  have := hw.le
  have := (termOk_parts hok).2.1
  omega
 ·simp
theorem Trail.split {sg t : List Int} {a q : Nat} {ab pa : List Int} (h : Trail sg t a q ab pa) (hne : q ≠ a) : ∃ (k : Nat) (ab' pa' : List Int), ab = (q : Int) :: ab' ∧ pa = (k : Int) :: pa' ∧ q < a ∧ k < arN sg t q ∧ argP sg t k (q + 1) ≤ a ∧ a < argP sg t k (q + 1) + len1 sg t (argP sg t k (q + 1)) ∧ q < argP sg t k (q + 1) ∧ Trail sg t a (argP sg t k (q + 1)) ab' pa' := by
 cases h with
 | here => exact absurd rfl hne
 | @down _ k ab' pa' h1 h2 h3 h4 h5 h6 hw => exact ⟨k, ab', pa', rfl, rfl, h1, h2, h3, h4, h5, hw⟩
end pathSpec
end
section
namespace wayTo
open Go.RowKit base ints sig term arity endOf cursor termOk endAt inside marks app appAt sym args posMath pathSpec
set_option maxRecDepth 100000
structure Wy (w wr : World) (P : Nat) (A : Option Addr) (n c : Nat) (A' : Option Addr) (m c' : Nat) (sg t : List Int) (k : Nat) (O1 : Option Addr) (n1 c1 : Nat) (ys1 : List Int) (O2 : Option Addr) (n2 c2 : Nat) (ys2 : List Int) : Prop where
 cu : Cur wr P A n c A' m c' sg t k
 b : Below w.heap.size w wr
 hP : w.heap.size ≤ P
 o1 : Own wr (P + 1) (.slice O1 n1 c1) ys1
 o2 : Own wr (P + 1) (.slice O2 n2 c2) ys2
 dj : blk O1 = none ∨ blk O1 ≠ blk O2
section
variable {w wr w' : World} {P : Nat} {A : Option Addr} {n c : Nat} {A' : Option Addr} {m c' : Nat} {sg t : List Int} {k k' : Nat} {O1 : Option Addr} {n1 c1 : Nat} {ys1 : List Int} {O2 : Option Addr} {n2 c2 : Nat} {ys2 : List Int}
theorem Wy.lt (y : Wy w wr P A n c A' m c' sg t k O1 n1 c1 ys1 O2 n2 c2 ys2) : P < wr.heap.size := y.cu.row.lt
theorem Wy.over (y : Wy w wr P A n c A' m c' sg t k O1 n1 c1 ys1 O2 n2 c2 ys2) {o : Obj} {r : Option Nat} (hg : (wr.alloc o).grownBy w' r) (hr : ∀ j, r = some j → P + 1 ≤ j) : Below (P + 1) wr w' :=
 ((Below.refl (P + 1) wr).alloc y.lt _).grown hg (by have := y.lt; simp; omega) hr
theorem Wy.app1 (y : Wy w wr P A n c A' m c' sg t k O1 n1 c1 ys1 O2 n2 c2 ys2) {o : Obj} {O1' : Option Addr} {n1' c1' : Nat} {zs : List Int} (ho : Own w' (P + 1) (.slice O1' n1' c1') zs) (hg : (wr.alloc o).grownBy w' (blk O1)) (hb : blk O1' = blk O1 ∨ blk O1' = some (wr.alloc o).heap.size) :
  Wy w w' P A n c A' m c' sg t k O1' n1' c1' zs O2 n2 c2 ys2 := by
 have hov := y.over hg (fun j hj => (own_lt y.o1 j hj).1)
 refine ⟨Cur.keep y.cu hov, y.b.trans (hov.mono (Nat.le_succ_of_le y.hP)), y.hP, ho, Own.kept (Own.alloc y.o2 _) hg ?_, ?_⟩
 ·cases h2 : blk O2 with
  | none => exact .inl rfl
  | some z =>
   refine .inr (fun e => ?_)
   rcases y.dj with h | h
   ·rw [h] at e; cases e
   ·exact h (by rw [← e, h2])
 ·rcases hb with e | e
  ·rw [e]; exact y.dj
  ·refine .inr (fun h => ?_)
   rw [e] at h
   have := (own_lt y.o2 _ h.symm).2
   simp at this
   omega
end
end wayTo
end
section
namespace place
open Go.RowKit base ints sig term arity endOf cursor termOk endAt inside marks app appAt sym args posMath pathSpec wayTo
set_option maxRecDepth 100000
end place
end
section
namespace peakMath
open Go.RowKit base ints sig term termOk endAt sym pathSpec place substOk filled ruleMath stepMath walkMath
abbrev Pk := List Int × List Int × List Int × Int × Int × Int
def lhsI (rs : List Rl) (r : Int) : List Int := (rs.getD r.toNat ([], [])).1
def symAt (t : List Int) (a : Int) : Bool := decide (0 ≤ a ∧ a < (t.length : Int) ∧ 0 ≤ t.getD a.toNat 0)
def mayB (rs : List Rl) (o a u : Int) : Bool := walkMath.inB o rs.length && (walkMath.inB u rs.length && (symAt (lhsI rs o) a && !decide (a = 0 ∧ o = u)))
theorem sym_mem {sg t : List Int} {a : Int} (h : termOkB sg t = true) : decide (a ∈ symI sg t) = symAt t a := by
 have e : (a ∈ symI sg t) ↔ (0 ≤ a ∧ a < (t.length : Int) ∧ 0 ≤ t.getD a.toNat 0) := by
  unfold symI
  rw [if_pos h]
  unfold symP
  simp only [List.mem_map, List.mem_filter, List.mem_range, decide_eq_true_eq]
  constructor
  ·rintro ⟨j, ⟨h1, h2⟩, rfl⟩
   refine ⟨by omega, by omega, ?_⟩
   rw [Int.toNat_natCast]
   exact h2
  ·rintro ⟨h1, h2, h3⟩
   exact ⟨a.toNat, ⟨by omega, h3⟩, by omega⟩
 unfold symAt
 exact decide_eq_decide.2 e
section
variable {sg : List Int} {rs : List Rl} {p : Pk}
theorem may_no1 {o a u : Int} (h : walkMath.inB o rs.length = false) : mayB rs o a u = false := by unfold mayB; rw [h]; rfl
theorem may_no2 {o a u : Int} (h : walkMath.inB u rs.length = false) : mayB rs o a u = false := by unfold mayB; rw [h]; simp
theorem may_no4 {o a u : Int} (h : a = 0 ∧ o = u) : mayB rs o a u = false := by unfold mayB; rw [decide_eq_true h]; simp
theorem may_parts {o a u : Int} (h : mayB rs o a u = true) : (walkMath.inB o rs.length = true ∧ walkMath.inB u rs.length = true) ∧ symAt (lhsI rs o) a = true ∧ ¬ (a = 0 ∧ o = u) := by
 unfold mayB at h
 simp only [Bool.and_eq_true, Bool.not_eq_true', decide_eq_false_iff_not] at h
 exact ⟨⟨h.1, h.2.1⟩, h.2.2.1, h.2.2.2⟩
end
open Classical in
section
variable {sg : List Int} {rs : List Rl} {p : Pk} {ss : List (List Int)}
end
end peakMath
end
section
namespace kindsP
open Go.RowKit base ints sig cursor marks app sym appAt segs segsHelp segsMark kinds shape
set_option maxRecDepth 100000
abbrev sPeak : Sh := .cat sI (.cat sI (.cat sI (.cat .num (.cat .num .num))))
theorem parts_Peak {w : World} {B : Nat} {v0 v1 v2 : Value} {d : Dat sPeak} (h : Rd w B sPeak [v0, v1, v2, .int .i64 d.2.2.2.1, .int .i64 d.2.2.2.2.1, .int .i64 d.2.2.2.2.2] d) : Rd w B sI [v0] d.1 ∧ Rd w B sI [v1] d.2.1 ∧ Rd w B sI [v2] d.2.2.1 ∧ Rd w B .num [.int .i64 d.2.2.2.1] d.2.2.2.1 ∧ Rd w B .num [.int .i64 d.2.2.2.2.1] d.2.2.2.2.1 ∧ Rd w B .num [.int .i64 d.2.2.2.2.2] d.2.2.2.2.2 := by
 obtain ⟨p0, q0⟩ := Rd.split (ca := [v0]) (cb := [v1, v2, .int .i64 d.2.2.2.1, .int .i64 d.2.2.2.2.1, .int .i64 d.2.2.2.2.2]) h rfl
 obtain ⟨p1, q1⟩ := Rd.split (ca := [v1]) (cb := [v2, .int .i64 d.2.2.2.1, .int .i64 d.2.2.2.2.1, .int .i64 d.2.2.2.2.2]) q0 rfl
 obtain ⟨p2, q2⟩ := Rd.split (ca := [v2]) (cb := [.int .i64 d.2.2.2.1, .int .i64 d.2.2.2.2.1, .int .i64 d.2.2.2.2.2]) q1 rfl
 obtain ⟨p3, q3⟩ := Rd.split (ca := [.int .i64 d.2.2.2.1]) (cb := [.int .i64 d.2.2.2.2.1, .int .i64 d.2.2.2.2.2]) q2 rfl
 obtain ⟨p4, q4⟩ := Rd.split (ca := [.int .i64 d.2.2.2.2.1]) (cb := [.int .i64 d.2.2.2.2.2]) q3 rfl
 exact ⟨p0, p1, p2, p3, p4, q4⟩
theorem join_Peak {w : World} {lo hi : Nat} {v0 v1 v2 : Value} {d : Dat sPeak} {m0 m1 m2 m3 m4 m5 m6 : Nat} (o0 : Owned w m0 m1 sI [v0] d.1) (o1 : Owned w m1 m2 sI [v1] d.2.1) (o2 : Owned w m2 m3 sI [v2] d.2.2.1) (o3 : Owned w m3 m4 .num [.int .i64 d.2.2.2.1] d.2.2.2.1) (o4 : Owned w m4 m5 .num [.int .i64 d.2.2.2.2.1] d.2.2.2.2.1) (o5 : Owned w m5 m6 .num [.int .i64 d.2.2.2.2.2] d.2.2.2.2.2) (l0 : m0 ≤ m1) (l1 : m1 ≤ m2) (l2 : m2 ≤ m3) (l3 : m3 ≤ m4) (l4 : m4 ≤ m5) (l5 : m5 ≤ m6) (hl : lo ≤ m0) (hh : m6 ≤ hi) : Owned w lo hi sPeak [v0, v1, v2, .int .i64 d.2.2.2.1, .int .i64 d.2.2.2.2.1, .int .i64 d.2.2.2.2.2] d := by
 exact ((Owned.cat o0 (Owned.cat o1 (Owned.cat o2 (Owned.cat o3 (Owned.cat o4 o5 (Nat.le_refl _) (by omega) (by omega)) (Nat.le_refl _) (by omega) (by omega)) (Nat.le_refl _) (by omega) (by omega)) (Nat.le_refl _) (by omega) (by omega)) (Nat.le_refl _) (by omega) (by omega)) : Owned w m0 m6 sPeak [v0, v1, v2, .int .i64 d.2.2.2.1, .int .i64 d.2.2.2.2.1, .int .i64 d.2.2.2.2.2] d).wider hl hh
theorem cells_Peak {w : World} {B : Nat} {es : List Value} {d : Dat sPeak} (h : Rd w B sPeak es d) : ∃ (v0 : Value) (v1 : Value) (v2 : Value), es = [v0, v1, v2, .int .i64 d.2.2.2.1, .int .i64 d.2.2.2.2.1, .int .i64 d.2.2.2.2.2] := by
 obtain ⟨ca0, cb0, e0, p0, q0⟩ := h
 obtain ⟨A0, n0, c0, z0, -⟩ := p0
 obtain ⟨ca1, cb1, e1, p1, q1⟩ := q0
 obtain ⟨A1, n1, c1, z1, -⟩ := p1
 obtain ⟨ca2, cb2, e2, p2, q2⟩ := q1
 obtain ⟨A2, n2, c2, z2, -⟩ := p2
 obtain ⟨ca3, cb3, e3, p3, q3⟩ := q2
 obtain ⟨ca4, cb4, e4, p4, q4⟩ := q3
 exact ⟨.slice A0 n0 c0, .slice A1 n1 c1, .slice A2 n2 c2, by rw [e0, z0, e1, z1, e2, z2, e3, (show _ = _ from p3), e4, (show _ = _ from p4), (show _ = _ from q4)] <;> rfl⟩
end kindsP
end
section
namespace peakSame
open Go.RowKit base ints sig term termOk marks app sym segs segsHelp kinds same shape kindsR kindsP varsOf ruleMath ruleSpec ruleImpl
set_option maxRecDepth 100000
theorem rd_peak {w : World} {B : Nat} {v0 v1 v2 : Value} {p : Dat sPeak} (h : Rd w B sPeak [v0, v1, v2, .int .i64 p.2.2.2.1, .int .i64 p.2.2.2.2.1, .int .i64 p.2.2.2.2.2] p) (hz : sz sPeak p ≤ 1048576) :
  ∃ A n c A' n' c' A2 n2 c2, v0 = .slice A n c ∧ v1 = .slice A' n' c' ∧ v2 = .slice A2 n2 c2 ∧ Seg w B A n p.1 ∧ Seg w B A' n' p.2.1 ∧ Seg w B A2 n2 p.2.2.1 ∧ n ≤ 1048576 ∧ n' ≤ 1048576 ∧ n2 ≤ 1048576 := by
 obtain ⟨g0, g1, g2, -⟩ := parts_Peak h
 have hz0 : sz sI p.1 + (sz sI p.2.1 + (sz sI p.2.2.1 + (0 + (0 + 0)))) ≤ 1048576 := hz
 obtain ⟨A, n, c, rfl, hA, -⟩ := rd_ints.1 g0
 obtain ⟨A', n', c', rfl, hA', -⟩ := rd_ints.1 g1
 obtain ⟨A2, n2, c2, rfl, hA2, -⟩ := rd_ints.1 g2
 exact ⟨A, n, c, A', n', c', A2, n2, c2, rfl, rfl, rfl, hA, hA', hA2, len_ints hA.1 (by omega), len_ints hA'.1 (by omega), len_ints hA2.1 (by omega)⟩
set_option maxHeartbeats 2000000 in
theorem specTrivialPeak (v0 v1 v2 : Value) (p : Dat sPeak) (w : World) (h : Rd w w.heap.size sPeak [v0, v1, v2, .int .i64 p.2.2.2.1, .int .i64 p.2.2.2.2.1, .int .i64 p.2.2.2.2.2] p) (hz : sz sPeak p ≤ 1048576) :
  Calls Tryz.prog 35 #[.agg #[v0, v1, v2, .int .i64 p.2.2.2.1, .int .i64 p.2.2.2.2.1, .int .i64 p.2.2.2.2.2]] w (AnsB w (decide (p.2.1 = p.2.2.1))) := by
 obtain ⟨A, n, c, A', n', c', A2, n2, c2, rfl, rfl, rfl, s0, s1, s2, b0, b1, b2⟩ := rd_peak h hz
 obtain ⟨W, hW, rA, bel⟩ := box1 w 38 #[.slice A n c, .slice A' n' c', .slice A2 n2 c2, .int .i64 p.2.2.2.1, .int .i64 p.2.2.2.2.1, .int .i64 p.2.2.2.2.2]
 have HW := Lib.hid hW
 have L := Lib.hid (specSame A' A2 n' n2 c' c2 p.2.1 p.2.2.1 W (s1.next bel) (s2.next bel) b1 b2)
 clear hW h hz s0 s1 s2
 go_enter Tryz.func35, Tryz.ntmps35
 go_wp2_with fail
 rw [← HW.out]
 refine L.out.mono ?_
 rintro e w1 ⟨rfl, d, rfl⟩
 have F := Lib.hid (show AnsB w (decide (p.2.1 = p.2.2.1)) (.returned (.bool (decide (p.2.1 = p.2.2.1)))) (W.drewN d) from ⟨rfl, below_drewN bel d⟩)
 clear bel rA L
 generalize decide (p.2.1 = p.2.2.1) = bz at *
 go_wp2
 go_ret
 exact F.out
set_option maxHeartbeats 2000000 in
theorem implTrivialPeak (v0 v1 v2 : Value) (p : Dat sPeak) (w : World) (h : Rd w w.heap.size sPeak [v0, v1, v2, .int .i64 p.2.2.2.1, .int .i64 p.2.2.2.2.1, .int .i64 p.2.2.2.2.2] p) (hz : sz sPeak p ≤ 1048576) :
  Calls Tryz.prog 36 #[.agg #[v0, v1, v2, .int .i64 p.2.2.2.1, .int .i64 p.2.2.2.2.1, .int .i64 p.2.2.2.2.2]] w (AnsB w (decide (p.2.1 = p.2.2.1))) := by
 obtain ⟨A, n, c, A', n', c', A2, n2, c2, rfl, rfl, rfl, s0, s1, s2, b0, b1, b2⟩ := rd_peak h hz
 obtain ⟨W, hW, rA, bel⟩ := box1 w 38 #[.slice A n c, .slice A' n' c', .slice A2 n2 c2, .int .i64 p.2.2.2.1, .int .i64 p.2.2.2.2.1, .int .i64 p.2.2.2.2.2]
 have HW := Lib.hid hW
 have L := Lib.hid (implSame A' A2 n' n2 c' c2 p.2.1 p.2.2.1 W (s1.next bel) (s2.next bel) b1 b2)
 clear hW h hz s0 s1 s2
 go_enter Tryz.func36, Tryz.ntmps36
 go_wp2_with fail
 rw [← HW.out]
 refine L.out.mono ?_
 rintro e w1 ⟨rfl, d, rfl⟩
 have F := Lib.hid (show AnsB w (decide (p.2.1 = p.2.2.1)) (.returned (.bool (decide (p.2.1 = p.2.2.1)))) (W.drewN d) from ⟨rfl, below_drewN bel d⟩)
 clear bel rA L
 generalize decide (p.2.1 = p.2.2.1) = bz at *
 go_wp2
 go_ret
 exact F.out
end peakSame
end
section
namespace stepsMath
open sig term termOk termFacts ruleMath stepMath walkMath
section
variable {sg : List Int} {rs : List Rl} {t : List Int} {i k : Nat}
end
def rdN (sg : List Int) (rs : List Rl) (t : List Int) (i k : Nat) : Nat := ((List.range i).map fun a => rs.countP fun x => redB sg x t a).sum + (rs.take k).countP fun x => redB sg x t i
section
variable {sg : List Int} {rs : List Rl} {t : List Int} {i k : Nat}
theorem rd_zero : rdN sg rs t 0 0 = 0 := rfl
end
end stepsMath
end
section
namespace ownL
open Go.RowKit base ints sig cursor marks app appAt sym segs shape drawX
set_option maxRecDepth 100000
theorem Ow.one {w : World} : ∀ {s : Sh} {cs : List Value} {d : Dat s} {F : List Nat}, Ow w s cs d F → ∀ u ∈ cs, u.oneCell' = true
 | .num, _, _, _, h, u, hu => by have h : _ = _ ∧ _ := h; rw [h.1] at hu; rw [List.mem_singleton.1 hu]; rfl
 | .bit, _, _, _, h, u, hu => by have h : _ = _ ∧ _ := h; rw [h.1] at hu; rw [List.mem_singleton.1 hu]; rfl
 | .row _ _, _, _, _, h, u, hu => by obtain ⟨A, n, c, e, _⟩ := h; rw [e] at hu; rw [List.mem_singleton.1 hu]; rfl
 | .cat a b, _, _, _, h, u, hu => by
  obtain ⟨ca, cb, Fa, Fb, e, _, h1, h2⟩ := h
  rw [e] at hu
  rcases List.mem_append.1 hu with hu | hu
  ·exact Ow.one h1 u hu
  ·exact Ow.one h2 u hu
def OwnL (w : World) (lo hi : Nat) (e : TypeId) (s : Sh) (A : Option Addr) (n c : Nat) (D : List (Dat s)) : Prop :=
 D.length = n ∧ (∀ k, blk A = some k → k < hi) ∧ ∃ (vs : List Value) (G : Nat → List Nat), w.ownsRow lo e (nc s) (.slice A n c) n vs ∧ (A = none → c = 0) ∧ ((List.range n).flatMap G).Nodup ∧
  ∀ j, j < n → Ow w s (cellsOf (nc s) vs j) (D.getD j (dft s)) (G j) ∧ ∀ q ∈ G j, lo ≤ q ∧ q < hi ∧ some q ≠ blk A
section
variable {w w' : World} {lo hi n c : Nat} {e : TypeId} {s : Sh} {A : Option Addr} {D : List (Dat s)}
theorem OwnL.nil (w : World) (lo hi : Nat) (e : TypeId) (s : Sh) : OwnL w lo hi e s none 0 0 [] := ⟨rfl, (fun k hk => by cases hk), [], fun _ => [], ⟨by simp, .inl ⟨rfl, rfl⟩⟩, fun _ => rfl, by simp, fun j hj => absurd hj (Nat.not_lt_zero _)⟩
theorem OwnL.empty (w : World) {lo hi : Nat} (e : TypeId) (s : Sh) (h : lo ≤ w.heap.size) (h2 : w.heap.size < hi) : OwnL (w.alloc (.cells #[] e)) lo hi e s (some ⟨w.heap.size, 0, none⟩) 0 0 [] :=
 ⟨rfl, (fun k hk => by injection hk with hk; rw [← hk]; exact h2), [], fun _ => [], ⟨by simp, .inr ⟨w.heap.size, 0, #[], rfl, h, heap_alloc_new w _, Nat.le_refl _, by decide, by simp, by simp⟩⟩, (fun e => by cases e), by simp, fun j hj => absurd hj (Nat.not_lt_zero _)⟩
theorem OwnL.keep (h : OwnL w lo hi e s A n c D) (hk : ∀ k, lo ≤ k → k < hi → k < w.heap.size → w'.heap[k]? = w.heap[k]?) (hs : w.heap.size ≤ w'.heap.size) : OwnL w' lo hi e s A n c D := by
 obtain ⟨h1, h2, vs, G, h3, h4, h5, h6⟩ := h
 refine ⟨h1, h2, vs, G, ?_, h4, h5, fun j hj => ⟨(h6 j hj).1.keep fun q hq => ?_, (h6 j hj).2⟩⟩
 ·refine ⟨h3.1, ?_⟩
  rcases h3.2 with q | ⟨g, cap, cur, e1, hg, hr, q⟩
  ·exact .inl q
  ·have hlt := (Array.getElem?_eq_some_iff.1 hr).1
   injection e1 with e2 e3 e4
   exact .inr ⟨g, cap, cur, by rw [e2, e4], hg, (hk g hg (h2 g (by rw [e2]; rfl)) hlt).trans hr, q⟩
 ·have := (h6 j hj).2 q hq
  exact hk q this.1 this.2.1 ((h6 j hj).1.lt q hq)
theorem OwnL.next (h : OwnL w lo hi e s A n c D) (hb : Below w.heap.size w w') : OwnL w' lo hi e s A n c D := h.keep (fun k _ _ hk => hb.block k hk) hb.size
theorem OwnL.btw {lo' hi' : Nat} (h : OwnL w lo hi e s A n c D) (hb : Btw lo' hi' w w') (ho : hi ≤ lo' ∨ hi' ≤ lo) : OwnL w' lo hi e s A n c D := h.keep (fun k h1 h2 hk => hb.block k hk (by omega)) hb.size
theorem OwnL.wider {lo' hi' : Nat} (h : OwnL w lo hi e s A n c D) (h1 : lo' ≤ lo) (h2 : hi ≤ hi') : OwnL w lo' hi' e s A n c D := by
 obtain ⟨q1, q2, vs, G, q3, q4, q5, q6⟩ := h
 refine ⟨q1, fun k hk => Nat.lt_of_lt_of_le (q2 k hk) h2, vs, G, ⟨q3.1, ?_⟩, q4, q5, fun j hj => ⟨(q6 j hj).1, fun q hq => ?_⟩⟩
 ·rcases q3.2 with q | ⟨g, cap, cur, e1, hg, q⟩
  ·exact .inl q
  ·exact .inr ⟨g, cap, cur, e1, by omega, q⟩
 ·have := (q6 j hj).2 q hq
  exact ⟨by omega, by omega, this.2.2⟩
theorem OwnL.ge (h : OwnL w lo hi e s A n c D) : ∀ k, blk A = some k → lo ≤ k ∧ k < w.heap.size := fun k hk => by
 obtain ⟨_, _, vs, G, ho, _⟩ := h
 exact World.ownsRow.lt ho k (by rw [blk_own]; exact hk)
theorem OwnL.owned (h : OwnL w lo hi e s A n c D) : Owned w lo hi (.row e s) [.slice A n c] D := by
 obtain ⟨h1, h2, vs, G, h3, h4, h5, h6⟩ := h
 rcases h3.2 with ⟨e1, h0⟩ | ⟨g, cap, cur, e1, hg, hrow, hn, hm, hs, ht⟩
 ·injection e1 with a1 a2 a3
  subst a1 a2 a3
  exact ⟨[], ⟨none, 0, 0, rfl, h1, .inl ⟨rfl, rfl, rfl, rfl⟩⟩, by simp, fun k hk => by cases hk⟩
 ·injection e1 with a1 a2 a3
  subst a1 a3
  have hl : vs.length = n * nc s := h3.1
  refine ⟨g :: (List.range n).flatMap G, ⟨_, n, c, rfl, h1, .inr ⟨g, cur, cellsOf (nc s) vs, G, rfl, hrow, hn, by unfold maxLen at hm; omega, hs, rfl, fun j hj => ?_⟩⟩, List.nodup_cons.2 ⟨fun hb => ?_, h5⟩, fun k hk => ?_⟩
  ·have hjn : j * nc s + nc s ≤ n * nc s := by
    have := Nat.mul_le_mul_right (nc s) (show j + 1 ≤ n by omega)
    rw [Nat.add_mul] at this
    omega
   refine ⟨(h6 j hj).1.len, fun i hi => ?_, (h6 j hj).1⟩
   have h7 : cur.toList[j * nc s + i]? = vs[j * nc s + i]? := by rw [← ht, List.getElem?_take, if_pos (by omega)]
   rw [← Array.getElem?_toList, h7]
   unfold cellsOf
   rw [List.getElem?_take, if_pos hi, List.getElem?_drop]
  ·obtain ⟨j, hj, hb⟩ := List.mem_flatMap.1 hb
   exact ((h6 j (List.mem_range.1 hj)).2 g hb).2.2 rfl
  ·rcases List.mem_cons.1 hk with hk | hk
   ·rw [hk]; exact ⟨hg, h2 g rfl⟩
   ·obtain ⟨j, hj, hb⟩ := List.mem_flatMap.1 hk
    have := (h6 j (List.mem_range.1 hj)).2 k hb
    exact ⟨this.1, this.2.1⟩
theorem OwnL.rd (h : OwnL w lo hi e s A n c D) : Rd w w.heap.size (.row e s) [.slice A n c] D := h.owned.rd
theorem cells_left {k n j : Nat} {vs es : List Value} (hl : vs.length = n * k) (hj : j < n) : cellsOf k (vs ++ es) j = cellsOf k vs j := by
 have hjn : j * k + k ≤ n * k := by
  have := Nat.mul_le_mul_right k (show j + 1 ≤ n by omega)
  rw [Nat.add_mul] at this
  omega
 unfold cellsOf
 rw [List.drop_append_of_le_length (by omega), List.take_append_of_le_length (by rw [List.length_drop]; omega)]
theorem cells_right {k n j : Nat} {vs es : List Value} (hl : vs.length = n * k) : cellsOf k (vs ++ es) (n + j) = cellsOf k es j := by
 unfold cellsOf
 rw [show (n + j) * k = vs.length + j * k by rw [hl, Nat.add_mul], ← List.drop_drop, List.drop_left]
theorem flat_range {G H : Nat → List Nat} : ∀ {n m : Nat}, (List.range (n + m)).flatMap (fun j => if j < n then G j else H (j - n)) = (List.range n).flatMap G ++ (List.range m).flatMap H
 | n, 0 => by
  simp only [Nat.add_zero, List.range_zero, List.flatMap_nil, List.append_nil]
  rw [List.flatMap_def, List.flatMap_def]
  congr 1
  exact List.map_congr_left fun j hj => if_pos (List.mem_range.1 hj)
 | n, m + 1 => by
  rw [← Nat.add_assoc, List.range_succ, List.flatMap_append, flat_range, List.range_succ, List.flatMap_append]
  simp
  intro h; omega
theorem ownL_app {mid hi2 m : Nat} {vs es : List Value} {G : Nat → List Nat} {E : List (Dat s)} {H : Nat → List Nat} {A' : Option Addr} {c' : Nat} (h1 : D.length = n) (h2 : ∀ k, blk A = some k → k < hi) (h3 : w.ownsRow lo e (nc s) (.slice A n c) n vs) (h5 : ((List.range n).flatMap G).Nodup)
  (h6 : ∀ j, j < n → Ow w s (cellsOf (nc s) vs j) (D.getD j (dft s)) (G j) ∧ ∀ q ∈ G j, lo ≤ q ∧ q < hi ∧ some q ≠ blk A) (hmid : hi ≤ mid) (hlo : lo ≤ mid)
  (hE : E.length = m) (hn : ((List.range m).flatMap H).Nodup) (hin : ∀ j, j < m → Ow w s (cellsOf (nc s) es j) (E.getD j (dft s)) (H j) ∧ ∀ q ∈ H j, mid ≤ q ∧ q < hi2)
  (hown : w'.ownsRow lo e (nc s) (.slice A' (n + m) c') (n + m) (vs ++ es)) (hg : w.grownBy w' (blk A)) (hat : blk A' = blk A ∨ blk A' = some w.heap.size) (hc' : A' = none → c' = 0) : OwnL w' lo w'.heap.size e s A' (n + m) c' (D ++ E) := by
 have hvl : vs.length = n * nc s := h3.1
 have hA' : ∀ k, blk A' = some k → k < w'.heap.size := fun k hk => (World.ownsRow.lt hown k (by rw [blk_own]; exact hk)).2
 refine ⟨by simp [h1, hE], hA', vs ++ es, fun j => if j < n then G j else H (j - n), hown, hc', ?_, fun j hj => ?_⟩
 ·rw [flat_range]
  refine List.nodup_append.2 ⟨h5, hn, fun x hx y hy e => ?_⟩
  obtain ⟨i, hi', hx⟩ := List.mem_flatMap.1 hx
  obtain ⟨j, hj', hy⟩ := List.mem_flatMap.1 hy
  have q1 := (h6 i (List.mem_range.1 hi')).2 x hx
  have q2 := (hin j (List.mem_range.1 hj')).2 y hy
  omega
 ·dsimp only
  by_cases ej : j < n
  ·rw [if_pos ej, cells_left hvl ej, show (D ++ E).getD j (dft s) = D.getD j (dft s) by simp [List.getD, List.getElem?_append_left (show j < D.length by omega)]]
   obtain ⟨o1, o2⟩ := h6 j ej
   refine ⟨o1.keep fun q hq => hg.block q (o1.lt q hq) (fun e => (o2 q hq).2.2 e), fun q hq => ?_⟩
   have q3 := o2 q hq
   refine ⟨q3.1, Nat.lt_of_lt_of_le (o1.lt q hq) hg.size, ?_⟩
   rcases hat with e2 | e2
   ·rw [e2]; exact q3.2.2
   ·rw [e2]; intro e3; injection e3 with e3; have := o1.lt q hq; omega
  ·obtain ⟨i, rfl⟩ : ∃ i, j = n + i := ⟨j - n, by omega⟩
   have hi' : i < m := by omega
   rw [if_neg ej, cells_right hvl, show n + i - n = i by omega, show (D ++ E).getD (n + i) (dft s) = E.getD i (dft s) by simp [List.getD, List.getElem?_append_right (show D.length ≤ n + i by omega), h1]]
   obtain ⟨o1, o2⟩ := hin i hi'
   have hne : ∀ q ∈ H i, some q ≠ blk A := fun q hq e => by
    have := h2 q e.symm
    have := o2 q hq
    omega
   refine ⟨o1.keep fun q hq => hg.block q (o1.lt q hq) (fun e => hne q hq e), fun q hq => ?_⟩
   have q3 := o2 q hq
   refine ⟨by omega, Nat.lt_of_lt_of_le (o1.lt q hq) hg.size, ?_⟩
   rcases hat with e2 | e2
   ·rw [e2]; exact hne q hq
   ·rw [e2]; intro e3; injection e3 with e3; have := o1.lt q hq; omega
end
theorem OwnL.single {w : World} {lo hi g : Nat} {e : TypeId} {s : Sh} {es : List Value} {y : Dat s} (hr : Row w g e es.toArray) (ho : Owned w lo hi s es y) (hg : hi ≤ g) (hlo : lo ≤ g) : OwnL w lo (g + 1) e s (some ⟨g, 0, none⟩) 1 1 [y] := by
 obtain ⟨F, hF, hFn, hFb⟩ := ho
 have hel := hF.len
 refine ⟨rfl, fun k hk => by injection hk with hk; have hk : g = k := hk; omega, es, fun _ => F, ⟨by rw [hel]; simp, .inr ⟨g, 1, es.toArray, rfl, hlo, hr, Nat.le_refl _, by unfold maxLen; omega, by simp [hel], by simp [← hel]⟩⟩, (fun e => by cases e), by simpa using hFn, fun j hj => ?_⟩
 obtain rfl : j = 0 := by omega
 refine ⟨?_, fun q hq => ?_⟩
 ·have : cellsOf (nc s) es 0 = es := by unfold cellsOf; rw [Nat.zero_mul, List.drop_zero, List.take_of_length_le (by omega)]
  rw [this]; exact hF
 ·have := hFb q hq
  refine ⟨this.1, by omega, fun e => ?_⟩
  injection e with e
  have e : q = g := e
  omega
theorem run_appL {w : World} (ty T e : TypeId) (s : Sh) (z : Value) (bytes : Nat) (hT : Tryz.prog.underlying T = some (.slice e))
  (hI : (Tryz.prog.info? e).map (fun i => (i.zero, i.size, i.bytes)) = some (some z, nc s, bytes)) (hzc : z.cells.size = nc s) (hby : bytes ≤ 4096)
  (lo hi mid hi2 : Nat) (A : Option Addr) (n c g m c2 : Nat) (D E : List (Dat s)) (hown : OwnL w lo hi e s A n c D) (hx : OwnL w mid hi2 e s (some ⟨g, 0, none⟩) m c2 E) (hmid : hi ≤ mid) (hlm : lo ≤ mid) (hn : n ≤ 1048576) (hm : m ≤ 1048576) (hlo : lo ≤ w.heap.size) :
  ∃ A' c' w', (Builtin.append_ #[T, T] ty #[.slice A n c, .slice (some ⟨g, 0, none⟩) m c2]).run Tryz.prog w = .ok (.slice A' (n + m) c') w' ∧ OwnL w' lo w'.heap.size e s A' (n + m) c' (D ++ E) ∧ w.grownBy w' (blk A) ∧ (blk A' = blk A ∨ blk A' = some w.heap.size) ∧ Below lo w w' ∧ (A ≠ none ∨ 0 < m → ∃ g', A' = some ⟨g', 0, none⟩) := by
 obtain ⟨i0, hi', hz0, hz1, hz2⟩ := info_parts hI
 obtain ⟨h1, h2, vs, G, hr, h4, h5, h6⟩ := hown
 obtain ⟨k1, k2, us, H, kr, k4, k5, k6⟩ := hx
 have hul : us.length = m * nc s := kr.1
 have hone : ∀ u ∈ us, u.oneCell' = true := fun u hu => by
  obtain ⟨i, hi2, rfl⟩ := List.getElem_of_mem hu
  have hnp := nc_pos s
  have hj : i / nc s < m := by rw [Nat.div_lt_iff_lt_mul hnp]; omega
  refine Ow.one (k6 (i / nc s) hj).1 _ ?_
  unfold cellsOf
  have hdm : i / nc s * nc s + i % nc s = i := by rw [Nat.mul_comm]; exact Nat.div_add_mod i (nc s)
  have hmod := Nat.mod_lt i hnp
  refine List.mem_of_getElem? (i := i % nc s) ?_
  rw [List.getElem?_take, if_pos hmod, List.getElem?_drop, hdm]
  exact List.getElem?_eq_getElem hi2
 have hcells : ∀ j u, us[j]? = some u → w.cell? ((⟨g, 0, none⟩ : Addr).add j) = some u := fun j u hj => by
  have e2 : (⟨g, 0, none⟩ : Addr).add j = ⟨g, j, none⟩ := by unfold Addr.add; split <;> simp_all
  rw [e2]
  rcases kr.2 with ⟨e1, _⟩ | ⟨g', cap, cur, e1, _, hrow, _, _, _, ht⟩
  ·cases e1
  ·injection e1 with a1 a2 a3
   injection a1 with a1
   injection a1 with a1
   subst a1
   rw [Row.cell (t := e) (cs := cur) hrow, ← Array.getElem?_toList]
   have hjl := (List.getElem?_eq_some_iff.1 hj).1
   rw [← ht, List.getElem?_take, if_pos (by omega)] at hj
   exact hj
 obtain ⟨v', w', hrun, hown', hg, hnn, hat⟩ := run_append_own_at (P := Tryz.prog) w lo T ty e i0 z (nc s) bytes hT hi' hz0 hz1 hz2 hzc (nc_pos s) (.slice A n c) n vs hr ⟨g, 0, none⟩ m c2 us hul hcells hone (by unfold maxLen; omega) (by have h1 : (n + m) * bytes ≤ 2097152 * 4096 := Nat.mul_le_mul (by omega) hby; omega) hlo
 rw [blk_own] at hg
 have hform : ∃ A' c', v' = .slice A' (n + m) c' ∧ (A' = none → c' = 0) ∧ (A ≠ none ∨ 0 < m → ∃ g', A' = some ⟨g', 0, none⟩) := by
  rcases hown'.2 with ⟨e1, h0⟩ | ⟨g', cap, cur, e1, _⟩
  ·refine ⟨none, 0, by rw [e1, h0], fun _ => rfl, fun hh => ?_⟩
   have := (hnn.1 e1)
   rcases hh with hh | hh
   ·exact absurd (by have := this.1; injection this) hh
   ·omega
  ·exact ⟨_, _, e1, (fun e => by cases e), fun _ => ⟨g', rfl⟩⟩
 obtain ⟨A', c', rfl, hc', hf⟩ := hform
 rw [blk_own, blk_own] at hat
 exact ⟨A', c', w', hrun, ownL_app (hi2 := hi2) (H := H) h1 h2 hr h5 h6 hmid hlm k1 k5 (fun j hj => ⟨(k6 j hj).1, fun q hq => ⟨((k6 j hj).2 q hq).1, ((k6 j hj).2 q hq).2.1⟩⟩) hown' hg hat hc', hg, hat, (Below.refl lo w).grown hg hlo (fun k hk => (World.ownsRow.lt hr k (by rw [blk_own]; exact hk)).1), hf⟩
theorem wp_appL {w : World} {o : Oper} {a : Act} {K : Act → World → Prop} {Q : Exit → Act → World → Prop} (sx x : Operand) (T e : TypeId) (s : Sh) (z : Value) (bytes : Nat) (hT : Tryz.prog.underlying T = some (.slice e))
  (hI : (Tryz.prog.info? e).map (fun i => (i.zero, i.size, i.bytes)) = some (some z, nc s, bytes)) (hzc : z.cells.size = nc s) (hby : bytes ≤ 4096)
  (ho : o.op = .call { callee := .builtin .append, args := #[sx, x], argTypes := #[T, T] })
  (lo hi mid hi2 : Nat) (A : Option Addr) (n c g m c2 : Nat) (D E : List (Dat s)) (hs : a.eval sx = .slice A n c) (hown : OwnL w lo hi e s A n c D) (hxv : a.eval x = .slice (some ⟨g, 0, none⟩) m c2) (hx : OwnL w mid hi2 e s (some ⟨g, 0, none⟩) m c2 E) (hmid : hi ≤ mid) (hlm : lo ≤ mid) (hn : n ≤ 1048576) (hm : m ≤ 1048576) (hlo : lo ≤ w.heap.size)
  (h : ∀ A' c' w', OwnL w' lo w'.heap.size e s A' (n + m) c' (D ++ E) → w.grownBy w' (blk A) → (blk A' = blk A ∨ blk A' = some w.heap.size) → Below lo w w' → (A ≠ none ∨ 0 < m → ∃ g', A' = some ⟨g', 0, none⟩) → K (a.put o.dst (.slice A' (n + m) c')) w') : o.wp Tryz.prog a w K Q := by
 obtain ⟨A', c', w', hr, h2, h3, h4, h5, h6⟩ := run_appL o.type T e s z bytes hT hI hzc hby lo hi mid hi2 A n c g m c2 D E hown hx hmid hlm hn hm hlo
 unfold Oper.wp execOp
 simp only [ho, resolve, invoke, builtin, Sem.run_bind, Sem.run_pure, Result.andThen_ok, List.map_toArray, List.map_cons, List.map_nil, hs, hxv, hr]
 exact h A' c' w' h2 h3 h4 h5 h6
theorem appLm {w : World} {ops : Array Oper} {rest : List Oper} {o : Oper} {a : Act} {Q : Exit → Act → World → Prop} (hgd : o.guard = none) (sx x : Operand) (T e : TypeId) (s : Sh) (z : Value) (bytes : Nat) (hT : Tryz.prog.underlying T = some (.slice e))
  (hI : (Tryz.prog.info? e).map (fun i => (i.zero, i.size, i.bytes)) = some (some z, nc s, bytes)) (hzc : z.cells.size = nc s) (hby : bytes ≤ 4096)
  (ho : o.op = .call { callee := .builtin .append, args := #[sx, x], argTypes := #[T, T] })
  (lo hi mid hi2 : Nat) (A : Option Addr) (n c g m c2 : Nat) (D E : List (Dat s)) (hs : a.eval sx = .slice A n c) (hown : OwnL w lo hi e s A n c D) (hxv : a.eval x = .slice (some ⟨g, 0, none⟩) m c2) (hx : OwnL w mid hi2 e s (some ⟨g, 0, none⟩) m c2 E) (hmid : hi ≤ mid) (hlm : lo ≤ mid) (hn : n ≤ 1048576) (hm : m ≤ 1048576) (hlo : lo ≤ w.heap.size)
  (h : ∀ A' c' w', OwnL w' lo w'.heap.size e s A' (n + m) c' (D ++ E) → w.grownBy w' (blk A) → (blk A' = blk A ∨ blk A' = some w.heap.size) → Below lo w w' → (A ≠ none ∨ 0 < m → ∃ g', A' = some ⟨g', 0, none⟩) → wpList Tryz.prog ops Q rest (a.put o.dst (.slice A' (n + m) c')) w') : wpList Tryz.prog ops Q (o :: rest) a w :=
 wpList_plain hgd fun _ hK => wp_appL sx x T e s z bytes hT hI hzc hby ho lo hi mid hi2 A n c g m c2 D E hs hown hxv hx hmid hlm hn hm hlo fun A' c' w' h1 h2 h3 h4 h5 => hK _ _ (h A' c' w' h1 h2 h3 h4 h5)
end ownL
end
section
namespace stepSpec
open Go.RowKit base ints sig term termOk endAt endOf marks app sym sub segs segsHelp kinds termFacts shifted matchMath matchSpec shape kindsR kindsW ruleMath ruleSpec stepMath walkMath stepsMath ownL
set_option maxRecDepth 100000
structure Sn (w : World) (A V : Option Addr) (n cs q cv : Nat) (L : List St) (O : Option Addr) (on oc : Nat) (wr : World) : Prop where
 r : Row wr w.heap.size 33 #[.slice A n cs, .slice V q cv]
 o : OwnL wr (w.heap.size + 1) wr.heap.size 114 sStep O on oc L
 b : Below w.heap.size w wr
theorem Sn.len {w wr : World} {A V : Option Addr} {n cs q cv : Nat} {L : List St} {O : Option Addr} {on oc : Nat} (h : Sn w A V n cs q cv L O on oc wr) : L.length = on := h.o.1
end stepSpec
end
section
namespace peakSpec
open Go.RowKit base ints sig term termOk endAt marks app sym pathSpec place segs segsHelp kinds termFacts same shape kindsR kindsP varsOf shifted ruleMath ruleSpec stepMath walkMath stepSpec peakMath peakSame
set_option maxRecDepth 100000
theorem sym_no1 {t : List Int} {a : Int} (h : ¬ (0 ≤ a ∧ a ≤ (t.length : Int) - 1)) : symAt t a = false := by unfold symAt; exact decide_eq_false (by omega)
theorem sym_no2 {t : List Int} {a : Nat} (h : t.getD a 0 < 0) : symAt t (a : Int) = false := by unfold symAt; rw [Int.toNat_natCast]; exact decide_eq_false (by omega)
theorem sym_yes {t : List Int} {a : Nat} (h : a < t.length) (h' : ¬ t.getD a 0 < 0) : symAt t (a : Int) = true := by unfold symAt; rw [Int.toNat_natCast]; exact decide_eq_true (by omega)
end peakSpec
end
section
open Go.Lib (hid)
namespace trySpec
open Go.RowKit base ints sig term termOk termFacts sub sym varsOf marks app appAt segs kinds shape kindsR drawX fillMath matchMath unifMath forest triMath stk partsSpec bnd Go.Proofs.YtlmofkeemlfpgaaGreat.look occurs meetSpec fullSpec ruleMath ruleSpec peakMath
set_option maxRecDepth 100000
def lh (rs : List Rl) (o : Nat) : List Int := (rs.getD o ([], [])).1
def rh (rs : List Rl) (o : Nat) : List Int := (rs.getD o ([], [])).2
def oS (sg : List Int) (rs : List Rl) (o a : Nat) : List Int := subL sg (lh rs o) a
def oT (rs : List Rl) (u : Nat) : List Int := shiftL 24 (lh rs u)
theorem sys_rule {sg : List Int} {rs : List Rl} (h : sysOkB sg rs = true) {o : Nat} (ho : o < rs.length) : ruleOkB sg (rs.getD o ([], [])) = true := by
 unfold sysOkB at h
 simp only [Bool.and_eq_true, List.all_eq_true] at h
 refine h.2.2 _ ?_
 rw [List.getD_eq_getElem?_getD, List.getElem?_eq_getElem ho]
 exact List.getElem_mem _
theorem lh_ok {sg : List Int} {rs : List Rl} (h : sysOkB sg rs = true) {o : Nat} (ho : o < rs.length) : termOkB sg (lh rs o) = true := (rule_parts (sys_rule h ho)).1
theorem rh_ok {sg : List Int} {rs : List Rl} (h : sysOkB sg rs = true) {o : Nat} (ho : o < rs.length) : termOkB sg (rh rs o) = true := (rule_parts (sys_rule h ho)).2.1
theorem vb_term {sg t : List Int} (h : termOkB sg t = true) : Vb 48 t := ⟨(term_len h).2, fun x hx => by have := (term_mem h hx).1; omega⟩
theorem vb_shift {sg t : List Int} (h : termOkB sg t = true) : Vb 48 (shiftL 24 t) := by
 refine ⟨by rw [shift_len]; exact (term_len h).2, fun x hx => ?_⟩
 obtain ⟨y, hy, rfl⟩ := List.mem_map.1 hx
 have := (term_mem h hy).1
 unfold sh
 split <;> omega
theorem fo_shift {sg t : List Int} (h : termOkB sg t = true) : Fo sg 1 (shiftL 24 t) := by
 have := (fo_term h).fill (L := fun i => vt (i + 24)) fun i => Fo.vt _
 rw [shift_fill] at this
 exact this
theorem drop_sub {sg t : List Int} (h : termOkB sg t = true) {a : Nat} (ha : a < t.length) : t.drop a = subL sg t a ++ t.drop (a + (subL sg t a).length) := (sub_trm (term_parts h).2.2 ha).2
theorem sub_ok {sg t : List Int} (h : termOkB sg t = true) {a : Nat} (ha : a < t.length) : termOkB sg (subL sg t a) = true := (termMath.sub_term h ha).1
def Qb (N g R b : Nat) : Prop := b < N ∧ b ≠ R ∧ b ≠ g
theorem bd_rep (K i : Nat) : bd (List.replicate K []) i = [] := by
 unfold bd
 by_cases hi : i < K <;> simp [List.getD, hi]
theorem rdq_of {w : World} {N g R : Nat} {A : Option Addr} {n c B : Nat} {xs : List Int} (h : Seg w B A n xs) (hc : Cap A n c) (h1 : ∀ b, b < B → Qb N g R b) : RdQ w (Qb N g R) sI [.slice A n c] xs := by
 refine rdq_seg h.1 hc fun h0 => ?_
 obtain ⟨b, off, e, hb, hs⟩ := h.2 h0
 exact ⟨b, off, e, h1 b hb, hs⟩
def AnsTry (w : World) (sg s t : List Int) (e : Ending) (w' : World) : Prop :=
 ∃ (g R N : Nat) (ok : Bool) (B : List (List Int)), e = .returned (.tuple #[.pointer (some ⟨g, 0, none⟩), .bool ok]) ∧ w.heap.size ≤ g ∧ w.heap.size ≤ R ∧ g ≠ R ∧ N ≤ w'.heap.size ∧ Bnd w' (Qb N g R) g R B ∧ Below w.heap.size w w' ∧ (ok = true → Mid sg s t 48 B [] [] ∧ ∃ L rk, Res sg B L rk) ∧ (ok = false → ∀ θ, ¬ Unis sg s t θ)
set_option maxHeartbeats 2000000 in
theorem l11Try (A V : Option Addr) (n c q cv : Nat) (d : Dat sSystem) (o a u : Nat) (w : World) (h : Rd w w.heap.size sSystem [.slice A n c, .slice V q cv] d) (hz : sz sSystem d ≤ 1048576) (hok : sysOkB d.1 d.2 = true) (ho : o < d.2.length) (hu : u < d.2.length) (ha : a < (lh d.2 o).length) :
  Calls Tryz.prog 112 #[.agg #[.slice A n c, .slice V q cv], .int .i64 (o : Int), .int .i64 (a : Int), .int .i64 (u : Int)] w (AnsTry w d.1 (oS d.1 d.2 o a) (oT d.2 u)) := by
 obtain ⟨A1, n1, c1, A2, n2, c2, ea, ev, hA, kA, kV, hlen, hn, hn2, hr, hsg, hrs⟩ := rd_sys h hz
 injection ea with e1 e2 e3
 subst e1 e2 e3
 injection ev with e1 e2 e3
 subst e1 e2 e3
 have hmk : ∀ W : World, (Instr.makeSlice 61 (.int .i64 48) (.int .i64 48)).run Tryz.prog W = .ok (.slice (some ⟨W.heap.size, 0, none⟩) 48 48) (W.alloc (.cells (madeCells #[.slice none 0 0] 48) 22)) := fun W => segsHelp.run_make_lists 48 (by omega) W
 obtain ⟨bV, oV, lo, ro, xo, rfl, hbV, hxo, cLo, cRo, rdo⟩ := rd_at hr (Below.refl _ _) hlen (show o < q by omega)
 obtain ⟨bV2, oV2, lu, ru, xu, eV2, -, hxu, cLu, cRu, rdu⟩ := rd_at hr (Below.refl _ _) hlen (show u < q by omega)
 injection eV2 with eV2
 injection eV2 with eb eo
 subst eb eo
 obtain ⟨LA, ln, lc, RA, rn, rc, rfl, rfl, sLo, kLo, sRo, kRo, hln, hrn⟩ := rd_rule rdo (by have := hrs o (by omega); rw [hxo.out] at this; exact this)
 obtain ⟨MA, mn, mc, NA, nn, nc', rfl, rfl, sLu, kLu, sRu, kRu, hmn, hnn⟩ := rd_rule rdu (by have := hrs u (by omega); rw [hxu.out] at this; exact this)
 have eLo : xo.1 = lh d.2 o := by unfold lh; rw [hxo.out]
 have eLu : xu.1 = lh d.2 u := by unfold lh; rw [hxu.out]
 rw [eLo] at sLo
 rw [eLu] at sLu
 obtain ⟨W, hW⟩ : ∃ W, W = ((w.alloc (.cells #[.slice A n c, .slice (some ⟨bV, oV, none⟩) q cv] 33)).alloc (.cells (madeCells #[.slice none 0 0] 48) 22)).alloc (.cells #[.slice (some ⟨w.heap.size + 1, 0, none⟩) 48 48] 175) := ⟨_, rfl⟩
 have z1 : (w.alloc (.cells #[.slice A n c, .slice (some ⟨bV, oV, none⟩) q cv] 33)).heap.size = w.heap.size + 1 := by simp
 have z2 : ((w.alloc (.cells #[.slice A n c, .slice (some ⟨bV, oV, none⟩) q cv] 33)).alloc (.cells (madeCells #[.slice none 0 0] 48) 22)).heap.size = w.heap.size + 1 + 1 := by simp
 have zW : W.heap.size = w.heap.size + 1 + 1 + 1 := by rw [hW]; simp
 have bW : Below w.heap.size w W := by rw [hW]; exact (((Below.refl _ _).alloc (Nat.le_refl _) _).alloc (by simp) _).alloc (by simp; omega) _
 have rX : Row W w.heap.size 33 #[.slice A n c, .slice (some ⟨bV, oV, none⟩) q cv] := by rw [hW]; exact ((Row.new _ _ _).alloc _).alloc _
 have rR : Row W (w.heap.size + 1) 22 (madeCells #[.slice none 0 0] 48) := by
  have r1 := (Row.new (w.alloc (.cells #[.slice A n c, .slice (some ⟨bV, oV, none⟩) q cv] 33)) 22 (madeCells #[.slice none 0 0] 48)).alloc (.cells #[.slice (some ⟨w.heap.size + 1, 0, none⟩) 48 48] 175)
  rw [z1, ← hW] at r1
  exact r1
 have rG : Row W (w.heap.size + 1 + 1) 175 #[.slice (some ⟨w.heap.size + 1, 0, none⟩) 48 48] := by
  have r1 := Row.new ((w.alloc (.cells #[.slice A n c, .slice (some ⟨bV, oV, none⟩) q cv] 33)).alloc (.cells (madeCells #[.slice none 0 0] 48) 22)) 175 #[.slice (some ⟨w.heap.size + 1, 0, none⟩) 48 48]
  rw [z2, ← hW] at r1
  exact r1
 have BW : Bnd W (Qb w.heap.size (w.heap.size + 1 + 1) (w.heap.size + 1)) (w.heap.size + 1 + 1) (w.heap.size + 1) (List.replicate 48 []) := by
  refine ⟨rG, ⟨_, rR, by simp [madeCells], fun i hi => ⟨none, 0, 0, by simp [madeCells, hi, Nat.mod_one], ?_⟩⟩, by simp⟩
  rw [bd_rep]
  exact rdq_seg rfl ⟨Nat.le_refl _, by decide, fun _ => rfl⟩ fun h => absurd h (Nat.lt_irrefl _)
 have tLo := lh_ok hok ho
 have tLu := lh_ok hok hu
 have hsb : sigOkB d.1 = true := by unfold sysOkB at hok; rw [Bool.and_eq_true] at hok; exact hok.1
 have hars := (sig_arities hsb).1
 have hsl : (oS d.1 d.2 o a).length + a ≤ ln := by
  have h1 := congrArg List.length (drop_sub tLo ha)
  rw [List.length_append, List.length_drop, sLo.1] at h1
  have h2 : (subL d.1 (lh d.2 o) a).length = (oS d.1 d.2 o a).length := rfl
  have h3 := (term_len (sub_ok tLo ha)).1
  omega
 have q1 : W.cell? ⟨w.heap.size, 0, none⟩ = some (.slice A n c) := rX.cell 0
 have q2 : W.cell? ⟨w.heap.size, 1, none⟩ = some (.slice (some ⟨bV, oV, none⟩) q cv) := rX.cell 1
 have q3 : W.cell? ⟨bV, oV + o * 2, none⟩ = some (.slice LA ln lc) := (bW.cell (p := ⟨bV, oV + o * 2, none⟩) hbV).trans cLo
 have q4 : W.cell? ⟨bV, oV + u * 2, none⟩ = some (.slice MA mn mc) := (bW.cell (p := ⟨bV, oV + u * 2, none⟩) hbV).trans cLu
 have k1 := q1; have k2 := q2; have k3 := q3; have k4 := q4
 rw [hW] at k1 k2 k3 k4
 have j1 : (0 : Int) ≤ (o : Int) := by omega
 have j2 : (o : Int) < (q : Int) := by omega
 have j3 : (0 : Int) ≤ (u : Int) := by omega
 have j4 : (u : Int) < (q : Int) := by omega
 have HW := hid hW
 have HX := hid rX
 have HB := hid BW
 have HBW := hid bW
 have LE := hid (l13End A LA n c ln lc d.1 (lh d.2 o) a (oS d.1 d.2 o a) _ W (hA.next bW) (sLo.next bW) hn hln hars (drop_sub tLo ha) (fo_term (sub_ok tLo ha)))
 clear hr hsg hrs h hz rdo rdu sRo sRu kRo kRu cLo cRo cLu cRu hxo hxu rR rG BW hW rX eLo eLu
 go_enter Tryz.func112, Tryz.ntmps112
 go_wp2_with fail
 rw [← HW.out]
 refine LE.out.mono ?_
 rintro e w1 ⟨rfl, bb⟩
 have bel1 := next_trans HBW.out bb
 have HX1 := hid (HX.out.next bb)
 have B1 := HB.out.next bb (fun b hb => Nat.lt_of_lt_of_le hb.1 HBW.out.size)
 have zw1 := bb.size
 have p1 : w1.cell? ⟨w.heap.size, 0, none⟩ = some (.slice A n c) := HX1.out.cell 0
 have p2 : w1.cell? ⟨w.heap.size, 1, none⟩ = some (.slice (some ⟨bV, oV, none⟩) q cv) := HX1.out.cell 1
 have hbW : bV < W.heap.size := by omega
 have p3 : w1.cell? ⟨bV, oV + o * 2, none⟩ = some (.slice LA ln lc) := (bb.cell (p := ⟨bV, oV + o * 2, none⟩) hbW).trans q3
 have p4 : w1.cell? ⟨bV, oV + u * 2, none⟩ = some (.slice MA mn mc) := (bb.cell (p := ⟨bV, oV + u * 2, none⟩) hbW).trans q4
 have hoS := (term_len (sub_ok tLo ha)).1
 obtain ⟨sl, hsl9⟩ : ∃ sl, (oS d.1 d.2 o a).length = sl := ⟨_, rfl⟩
 rw [show (subL d.1 (lh d.2 o) a).length = sl from hsl9] at hoS
 rw [hsl9] at hsl ⊢
 obtain ⟨bl, ol, -, rfl, hbl, -, -⟩ := sLo.spot (show a < ln by omega)
 have i0 : (0 : Int) ≤ (a : Int) := by omega
 have i1 : (a : Int) ≤ ((a + sl : Nat) : Int) := by omega
 have hlc := kLo.1
 have i2 : ((a + sl : Nat) : Int) ≤ (lc : Int) := by omega
 have i3 : ¬ lc = a := by omega
 have i4 : (a : Int) ≤ (a : Int) + (sl : Int) := by omega
 have i5 : (a : Int) + (sl : Int) ≤ (lc : Int) := by omega
 have i6 : ((a : Int) + (sl : Int)).toNat - a = sl := by omega
 have LAw := hid (l11Away MA mn mc (lh d.2 u) w1.drew ((sLu.next bel1).drew) hmn (fun x hx => by have := (term_mem tLu hx).1; omega))
 have hsl60 := (term_len tLu).2
 have hcut : RdQ w1 (Qb w.heap.size (w.heap.size + 1 + 1) (w.heap.size + 1)) sI [.slice (some ⟨bl, ol + a, none⟩) sl (lc - a)] (oS d.1 d.2 o a) := by
  have h1 := rdq_cut (at_ := a) (j := sl) (rdq_of (N := w.heap.size) (g := w.heap.size + 1 + 1) (R := w.heap.size + 1) (sLo.below bel1) kLo (fun b hb => ⟨hb, by omega, by omega⟩)) hoS (by omega)
  have e : ((lh d.2 o).drop a).take sl = oS d.1 d.2 o a := by
   rw [drop_sub tLo ha, ← hsl9]
   exact List.take_left
  rw [e] at h1
  exact h1
 have LM := hid (fun (w4 : World) (Y : Option Addr) (yn yc : Nat) (b4 : Below w1.heap.size w1.drew w4) (oY : Own w4 w1.heap.size (.slice Y yn yc) (shiftL 24 (lh d.2 u))) =>
  (show Calls Tryz.prog 147 #[.agg #[.slice A n c], .pointer (some ⟨w.heap.size + 1 + 1, 0, none⟩), .slice (some ⟨bl, ol + a, none⟩) sl (lc - a), .slice Y yn yc] w4 (AnsMeet w4 (Qb w4.heap.size (w.heap.size + 1 + 1) (w.heap.size + 1)) (w.heap.size + 1 + 1) (w.heap.size + 1) d.1 (oS d.1 d.2 o a) (oT d.2 u)) from by
   have hz4 := b4.size
   have hz4 : w1.heap.size ≤ w4.heap.size := hz4
   have b4' : Below w1.heap.size w1 w4 := (Below.refl w1.heap.size w1).drew.trans b4
   have hmo : ∀ b, Qb w.heap.size (w.heap.size + 1 + 1) (w.heap.size + 1) b → Qb w4.heap.size (w.heap.size + 1 + 1) (w.heap.size + 1) b := fun b hb => ⟨by have := hb.1; omega, hb.2.1, hb.2.2⟩
   have hlt1 : ∀ b, Qb w.heap.size (w.heap.size + 1 + 1) (w.heap.size + 1) b → b < w1.heap.size := fun b hb => by have := hb.1; omega
   refine l11Meet _ _ _ A _ Y n c sl (lc - a) yn yc d.1 _ _ w4 ((B1.next b4' hlt1).mono hmo) (fun b hb => ⟨hb.1, hb.2.1⟩) (by omega) ?_ hn hars ((hcut.keep (Keep.below b4' hlt1)).mono hmo) ?_ ⟨fo_term (sub_ok tLo ha), vb_term (sub_ok tLo ha)⟩ ⟨fo_shift tLu, vb_shift tLu⟩
   ·exact (rdq_of (N := w.heap.size) ((hA.below bel1).below (b4'.mono (by omega))) kA (fun b hb => ⟨hb, by omega, by omega⟩)).mono hmo
   ·exact rdq_own oY (fun b h1 h2 _ => ⟨h2, by omega, by omega⟩)))
 have zz : w.heap.size < w1.heap.size := HX1.out.lt
 have zb1 : bV < w1.heap.size := by omega
 clear LE HW HX HB k1 k2 k3 k4 q1 q2 q3 q4 hcut B1
 go_wp2_with fail
 go_region_held3 (fun w' => w'.cell? ⟨w.heap.size, 0, none⟩ = some (.slice A n c) ∧ w'.cell? ⟨w.heap.size, 1, none⟩ = some (.slice (some ⟨bV, oV, none⟩) q cv) ∧ w'.cell? ⟨bV, oV + u * 2, none⟩ = some (.slice MA mn mc))
  (go_keep)
  (first
   | (go_at_call 113; refine LAw.out.mono ?_; rintro e w4 ⟨Y, yn, yc, rfl, oY, b4⟩; have b49 : Below w1.heap.size w1 w4 := next_trans ((Below.refl w1.heap.size w1).drew) b4; have m0 : w4.cell? ⟨w.heap.size, 0, none⟩ = some (.slice A n c) := (b49.cell (p := ⟨w.heap.size, 0, none⟩) zz).trans p1; have m1 : w4.cell? ⟨w.heap.size, 1, none⟩ = some (.slice (some ⟨bV, oV, none⟩) q cv) := (b49.cell (p := ⟨w.heap.size, 1, none⟩) zz).trans p2; have m2 : w4.cell? ⟨bV, oV + u * 2, none⟩ = some (.slice MA mn mc) := (b49.cell (p := ⟨bV, oV + u * 2, none⟩) zb1).trans p4)
   | (go_at_call 147; refine (LM.out w4 Y yn yc b4 oY).mono ?_; rintro e w5 ⟨ok, B5, rfl, bn5, g5, h5, h6⟩; have b5 : Below (w.heap.size + 1) w4 w5 := (Below.refl (w.heap.size + 1) w4).grown g5 (Nat.le_trans zz b49.size) (fun k hk => (Nat.le_of_eq (Option.some.inj hk))); have n0 : w5.cell? ⟨w.heap.size, 0, none⟩ = some (.slice A n c) := (b5.cell (p := ⟨w.heap.size, 0, none⟩) (Nat.lt_succ_self _)).trans m0; have n1 : w5.cell? ⟨w.heap.size, 1, none⟩ = some (.slice (some ⟨bV, oV, none⟩) q cv) := (b5.cell (p := ⟨w.heap.size, 1, none⟩) (Nat.lt_succ_self _)).trans m1; have n2 : w5.cell? ⟨bV, oV + u * 2, none⟩ = some (.slice MA mn mc) := (b5.cell (p := ⟨bV, oV + u * 2, none⟩) (Nat.lt_succ_of_lt hbV)).trans m2))
 have F := hid (show AnsTry w d.1 (oS d.1 d.2 o a) (oT d.2 u) (.returned (.tuple #[.pointer (some ⟨w.heap.size + 1 + 1, 0, none⟩), .bool ok])) w5 from
  ⟨_, _, w4.heap.size, ok, B5, rfl, by omega, by omega, by omega, g5.size, bn5, (bel1.trans (b49.mono (by omega))).trans (b5.mono (by omega)), h5, h6⟩)
 clear LAw LM p1 p2 p3 p4 m0 m1 m2 n0 n1 n2 b4 b49 b5 g5 bn5 oY h5 h6
 go_wp2
 go_ret2
 exact F.out
open Classical in
noncomputable def unB (sg : List Int) (rs : List Rl) (o a u : Nat) : Bool := decide (∃ θ, Unis sg (oS sg rs o a) (oT rs u) θ)
theorem unB_yes {sg : List Int} {rs : List Rl} {o a u : Nat} {θ : Nat → List Int} (h : Unis sg (oS sg rs o a) (oT rs u) θ) : unB sg rs o a u = true := by
 unfold unB
 exact @decide_eq_true _ (Classical.propDecidable _) ⟨θ, h⟩
theorem unB_no {sg : List Int} {rs : List Rl} {o a u : Nat} (h : ∀ θ, ¬ Unis sg (oS sg rs o a) (oT rs u) θ) : unB sg rs o a u = false := by
 unfold unB
 exact @decide_eq_false _ (Classical.propDecidable _) fun ⟨θ, hθ⟩ => h θ hθ
theorem try_un {sg : List Int} {rs : List Rl} {o a u : Nat} {ok : Bool} {B : List (List Int)} (h5 : ok = true → Mid sg (oS sg rs o a) (oT rs u) 48 B [] [] ∧ ∃ L rk, Res sg B L rk) (h6 : ok = false → ∀ θ, ¬ Unis sg (oS sg rs o a) (oT rs u) θ) : ok = unB sg rs o a u := by
 cases ok with
 | true =>
  obtain ⟨hm, L, rk, hr⟩ := h5 rfl
  exact (unB_yes (hm.end hr).uni).symm
 | false => exact (unB_no (h6 rfl)).symm
noncomputable def metB (sg : List Int) (rs : List Rl) (o x u : Int) : Bool := mayB rs o x u && unB sg rs o.toNat x.toNat u.toNat
theorem may_nat {rs : List Rl} {o u : Nat} {x : Int} (ho : o < rs.length) (hu : u < rs.length) : mayB rs (o : Int) x (u : Int) = (symAt (lh rs o) x && !decide (x = 0 ∧ (o : Int) = (u : Int))) := by
 unfold mayB
 have e1 : walkMath.inB (o : Int) rs.length = true := by unfold walkMath.inB; exact decide_eq_true (by omega)
 have e2 : walkMath.inB (u : Int) rs.length = true := by unfold walkMath.inB; exact decide_eq_true (by omega)
 rw [e1, e2, Bool.true_and, Bool.true_and]
 unfold lhsI lh
 rw [Int.toNat_natCast]
set_option maxHeartbeats 1000000 in
theorem l11Meets (A V : Option Addr) (n c q cv : Nat) (d : Dat sSystem) (o u : Nat) (x : Int) (w : World) (h : Rd w w.heap.size sSystem [.slice A n c, .slice V q cv] d) (hz : sz sSystem d ≤ 1048576) (hok : sysOkB d.1 d.2 = true) (ho : o < d.2.length) (hu : u < d.2.length) :
  Calls Tryz.prog 78 #[.agg #[.slice A n c, .slice V q cv], .int .i64 (o : Int), .int .i64 x, .int .i64 (u : Int)] w (AnsB w (metB d.1 d.2 o x u)) := by
 obtain ⟨A1, n1, c1, A2, n2, c2, ea, ev, hA, kA, kV, hlen, hn, hn2, hr, hsg, hrs⟩ := rd_sys h hz
 injection ea with e1 e2 e3
 subst e1 e2 e3
 injection ev with e1 e2 e3
 subst e1 e2 e3
 obtain ⟨bV, oV, lo, ro, xo, rfl, hbV, hxo, cLo, cRo, rdo⟩ := rd_at hr (Below.refl _ _) hlen (show o < q by omega)
 obtain ⟨LA, ln, lc, RA, rn, rc, rfl, rfl, sLo, kLo, sRo, kRo, hln, hrn⟩ := rd_rule rdo (by have := hrs o (by omega); rw [hxo.out] at this; exact this)
 have eLo : xo.1 = lh d.2 o := by unfold lh; rw [hxo.out]
 rw [eLo] at sLo
 obtain ⟨W, hW, rX, bW⟩ := box1 w 33 #[.slice A n c, .slice (some ⟨bV, oV, none⟩) q cv]
 have k1 : W.cell? ⟨w.heap.size, 1, none⟩ = some (.slice (some ⟨bV, oV, none⟩) q cv) := rX.cell 1
 have k0 : W.cell? ⟨w.heap.size, 0, none⟩ = some (.slice A n c) := rX.cell 0
 have k3 : W.cell? ⟨bV, oV + o * 2, none⟩ = some (.slice LA ln lc) := (bW.cell (p := ⟨bV, oV + o * 2, none⟩) hbV).trans cLo
 have g0 := k0; have g1 := k1; have g3 := k3
 rw [hW] at g0 g1 g3
 have HW := hid hW
 have sW := sLo.next bW
 have j1 : (0 : Int) ≤ (o : Int) := by omega
 have j2 : (o : Int) < (q : Int) := by omega
 have hlL := sLo.1
 have HM := hid (show metB d.1 d.2 o x u = ((symAt (lh d.2 o) x && !decide (x = 0 ∧ (o : Int) = (u : Int))) && unB d.1 d.2 o x.toNat u) from by unfold metB; rw [may_nat ho hu, Int.toNat_natCast, Int.toNat_natCast])
 have LT := hid (fun (a : Nat) (ha : a < (lh d.2 o).length) => l11Try A (some ⟨bV, oV, none⟩) n c q cv d o a u W (h.next bW) hz hok ho hu ha)
 have HL := hid hlL
 have HBW := hid bW
 clear hr hsg hrs h hz rdo sRo kRo cRo hxo rX hW eLo bW hlL
 by_cases h1 : 0 ≤ x ∧ x ≤ (ln : Int) - 1
 case neg =>
  have F := hid (show AnsB w (metB d.1 d.2 o x u) (.returned (.bool false)) W from ansB (by rw [HM.out, peakSpec.sym_no1 (by rw [HL.out]; exact h1)]; rfl) HBW.out)
  have L := hid (inNo x 0 ((ln : Int) - 1) W h1)
  go_enter Tryz.func78, Tryz.ntmps78
  go_wp2_with fail
  rw [← HW.out]
  refine L.out.mono ?_
  rintro e w1 ⟨rfl, rfl⟩
  go_wp2
  go_ret
  exact F.out
 obtain ⟨a, rfl⟩ := Int.eq_ofNat_of_zero_le h1.1
 have hal : a < ln := by omega
 obtain ⟨bl, ol, y, rfl, hbl, cy, ey⟩ := sW.spot hal
 have L := hid (inYes (a : Int) 0 ((ln : Int) - 1) W h1)
 have i0 : (0 : Int) ≤ (a : Int) := by omega
 have i1 : (a : Int) < (ln : Int) := by omega
 clear h1
 by_cases hy : y < 0
 ·have F := hid (show AnsB w (metB d.1 d.2 o a u) (.returned (.bool false)) W from ansB (by rw [HM.out, peakSpec.sym_no2 (by rw [ey.out]; exact hy)]; rfl) HBW.out)
  clear LT sW
  go_enter Tryz.func78, Tryz.ntmps78
  go_wp2_with fail
  rw [← HW.out]
  refine L.out.mono ?_
  rintro e w1 ⟨rfl, rfl⟩
  go_wp2
  go_ret
  exact F.out
 have d0 : decide (y < 0) = false := decide_eq_false hy
 have HSY := hid (peakSpec.sym_yes (t := lh d.2 o) (a := a) (by rw [HL.out]; exact hal) (by rw [ey.out]; exact hy))
 have LT2 := hid (LT.out a (by rw [HL.out]; exact hal))
 clear LT sW
 by_cases ha0 : a = 0
 ·subst ha0
  have cy0 : W.cell? ⟨bl, ol, none⟩ = some (.int .i64 y) := cy
  have LT0 : Hid (Calls Tryz.prog 112 #[.agg #[.slice A n c, .slice (some ⟨bV, oV, none⟩) q cv], .int .i64 (o : Int), .int .i64 0, .int .i64 (u : Int)] W (AnsTry W d.1 (oS d.1 d.2 o 0) (oT d.2 u))) := LT2
  have L0 : Hid (Calls Tryz.prog 94 #[.int .i64 0, .int .i64 0, .int .i64 ((ln : Int) - 1)] W fun e w' => W = w' ∧ e = .returned (.bool true)) := L
  have HM0 := hid (show metB d.1 d.2 o 0 u = (true && !decide ((0 : Int) = 0 ∧ (o : Int) = (u : Int)) && unB d.1 d.2 o 0 u) from by rw [← HSY.out]; exact HM.out)
  have z1 : (0 : Int) < (ln : Int) := by omega
  clear LT2 L cy i0 i1 HM
  show Calls _ _ #[_, _, .int .i64 0, _] w (AnsB w (metB d.1 d.2 o 0 u))
  by_cases hou : o = u
  ·subst hou
   have F := hid (show AnsB w (metB d.1 d.2 o 0 o) (.returned (.bool false)) W from ansB (by rw [HM0.out]; simp) HBW.out)
   clear LT0 HM0
   go_enter Tryz.func78, Tryz.ntmps78
   go_wp2_with fail
   rw [← HW.out]
   refine L0.out.mono ?_
   rintro e w1 ⟨rfl, rfl⟩
   go_wp2
   go_ret
   exact F.out
  ·have n2 : ((o : Int) == (u : Int)) = false := by simp; omega
   have HN := hid (show (!decide ((0 : Int) = 0 ∧ (o : Int) = (u : Int))) = true from by rw [decide_eq_false (fun h => hou (by omega))]; rfl)
   go_enter Tryz.func78, Tryz.ntmps78
   go_wp2_with fail
   rw [← HW.out]
   refine L0.out.mono ?_
   rintro e w1 ⟨rfl, rfl⟩
   go_wp2_with fail
   refine LT0.out.mono ?_
   rintro e w2 ⟨g, R, N, ok, B, rfl, -, -, -, -, -, b2, h5, h6⟩
   have F := hid (show AnsB w (metB d.1 d.2 o 0 u) (.returned (.bool ok)) w2 from ansB (by rw [HM0.out, HN.out, try_un h5 h6]; rfl) (next_trans HBW.out b2))
   clear LT0 b2 h5 h6
   go_wp2
   go_ret
   exact F.out
 ·have n0 : ((a : Int) == 0) = false := by simpa using ha0
  have n1 : ¬ (a : Int) = 0 := by omega
  have HD := hid (show (!decide ((a : Int) = 0 ∧ (o : Int) = (u : Int))) = true from by
   rw [decide_eq_false (fun h => n1 h.1)]; rfl)
  go_enter Tryz.func78, Tryz.ntmps78
  go_wp2_with fail
  rw [← HW.out]
  refine L.out.mono ?_
  rintro e w1 ⟨rfl, rfl⟩
  go_wp2_with fail
  refine LT2.out.mono ?_
  rintro e w2 ⟨g, R, N, ok, B, rfl, -, -, -, -, -, b2, h5, h6⟩
  have F := hid (show AnsB w (metB d.1 d.2 o a u) (.returned (.bool ok)) w2 from ansB (by rw [HM.out, HSY.out, HD.out, Int.toNat_natCast, try_un h5 h6]; rfl) (next_trans HBW.out b2))
  clear LT2 b2 h5 h6
  go_wp2
  go_ret
  exact F.out
end trySpec
end
section
namespace overSpec
open Go.RowKit base ints sig term termOk termFacts sub sym varsOf marks app appAt segs kinds shape kindsR drawX fillMath matchMath Go.Proofs.YtlmofkeemlfpgaaGreat.look ruleMath ruleSpec peakMath peakSpec trySpec
set_option maxRecDepth 100000
variable {sg : List Int} {rs : List Rl}
end overSpec
end
section
namespace ovsMath
open sig ruleMath trySpec overSpec
section
variable (met : Nat → Nat → Nat → Bool) (wB : Nat → Nat → Bool) (len : Nat → Nat) (n : Nat)
def rowV (o a k : Nat) : List (Nat × Nat × Nat) := (List.range k).filterMap fun u => if (wB o u && met o a u) = true then some (o, a, u) else none
def colV (o k : Nat) : List (Nat × Nat × Nat) := (List.range k).flatMap fun a => rowV met wB o a n
def allV (k : Nat) : List (Nat × Nat × Nat) := (List.range k).flatMap fun o => colV met wB n o (len o)
end
section
variable {met : Nat → Nat → Nat → Bool} {wB : Nat → Nat → Bool} {len : Nat → Nat} {n : Nat}
theorem row_zero (o a : Nat) : rowV met wB o a 0 = [] := rfl
theorem row_yes {o a u : Nat} (h1 : wB o u = true) (h2 : met o a u = true) : rowV met wB o a (u + 1) = rowV met wB o a u ++ [(o, a, u)] := by
 unfold rowV
 rw [List.range_succ, List.filterMap_append]
 simp [h1, h2]
theorem row_no {o a u : Nat} (h : (wB o u && met o a u) = false) : rowV met wB o a (u + 1) = rowV met wB o a u := by
 unfold rowV
 rw [List.range_succ, List.filterMap_append]
 simp only [List.filterMap_cons, h, Bool.false_eq_true, if_false, List.filterMap_nil, List.append_nil]
theorem col_zero (o : Nat) : colV met wB n o 0 = [] := rfl
theorem col_succ (o a : Nat) : colV met wB n o (a + 1) = colV met wB n o a ++ rowV met wB o a n := by simp [colV, List.range_succ]
theorem all_succ (o : Nat) : allV met wB len n (o + 1) = allV met wB len n o ++ colV met wB n o (len o) := by simp [allV, List.range_succ]
theorem pre_of_le {α : Type} {f : Nat → List α} (h : ∀ k, f k <+: f (k + 1)) : ∀ {x y : Nat}, x ≤ y → f x <+: f y := by
 intro x y hxy
 obtain ⟨d, rfl⟩ : ∃ d, y = x + d := ⟨y - x, by omega⟩
 clear hxy
 induction d with
 | zero => exact List.prefix_refl _
 | succ d ih => exact ih.trans (h (x + d))
theorem row_pre {o a k q : Nat} (h : k ≤ q) : rowV met wB o a k <+: rowV met wB o a q := by
 refine pre_of_le (f := rowV met wB o a) (fun j => ?_) h
 cases hb : wB o j && met o a j with
 | false => rw [row_no hb]; exact List.prefix_refl _
 | true =>
  rw [Bool.and_eq_true] at hb
  rw [row_yes hb.1 hb.2]
  exact List.prefix_append _ _
theorem col_pre {o k q : Nat} (h : k ≤ q) : colV met wB n o k <+: colV met wB n o q :=
 pre_of_le (f := colV met wB n o) (fun j => by rw [col_succ]; exact List.prefix_append _ _) h
theorem all_pre {k q : Nat} (h : k ≤ q) : allV met wB len n k <+: allV met wB len n q :=
 pre_of_le (f := allV met wB len n) (fun j => by rw [all_succ]; exact List.prefix_append _ _) h
theorem part_pre {o a u r : Nat} (ho : o < r) (ha : a < len o) (hu : u ≤ n) : allV met wB len n o ++ (colV met wB n o a ++ rowV met wB o a u) <+: allV met wB len n r := by
 have h1 : rowV met wB o a u <+: rowV met wB o a n := row_pre hu
 have h2 : colV met wB n o a ++ rowV met wB o a n <+: colV met wB n o (len o) := by
  rw [← col_succ]
  exact col_pre ha
 have h3 : allV met wB len n o ++ colV met wB n o (len o) <+: allV met wB len n r := by
  rw [← all_succ]
  exact all_pre ho
 exact ((List.prefix_append_right_inj _).2 (((List.prefix_append_right_inj _).2 h1).trans h2)).trans h3
theorem mem_all {o a u r : Nat} (h : (o, a, u) ∈ allV met wB len n r) : (o < r ∧ a < len o ∧ u < n) ∧ wB o u = true ∧ met o a u = true := by
 unfold allV at h
 obtain ⟨o', ho', h⟩ := List.mem_flatMap.1 h
 unfold colV at h
 obtain ⟨a', ha', h⟩ := List.mem_flatMap.1 h
 unfold rowV at h
 obtain ⟨u', hu', h⟩ := List.mem_filterMap.1 h
 split at h
 ·rename_i hb
  injection h with h
  injection h with e1 h
  injection h with e2 e3
  subst e1 e2 e3
  rw [Bool.and_eq_true] at hb
  exact ⟨⟨List.mem_range.1 ho', List.mem_range.1 ha', List.mem_range.1 hu'⟩, hb⟩
 ·cases h
end
section
variable {met : Nat → Nat → Nat → Bool} {len : Nat → Nat} {n X Y : Nat}
end
noncomputable def ovs (sg : List Int) (rs : List Rl) (wB : Nat → Nat → Bool) : List (Nat × Nat × Nat) := allV (fun o a u => metB sg rs (o : Int) (a : Int) (u : Int)) wB (fun o => (lh rs o).length) rs.length rs.length
end ovsMath
end
section
namespace renPure
open sig term termOk termFacts varsMath fillMath renMath
theorem ren_fill (t : List Int) (o : List Int) : fillL (fun i => vt (idx o (-1 - (i : Int)))) t = t.map (ren o) := by
 induction t with
 | nil => rfl
 | cons x r ih =>
  rw [fill_cons, ih, List.map_cons]
  unfold rep ren
  by_cases h : 0 ≤ x
  ·rw [if_pos h, if_neg (by omega)]; rfl
  ·rw [if_neg h, if_pos (by omega)]
   show vt (idx o (-1 - (((-1 - x).toNat : Nat) : Int))) ++ _ = _
   rw [show (-1 - (((-1 - x).toNat : Nat) : Int) : Int) = x by omega]
   rfl
theorem ren_yes {o : List Int} {x : Int} (h : x < 0) : ren o x = -1 - (idx o x : Int) := by unfold ren; rw [if_pos h]
theorem ren_no {o : List Int} {x : Int} (h : ¬ x < 0) : ren o x = x := by unfold ren; rw [if_neg h]
theorem idx_map_on {f : Int → Int} {o : List Int} {x : Int} (hx : x ∈ o) (hf : ∀ a ∈ o, f a = f x → a = x) : idx (o.map f) (f x) = idx o x := by
 induction o with
 | nil => cases hx
 | cons y r ih =>
  rw [List.map_cons, idx, idx]
  by_cases h : y = x
  ·rw [if_pos (by rw [h]), if_pos h]
  ·rw [if_neg (fun e => h (hf y (List.mem_cons_self ..) e)), if_neg h]
   rcases List.mem_cons.1 hx with e | e
   ·exact absurd e.symm h
   ·rw [ih e (fun a ha => hf a (List.mem_cons_of_mem _ ha))]
theorem fold_map {f : Int → Int} {t : List Int} (hf : ∀ a ∈ t, ∀ b ∈ t, f a = f b → a = b) (hn : ∀ x, f x < 0 ↔ x < 0) : ∀ (l o : List Int), (∀ x ∈ l, x ∈ t) → (∀ x ∈ o, x ∈ t) → (l.map f).foldl extV (o.map f) = (l.foldl extV o).map f
 | [], _, _, _ => rfl
 | x :: l, o, hl, ho => by
  have hx := hl x (List.mem_cons_self ..)
  rw [List.map_cons, List.foldl_cons, List.foldl_cons]
  have e : extV (o.map f) (f x) = (extV o x).map f := by
   unfold extV
   by_cases h : x < 0
   ·rw [if_pos ((hn x).2 h), if_pos h]
    unfold ext
    by_cases hm : x ∈ o
    ·rw [if_pos hm, if_pos (List.mem_map.2 ⟨x, hm, rfl⟩)]
    ·rw [if_neg hm, if_neg, List.map_append]
     ·rfl
     ·intro h2
      obtain ⟨y, hy, e⟩ := List.mem_map.1 h2
      exact hm (hf y (ho y hy) x hx e ▸ hy)
   ·rw [if_neg (fun h2 => h ((hn x).1 h2)), if_neg h]
  rw [e]
  refine fold_map hf hn l (extV o x) (fun y hy => hl y (List.mem_cons_of_mem _ hy)) (fun y hy => ?_)
  rcases extV_mem.1 hy with ⟨rfl, _⟩ | h
  ·exact hx
  ·exact ho y h
end renPure
end
section
namespace pkMath
open sig term termOk termFacts fillMath renMath renPure matchMath unifMath forest triMath ruleMath
def nu (N : Nat → List Int) (Z : List Int) (x : Int) : Int := if x ∈ Z ∧ x < 0 then (N (vr x)).getD 0 0 else x
theorem nu_facts {N N' : Nat → List Int} {Z : List Int} (hN : ∀ i, 1 ≤ (N i).length) (hN' : ∀ i, 1 ≤ (N' i).length) (h : fillL N' (fillL N Z) = Z) :
  (∀ x, nu N Z x < 0 ↔ x < 0) ∧ (∀ x ∈ Z, ∀ y ∈ Z, nu N Z x = nu N Z y → x = y) ∧ (∀ x ∈ Z, rep N x = [nu N Z x]) := by
 have h1 : ∀ x ∈ Z, x < 0 → fillL N' (N (vr x)) = [x] := by
  rw [fill_fill] at h
  exact fill_fix (L := fun i => fillL N' (N i)) (fun i => Nat.le_trans (hN i) (fill_ge hN' _)) h
 have h2 : ∀ x ∈ Z, x < 0 → ∃ y, y < 0 ∧ N (vr x) = [y] ∧ N' (vr y) = [x] := by
  intro x hx h0
  have h3 := h1 x hx h0
  have h4 := fill_ge hN' (N (vr x))
  rw [h3] at h4
  obtain ⟨y, hy⟩ : ∃ y, N (vr x) = [y] := List.length_eq_one_iff.1 (by have := hN (vr x); simp at h4; omega)
  rw [hy, fill_one] at h3
  by_cases hy0 : y < 0
  ·rw [rep_vr hy0] at h3
   exact ⟨y, hy0, hy, h3⟩
  ·rw [rep_sym (by omega)] at h3
   injection h3 with h3
   omega
 have h3 : ∀ x, x ∈ Z → x < 0 → nu N Z x < 0 ∧ N (vr x) = [nu N Z x] ∧ N' (vr (nu N Z x)) = [x] := by
  intro x hx h0
  obtain ⟨y, h4, h5, h6⟩ := h2 x hx h0
  have e : nu N Z x = y := by unfold nu; rw [if_pos ⟨hx, h0⟩, h5]; rfl
  rw [e]
  exact ⟨h4, h5, h6⟩
 have h4 : ∀ x, ¬ x < 0 → nu N Z x = x := fun x h0 => by unfold nu; rw [if_neg (fun h => h0 h.2)]
 have h5 : ∀ x, nu N Z x < 0 ↔ x < 0 := by
  intro x
  by_cases h0 : x < 0
  ·by_cases hx : x ∈ Z
   ·exact ⟨fun _ => h0, fun _ => (h3 x hx h0).1⟩
   ·unfold nu; rw [if_neg (fun h => hx h.1)]
  ·rw [h4 x h0]
 refine ⟨h5, ?_, ?_⟩
 ·intro x hx y hy e
  by_cases h0 : x < 0
  ·have h6 : y < 0 := by rw [← h5 y, ← e, h5]; exact h0
   have h7 := (h3 x hx h0).2.2
   rw [e, (h3 y hy h6).2.2] at h7
   injection h7 with h7
   exact h7.symm
  ·have h6 : ¬ y < 0 := by rw [← h5 y, ← e, h5]; exact h0
   rw [h4 x h0, h4 y h6] at e
   exact e
 ·intro x hx
  by_cases h0 : x < 0
  ·rw [rep_vr h0]; exact (h3 x hx h0).2.1
  ·rw [rep_sym (by omega), h4 x h0]
theorem fill_nu {N : Nat → List Int} {Z : List Int} (h : ∀ x ∈ Z, rep N x = [nu N Z x]) : ∀ {t : List Int}, (∀ x ∈ t, x ∈ Z) → fillL N t = t.map (nu N Z)
 | [], _ => rfl
 | x :: t, ht => by
  rw [fill_cons, h x (ht x (List.mem_cons_self ..)), fill_nu h (fun y hy => ht y (List.mem_cons_of_mem _ hy))]
  rfl
def pk3 (T A R : List Int) : Option (List Int × List Int × List Int) := if T.length ≤ 60 ∧ A.length ≤ 60 ∧ R.length ≤ 60 ∧ (orderL T).length ≤ 24 then some (byL (orderL T) T, byL (orderL T) A, byL (orderL T) R) else none
theorem pk_same {T A R T' A' R' : List Int} {N N' : Nat → List Int} (hN : ∀ i, 1 ≤ (N i).length) (hN' : ∀ i, 1 ≤ (N' i).length)
  (e1 : T' = fillL N T) (e2 : A' = fillL N A) (e3 : R' = fillL N R) (f1 : T = fillL N' T') (f2 : A = fillL N' A') (f3 : R = fillL N' R')
  (vA : ∀ x ∈ A, x < 0 → x ∈ T) (vR : ∀ x ∈ R, x < 0 → x ∈ T) : pk3 T A R = pk3 T' A' R' := by
 obtain ⟨Z, hZ⟩ : ∃ Z, T ++ (A ++ R) = Z := ⟨_, rfl⟩
 have hz : fillL N' (fillL N Z) = Z := by rw [← hZ, fill_append, fill_append, fill_append, fill_append, ← e1, ← e2, ← e3, ← f1, ← f2, ← f3]
 have hT : ∀ x ∈ T, x ∈ Z := fun x h => by rw [← hZ]; exact List.mem_append_left _ h
 have hA : ∀ x ∈ A, x ∈ Z := fun x h => by rw [← hZ]; exact List.mem_append_right _ (List.mem_append_left _ h)
 have hR : ∀ x ∈ R, x ∈ Z := fun x h => by rw [← hZ]; exact List.mem_append_right _ (List.mem_append_right _ h)
 obtain ⟨n1, n2, n3⟩ := nu_facts hN hN' hz
 have g1 : T' = T.map (nu N Z) := e1.trans (fill_nu n3 hT)
 have g2 : A' = A.map (nu N Z) := e2.trans (fill_nu n3 hA)
 have g3 : R' = R.map (nu N Z) := e3.trans (fill_nu n3 hR)
 have o1 : orderL T' = (orderL T).map (nu N Z) := by
  rw [g1]
  exact fold_map (t := T) (o := []) (fun a ha b hb => n2 a (hT a ha) b (hT b hb)) n1 T (fun x h => h) (fun x h => by cases h)
 have by_ : ∀ X : List Int, (∀ x ∈ X, x ∈ Z) → (∀ x ∈ X, x < 0 → x ∈ T) → byL (orderL T') (X.map (nu N Z)) = byL (orderL T) X := by
  intro X hX hv
  unfold byL
  rw [List.map_map]
  refine List.map_congr_left fun x hx => ?_
  simp only [Function.comp_def]
  by_cases h0 : x < 0
  ·rw [ren_yes h0, ren_yes ((n1 x).2 h0), o1, idx_map_on (order_mem.2 ⟨hv x hx h0, h0⟩)]
   intro a ha e
   exact n2 a (hT a (order_mem.1 ha).1) x (hX x hx) e
  ·rw [ren_no h0, ren_no (by rw [n1]; exact h0)]
   unfold nu
   rw [if_neg (fun h => h0 h.2)]
 unfold pk3
 have l1 : T'.length = T.length := by rw [g1, List.length_map]
 have l2 : A'.length = A.length := by rw [g2, List.length_map]
 have l3 : R'.length = R.length := by rw [g3, List.length_map]
 have l4 : (orderL T').length = (orderL T).length := by rw [o1, List.length_map]
 rw [l1, l2, l3, l4]
 split
 ·congr 1
  have p1 := by_ T hT (fun x h _ => h)
  have p2 := by_ A hA vA
  have p3 := by_ R hR vR
  rw [← g1] at p1
  rw [← g2] at p2
  rw [← g3] at p3
  rw [p1, p2, p3]
 ·rfl
end pkMath
end
section
namespace pkVars
open sig term termOk termFacts sub fillMath renMath matchMath unifMath forest triMath ruleMath peakMath pkMath trySpec
set_option maxRecDepth 100000
def leftA (sg : List Int) (rs : List Rl) (o a u : Nat) : List Int := (lh rs o).take a ++ (shiftL 24 (rh rs u) ++ (lh rs o).drop (a + (oS sg rs o a).length))
def pkO (r : Option (List Int × List Int × List Int)) (o a u : Nat) : Pk := match r with
 | some (t, l, x) => (t, l, x, (a : Int), (u : Int), (o : Int))
 | none => ([], [], [], 0, 0, 0)
theorem mem_rep {L : Nat → List Int} {t : List Int} {x : Int} : x ∈ fillL L t ↔ ∃ y ∈ t, x ∈ rep L y := by
 unfold fillL
 exact List.mem_flatMap
section
variable {sg : List Int} {rs : List Rl} {o a u : Nat} {θ : Nat → List Int}
theorem lo_parts (h : termOkB sg (lh rs o) = true) (ha : a < (lh rs o).length) : lh rs o = (lh rs o).take a ++ (oS sg rs o a ++ (lh rs o).drop (a + (oS sg rs o a).length)) := by
 have := drop_sub h ha
 conv => lhs; rw [← List.take_append_drop a (lh rs o), this]
 rfl
theorem fill_lo (h : termOkB sg (lh rs o) = true) (ha : a < (lh rs o).length) : fillL θ (lh rs o) = fillL θ ((lh rs o).take a) ++ (fillL θ (oS sg rs o a) ++ fillL θ ((lh rs o).drop (a + (oS sg rs o a).length))) := by
 conv => lhs; rw [lo_parts h ha]
 rw [fill_append, fill_append]
theorem fill_left : fillL θ (leftA sg rs o a u) = fillL θ ((lh rs o).take a) ++ (fillL θ (shiftL 24 (rh rs u)) ++ fillL θ ((lh rs o).drop (a + (oS sg rs o a).length))) := by
 unfold leftA
 rw [fill_append, fill_append]
theorem mid_vars (hu : ∀ x, x ∈ rh rs u → x < 0 → x ∈ lh rs u) {x : Int} (hx : x ∈ fillL θ (shiftL 24 (rh rs u))) (h0 : x < 0) : x ∈ fillL θ (shiftL 24 (lh rs u)) := by
 obtain ⟨y, hy, hxy⟩ := mem_rep.1 hx
 obtain ⟨z, hz, rfl⟩ := List.mem_map.1 hy
 by_cases hz0 : z < 0
 ·exact mem_rep.2 ⟨_, List.mem_map.2 ⟨z, hu z hz hz0, rfl⟩, hxy⟩
 ·exfalso
  have e : sh 24 z = z := by unfold sh; rw [if_neg hz0]
  rw [e, rep_sym (by omega), List.mem_singleton] at hxy
  omega
theorem left_vars (h : termOkB sg (lh rs o) = true) (ha : a < (lh rs o).length) (hu : ∀ x, x ∈ rh rs u → x < 0 → x ∈ lh rs u) (he : fillL θ (oS sg rs o a) = fillL θ (oT rs u)) : ∀ x ∈ fillL θ (leftA sg rs o a u), x < 0 → x ∈ fillL θ (lh rs o) := by
 intro x hx h0
 rw [fill_lo h ha]
 rw [fill_left] at hx
 rcases List.mem_append.1 hx with hx | hx
 ·exact List.mem_append_left _ hx
 ·refine List.mem_append_right _ ?_
  rcases List.mem_append.1 hx with hx | hx
  ·refine List.mem_append_left _ ?_
   rw [he]
   exact mid_vars hu hx h0
  ·exact List.mem_append_right _ hx
theorem right_vars (ho : ∀ x, x ∈ rh rs o → x < 0 → x ∈ lh rs o) : ∀ x ∈ fillL θ (rh rs o), x < 0 → x ∈ fillL θ (lh rs o) := by
 intro x hx h0
 obtain ⟨y, hy, hxy⟩ := mem_rep.1 hx
 by_cases hy0 : y < 0
 ·exact mem_rep.2 ⟨y, ho y hy hy0, hxy⟩
 ·exfalso
  rw [rep_sym (by omega), List.mem_singleton] at hxy
  omega
end
theorem order_mem9 {t : List Int} {x : Int} : x ∈ orderL t ↔ x ∈ t ∧ x < 0 := by
 unfold orderL
 rw [fold_ext_mem]
 simp
end pkVars
end
end Go.Proofs.YtlmofkeemlfpgaaGreat
