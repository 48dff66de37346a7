/-
  MERGED: my texts KboOft, DupNew, Big, WFnForms, one behind the other, as they are. By an AI agent.
-/
import Derived.Test.YtiimbmkofpnebaaMFnForms4
import Derived.BigQuiet
import Derived.Deep.DeepCutAuto
import Derived.Deep.LoopGhost
namespace Go.Proofs.Ytiimbmkofpnebaa
section
open Go.Lib (hid)
namespace kboOft
open Go.RowKit base ints sig term termOk termFacts marks sym count varsOf ruleSpec anyJ whole kboMath kboLink
set_option maxRecDepth 100000
theorem cnt_all (t : List Int) (x : Int) : cnt t x t.length = t.count x := by unfold cnt; rw [List.take_length]
set_option maxHeartbeats 400000 in
theorem l14Count (A : Option Addr) (m c : Nat) (t : List Int) (x : Int) (w : World) (h : Seg w w.heap.size A m t) (hm : m ≤ 1048576) :
  Calls Try.prog 120 #[.slice A m c, .int .i64 x] w fun e w' => w = w' ∧ e = .returned (.int .i64 (t.count x : Nat)) := by
 rw [← cnt_all]
 have HL := hid h.1
 go_enter Try.func120, Try.ntmps120
 go_wp2
 go_loop [5, 6] (fun many i => HeadCnt m t x many i) (fun _ i => m - (intOf i).toNat)
 case atStart => exact ⟨0, Nat.zero_le _, rfl, rfl⟩
 case round =>
  obtain ⟨k, hk, rfl, rfl⟩ := hrel
  have hle := cnt_le t x k
  by_cases hlt : k < m
  ·obtain ⟨b, off, y, rfl, -, hy, ey⟩ := h.spot hlt
   by_cases he : y = x
   ·subst he
    have S := hid (headCnt_yes HL.out hlt ey)
    have e1 : (y == y) = true := by simp
    clear h ey
    generalize cnt t y k = z at *
    go_wp2
    go_round
    case rel => exact S.out
    case measure => simp [intOf]; omega
   ·have S := hid (headCnt_no HL.out hlt ey he)
    have e1 : (y == x) = false := by simp [he]
    clear h ey
    generalize cnt t x k = z at *
    go_wp2
    go_round
    case rel => exact S.out
    case measure => simp [intOf]; omega
  ·have e : cnt t x k = cnt t x t.length := by rw [HL.out, show k = m by omega]
   have E := hid e
   clear h e
   generalize cnt t x k = z at *
   go_wp2
   go_ret
   exact ⟨rfl, by rw [← E.out]; rfl⟩
def goodAt (s t : List Int) (x : Int) : Bool := !decide (x < 0) || decide (s.count x ≤ t.count x)
theorem oft_bad {s t : List Int} {k : Nat} {x : Int} (hk : k < s.length) (ex : s.getD k 0 = x) (h : goodAt s t x = false) : oft s t = false := by
 unfold oft
 rw [List.all_eq_false]
 refine ⟨x, ?_, by unfold goodAt at h; rw [h]; decide⟩
 rw [← ex, getD_get hk]
 exact List.getElem_mem _
theorem oft_good {s t : List Int} (h : ∀ j, j < s.length → goodAt s t (s.getD j 0) = true) : oft s t = true := by
 unfold oft
 rw [List.all_eq_true]
 intro x hx
 obtain ⟨k, hk, rfl⟩ := List.getElem_of_mem hx
 have := h k hk
 rw [getD_get hk] at this
 exact this
def HeadOf (w : World) (n : Nat) (s t : List Int) (i : Value) (wr : World) : Prop := ∃ k : Nat, k ≤ n ∧ i = .int .i64 k ∧ (∀ j, j < k → goodAt s t (s.getD j 0) = true) ∧ Below w.heap.size w wr
theorem headOf_step {w wr : World} {n k : Nat} {s t : List Int} {x : Int} (hk : k < n) (hlow : ∀ j, j < k → goodAt s t (s.getD j 0) = true) (ex : Hid (s.getD k 0 = x)) (h : goodAt s t x = true) (hb : Below w.heap.size w wr) : HeadOf w n s t (.int .i64 ((k : Int) + 1)) wr :=
 ⟨k + 1, hk, by simp, fun j hj => by
  by_cases e : j = k
  ·subst e; rw [ex.out]; exact h
  ·exact hlow j (by omega), hb⟩
set_option maxHeartbeats 4000000 in
theorem l14Often (S T : Option Addr) (m mc k kc : Nat) (s t : List Int) (w : World) (hS : Seg w w.heap.size S m s) (hT : Seg w w.heap.size T k t) (hm : m ≤ 1048576) (hk : k ≤ 1048576) :
  Calls Try.prog 87 #[.slice S m mc, .slice T k kc] w (AnsB w (oft s t)) := by
 have HL := hid hS.1
 have H0 : Hid (HeadOf w m s t (.int .i64 0) w) := hid ⟨0, Nat.zero_le _, rfl, fun j hj => absurd hj (Nat.not_lt_zero _), Below.refl _ _⟩
 go_enter Try.func87, Try.ntmps87
 go_wp2
 go_loopw [5] (fun i wr => HeadOf w m s t i wr) (fun i _ => m - (intOf i).toNat)
 case atStart => exact H0.out
 case round =>
  obtain ⟨j, hj, rfl, hlow, hb⟩ := hrel
  have HLOW := hid hlow
  clear hlow H0
  by_cases hlt : j < m
  ·obtain ⟨b, off, y, rfl, hbB, hy0, ey⟩ := hS.spot hlt
   have hy : wr.cell? ⟨b, off + j, none⟩ = some (.int .i64 y) := (hb.cell (p := ⟨b, off + j, none⟩) hbB).trans hy0
   have i0 : (0 : Int) ≤ (j : Int) := by omega
   have i1 : (j : Int) < (m : Int) := by omega
   have LC2 := hid (fun d' : Nat => l14Count T k kc t y (wr.drewN d') ((hT.next hb).drewN d') hk)
   have LC1 := hid (fun d' : Nat => l14Count (some ⟨b, off, none⟩) m mc s y (wr.drewN d') ((hS.next hb).drewN d') hm)
   by_cases hyn : y < 0
   ·have hdy : decide (y < 0) = true := decide_eq_true hyn
    obtain ⟨p, hp⟩ : ∃ p, s.count y = p := ⟨_, rfl⟩
    obtain ⟨q, hq⟩ : ∃ q, t.count y = q := ⟨_, rfl⟩
    rw [hp] at LC1
    rw [hq] at LC2
    by_cases hpq : q < p
    ·have M := hid (show goodAt s t y = false by unfold goodAt; rw [hdy, hp, hq, decide_eq_false (by omega)]; rfl)
     have F := hid (fun d' : Nat => ansB (w' := wr.drewN d') (b := oft s t) (a := false) (by rw [oft_bad (by rw [HL.out]; exact hlt) ey.out M.out]) (below_drewN hb d'))
     have hpd : decide ((q : Int) < (p : Int)) = true := decide_eq_true (by omega)
     clear hS hT hb hy0 ey hp hq
     go_wp2_with fail
     go_quiet (first
      | (go_at_call_of 120 (Value.slice (some ⟨b, off, none⟩) m mc); exact Calls.quiet_of_same (v := .int .i64 p) ((LC1.out _).mono fun _ _ ⟨h1, h2⟩ => ⟨h2, h1.symm⟩))
      | (go_at_call_of 120 (Value.slice T k kc); exact Calls.quiet_of_same (v := .int .i64 q) ((LC2.out _).mono fun _ _ ⟨h1, h2⟩ => ⟨h2, h1.symm⟩)))
     go_wp2
     go_ret
     exact F.out _
    ·have M := hid (show goodAt s t y = true by unfold goodAt; rw [hdy, hp, hq, decide_eq_true (show p ≤ q by omega)]; rfl)
     have S1 := hid (fun d' : Nat => headOf_step (w := w) (wr := wr.drewN d') hlt HLOW.out ey M.out (below_drewN hb d'))
     have hpd : decide ((q : Int) < (p : Int)) = false := decide_eq_false (by omega)
     clear hS hT hb hy0 ey hp hq
     go_wp2_with fail
     go_quiet (first
      | (go_at_call_of 120 (Value.slice (some ⟨b, off, none⟩) m mc); exact Calls.quiet_of_same (v := .int .i64 p) ((LC1.out _).mono fun _ _ ⟨h1, h2⟩ => ⟨h2, h1.symm⟩))
      | (go_at_call_of 120 (Value.slice T k kc); exact Calls.quiet_of_same (v := .int .i64 q) ((LC2.out _).mono fun _ _ ⟨h1, h2⟩ => ⟨h2, h1.symm⟩)))
     go_wp2
     go_roundw
     case rel => exact S1.out _
     case measure => simp [intOf]; omega
   ·have hdy : decide (y < 0) = false := decide_eq_false hyn
    have M := hid (show goodAt s t y = true by unfold goodAt; rw [hdy]; rfl)
    have S1 := hid (fun d' : Nat => headOf_step (w := w) (wr := wr.drewN d') hlt HLOW.out ey M.out (below_drewN hb d'))
    clear hS hT hb hy0 ey LC1 LC2
    go_wp2_with fail
    go_quiet (fail)
    go_wp2
    go_roundw
    case rel => exact S1.out _
    case measure => simp [intOf]; omega
  ·have F := hid (ansB (b := oft s t) (a := true) (by rw [oft_good (fun i hi => HLOW.out i (by have := HL.out; omega))]) hb)
   clear hS hT hb
   go_wp2
   go_ret
   exact F.out
def z24i : Array Value := Array.replicate 24 (.int .i64 0)
theorem info_a : (Try.prog.info? 137).map (fun i => (i.zero, i.size)) = some (some (.agg z24i), 24) := by kernel_rfl
theorem zero_a : ∀ w, (zeroValue 137).run Try.prog w = .ok (.agg z24i) w := by
 intro w
 cases hq : Try.prog.info? 137 with
 | none => have h := info_a; simp [hq] at h
 | some i => have h := info_a; simp [hq] at h; simp [zeroValue, typeInfo, hq, h.1]
structure Arr (w : World) (g : Nat) (f : Nat → Int) : Prop where
 ex : ∃ cs : Array Value, cs.size = 24 ∧ Row w g 137 cs ∧ ∀ j, j < 24 → cs[j]? = some (.int .i64 (f j))
theorem Arr.lt {w : World} {g : Nat} {f : Nat → Int} (h : Arr w g f) : g < w.heap.size := by obtain ⟨cs, -, r, -⟩ := h.ex; exact r.lt
theorem Arr.cell {w : World} {g : Nat} {f : Nat → Int} (h : Arr w g f) {j : Nat} (hj : j < 24) : w.cell? ⟨g, j, none⟩ = some (.int .i64 (f j)) := by obtain ⟨cs, -, r, hc⟩ := h.ex; exact (r.cell j).trans (hc j hj)
theorem Arr.free {w : World} {g : Nat} {f : Nat → Int} (h : Arr w g f) (j : Nat) : w.frozen? ⟨g, j, none⟩ = false := by obtain ⟨cs, -, r, -⟩ := h.ex; exact r.free j
theorem Arr.put {w : World} {g : Nat} {f f' : Nat → Int} (h : Arr w g f) {j : Nat} (hj : j < 24) (x : Int) (h1 : f' j = x) (h2 : ∀ i, i ≠ j → f' i = f i) : Arr (w.setCell ⟨g, j, none⟩ (.int .i64 x)) g f' := by
 obtain ⟨cs, hs, r, hc⟩ := h.ex
 refine ⟨cs.setIfInBounds j (.int .i64 x), by simp [hs], r.put j _, ?_⟩
 intro i hi
 by_cases e : i = j
 ·subst e
  rw [Array.getElem?_setIfInBounds_self_of_lt (by omega), h1]
 ·rw [Array.getElem?_setIfInBounds_ne (fun e' => e e'.symm), hc i hi, h2 i e]
theorem Arr.new (w : World) : Arr (w.alloc (.cells z24i 137)) w.heap.size (fun _ => 0) :=
 ⟨z24i, by simp [z24i], Row.new _ _ _, fun j hj => by simp [z24i, hj]⟩
theorem Arr.below {w w' : World} {g B : Nat} {f : Nat → Int} (h : Arr w g f) (hb : Below w.heap.size w w') : Arr w' g f := by obtain ⟨cs, hs, r, hc⟩ := h.ex; exact ⟨cs, hs, r.next hb, hc⟩
def bal (t s : List Int) (j : Nat) : Int := (t.count (-1 - (j : Int)) : Int) - (s.count (-1 - (j : Int)) : Int)
theorem bal_t {t : List Int} {k : Nat} {x : Int} {i : Nat} (hk : k < t.length) (ex : t.getD k 0 = x) : bal (t.take (k + 1)) [] i = bal (t.take k) [] i + (if x = -1 - (i : Int) then 1 else 0) := by
 have := cnt_step (x := -1 - (i : Int)) hk ex
 unfold cnt at this
 unfold bal
 rw [this]
 split <;> simp
theorem bal_s {t s : List Int} {k : Nat} {x : Int} {i : Nat} (hk : k < s.length) (ex : s.getD k 0 = x) : bal t (s.take (k + 1)) i = bal t (s.take k) i - (if x = -1 - (i : Int) then 1 else 0) := by
 have := cnt_step (x := -1 - (i : Int)) hk ex
 unfold cnt at this
 unfold bal
 rw [this]
 split <;> simp
 omega
theorem bal_bd {t s : List Int} {i : Nat} : -(s.length : Int) ≤ bal t s i ∧ bal t s i ≤ (t.length : Int) := by
 unfold bal
 have h1 := List.count_le_length (a := -1 - (i : Int)) (l := t)
 have h2 := List.count_le_length (a := -1 - (i : Int)) (l := s)
 omega
theorem any_bal {t s : List Int} (hs : ∀ x ∈ s, -24 ≤ x) : (((List.range 24).map (bal t s)).any fun c => decide (c < 0)) = !(oft s t) := by
 cases h : oft s t with
 | true =>
  show _ = false
  rw [List.any_eq_false]
  intro c hc
  obtain ⟨j, -, rfl⟩ := List.mem_map.1 hc
  have := oft_iff.1 h (-1 - (j : Int)) (by omega)
  unfold bal
  simp
  omega
 | false =>
  show _ = true
  rw [List.any_eq_true]
  unfold oft at h
  rw [List.all_eq_false] at h
  obtain ⟨x, hx, h⟩ := h
  have hx0 : x < 0 := by
   by_cases h0 : x < 0
   ·exact h0
   ·simp [h0] at h
  have hx1 := hs x hx
  refine ⟨bal t s (-1 - x).toNat, List.mem_map.2 ⟨_, List.mem_range.2 (by omega), rfl⟩, ?_⟩
  have e : -1 - (((-1 - x).toNat : Nat) : Int) = x := by omega
  unfold bal
  rw [e]
  rw [decide_eq_true hx0] at h
  simp at h
  simp
  omega
theorem isMissing (x : Int) (w : World) : Calls Try.prog 115 #[.int .i64 x] w fun e w' => e = .returned (.bool (decide (x < 0))) ∧ w' = w := by
 go_enter Try.func115, Try.ntmps115
 go_wp2
 go_ret
 exact ⟨rfl, rfl⟩
def HeadT (w : World) (n : Nat) (t : List Int) (i : Value) (wr : World) : Prop := ∃ j : Nat, j ≤ n ∧ i = .int .i64 j ∧ Arr wr w.heap.size (bal (t.take j) []) ∧ Below w.heap.size w wr
def HeadS (w : World) (n : Nat) (t s : List Int) (i : Value) (wr : World) : Prop := ∃ j : Nat, j ≤ n ∧ i = .int .i64 j ∧ Arr wr w.heap.size (bal t (s.take j)) ∧ Below w.heap.size w wr
theorem Arr.same {w : World} {g : Nat} {f f' : Nat → Int} (h : Arr w g f) (he : ∀ i, f i = f' i) : Arr w g f' := by
 have : f = f' := funext he
 rw [← this]; exact h
theorem Arr.seg {w : World} {g : Nat} {f : Nat → Int} (h : Arr w g f) : Seg w w.heap.size (some ⟨g, 0, none⟩) 24 ((List.range 24).map f) := by
 obtain ⟨cs, hs, r, hc⟩ := h.ex
 refine r.seg (by simp) h.lt ?_
 intro j hj
 rw [hc j hj]
 simp [hj]
set_option maxHeartbeats 4000000 in
theorem hasAsOften (T S : Option Addr) (k kc m mc : Nat) (t s : List Int) (w : World) (hT : Seg w w.heap.size T k t) (hS : Seg w w.heap.size S m s) (hk : k ≤ 1048576) (hm : m ≤ 1048576) (vT : ∀ x ∈ t, -24 ≤ x) (vS : ∀ x ∈ s, -24 ≤ x) :
  Calls Try.prog 74 #[.slice T k kc, .slice S m mc] w (AnsB w (oft s t)) := by
 have HL := hid hT.1
 have HM := hid hS.1
 have VT := hid vT
 have VS := hid vS
 obtain ⟨W, hW⟩ : ∃ W, W = w.alloc (.cells z24i 137) := ⟨_, rfl⟩
 have a0 : Arr W w.heap.size (fun _ => 0) := by rw [hW]; exact Arr.new w
 have b0 : Below w.heap.size w W := by rw [hW]; exact (Below.refl _ _).alloc (Nat.le_refl _) _
 have H0 : Hid (HeadT w k t (.int .i64 0) W) := hid ⟨0, Nat.zero_le _, rfl, a0.same fun i => by simp [bal], b0⟩
 have HW := hid hW
 have LC := hid (fun (W1 : World) (ha : Arr W1 w.heap.size (bal t s)) (hb : Below w.heap.size w W1) => containsFuncJ 115 #[] (enters_of Try.func115 (by kernel_rfl) rfl) (fun W2 => Arr W2 w.heap.size (bal t s) ∧ Below w.heap.size w W2) (fun c => decide (c < 0)) (some ⟨w.heap.size, 0, none⟩) 24 24 ((List.range 24).map (bal t s)) W1 (fun W2 x hJ _ => (isMissing x W2).mono fun e w' ⟨h1, h2⟩ => ⟨h1, by rw [h2]; exact hJ⟩) (fun W2 hJ => hJ.1.seg) ⟨ha, hb⟩ (by simp) (by omega))
 clear hW a0 b0 vT vS
 go_enter Try.func74, Try.ntmps74
 go_wp2_with (first
  | (refine rowAlloc rfl 137 rfl z24i zero_a ?_))
 rw [← HW.out]
 go_loopw [13] (fun i wr => HeadT w k t i wr) (fun i _ => k - (intOf i).toNat)
 case atStart => exact H0.out
 case round =>
  clear H0
  obtain ⟨j, hj, rfl, ar, hb⟩ := hrel
  by_cases hlt : j < k
  ·obtain ⟨b, off, x, rfl, hbB, hx0, ex⟩ := hT.spot hlt
   have hx : wr.cell? ⟨b, off + j, none⟩ = some (.int .i64 x) := (hb.cell (p := ⟨b, off + j, none⟩) hbB).trans hx0
   have i0 : (0 : Int) ≤ (j : Int) := by omega
   have i1 : (j : Int) < (k : Int) := by omega
   have hjl : j < t.length := by rw [HL.out]; exact hlt
   have hv := VT.out x (by rw [← ex.out, getD_get hjl]; exact List.getElem_mem _)
   by_cases hneg : x < 0
   ·obtain ⟨v, hv⟩ : ∃ v : Nat, x = -1 - (v : Int) := ⟨(-1 - x).toNat, by omega⟩
    subst hv
    have hv24 : v < 24 := by omega
    have ev : -1 - (-1 - (v : Int)) = (v : Int) := by omega
    have hd : decide (-1 - (v : Int) < 0) = true := decide_eq_true hneg
    obtain ⟨z, hz⟩ : ∃ z, bal (t.take j) [] v = z := ⟨_, rfl⟩
    have hzb := bal_bd (t := t.take j) (s := []) (i := v)
    have hzl : (t.take j).length ≤ 1048576 := by rw [List.length_take]; omega
    have cA := ar.cell hv24
    have fA := ar.free v
    rw [hz] at cA hzb
    simp only [List.length_nil] at hzb
    have S1 := hid (show HeadT w k t (.int .i64 ((j : Int) + 1)) (wr.setCell ⟨w.heap.size, v, none⟩ (.int .i64 (z + 1))) from ⟨j + 1, hlt, by simp, ar.put hv24 (z + 1) (by rw [bal_t hjl ex.out, hz, if_pos rfl]) (fun i hi => by rw [bal_t hjl ex.out, if_neg (by omega)]; omega), hb.setCell (Nat.le_refl _) _⟩)
    clear ar hb hx0 ex hz
    go_wp2
    go_roundw
    case rel => exact S1.out
    case measure => simp [intOf]; omega
   ·have hd : decide (x < 0) = false := decide_eq_false hneg
    have S1 := hid (show HeadT w k t (.int .i64 ((j : Int) + 1)) wr from ⟨j + 1, hlt, by simp, ar.same fun i => by rw [bal_t hjl ex.out, if_neg (by omega)]; omega, hb⟩)
    clear ar hb hx0 ex
    go_wp2
    go_roundw
    case rel => exact S1.out
    case measure => simp [intOf]; omega
  ·have ej : t.take j = t := by rw [List.take_of_length_le (by rw [HL.out]; omega)]
   rw [ej] at ar
   have H1 : Hid (HeadS w m t s (.int .i64 0) wr) := hid ⟨0, Nat.zero_le _, rfl, ar.same fun i => by simp, hb⟩
   clear ar hb ej
   go_wp2
   go_loopw [28] (fun i wr => HeadS w m t s i wr) (fun i _ => m - (intOf i).toNat)
   case atStart => exact H1.out
   case round =>
    clear H1
    obtain ⟨j, hj, rfl, ar, hb⟩ := hrel
    by_cases hlt : j < m
    ·obtain ⟨b, off, x, rfl, hbB, hx0, ex⟩ := hS.spot hlt
     have hx : wr.cell? ⟨b, off + j, none⟩ = some (.int .i64 x) := (hb.cell (p := ⟨b, off + j, none⟩) hbB).trans hx0
     have i0 : (0 : Int) ≤ (j : Int) := by omega
     have i1 : (j : Int) < (m : Int) := by omega
     have hjl : j < s.length := by rw [HM.out]; exact hlt
     have hv := VS.out x (by rw [← ex.out, getD_get hjl]; exact List.getElem_mem _)
     by_cases hneg : x < 0
     ·obtain ⟨v, hv⟩ : ∃ v : Nat, x = -1 - (v : Int) := ⟨(-1 - x).toNat, by omega⟩
      subst hv
      have hv24 : v < 24 := by omega
      have ev : -1 - (-1 - (v : Int)) = (v : Int) := by omega
      have hd : decide (-1 - (v : Int) < 0) = true := decide_eq_true hneg
      obtain ⟨z, hz⟩ : ∃ z, bal t (s.take j) v = z := ⟨_, rfl⟩
      have hzb := bal_bd (t := t) (s := s.take j) (i := v)
      have hzl : (s.take j).length ≤ 1048576 := by rw [List.length_take]; omega
      have htl : t.length ≤ 1048576 := by rw [HL.out]; exact hk
      have cA := ar.cell hv24
      have fA := ar.free v
      rw [hz] at cA hzb
      have S1 := hid (show HeadS w m t s (.int .i64 ((j : Int) + 1)) (wr.setCell ⟨w.heap.size, v, none⟩ (.int .i64 (z - 1))) from ⟨j + 1, hlt, by simp, ar.put hv24 (z - 1) (by rw [bal_s hjl ex.out, hz, if_pos rfl]) (fun i hi => by rw [bal_s hjl ex.out, if_neg (by omega)]; omega), hb.setCell (Nat.le_refl _) _⟩)
      clear ar hb hx0 ex hz
      go_wp2
      go_roundw
      case rel => exact S1.out
      case measure => simp [intOf]; omega
     ·have hd : decide (x < 0) = false := decide_eq_false hneg
      have S1 := hid (show HeadS w m t s (.int .i64 ((j : Int) + 1)) wr from ⟨j + 1, hlt, by simp, ar.same fun i => by rw [bal_s hjl ex.out, if_neg (by omega)]; omega, hb⟩)
      clear ar hb hx0 ex
      go_wp2
      go_roundw
      case rel => exact S1.out
      case measure => simp [intOf]; omega
    ·have ej : s.take j = s := by rw [List.take_of_length_le (by rw [HM.out]; omega)]
     rw [ej] at ar
     have L1 := hid (LC.out wr ar hb)
     have EA := hid (any_bal (t := t) VS.out)
     obtain ⟨u, hu⟩ : ∃ u, ((List.range 24).map (bal t s)).any (fun c => decide (c < 0)) = u := ⟨_, rfl⟩
     rw [hu] at L1 EA
     clear ar hb ej hu
     go_wp2_with fail
     refine L1.out.mono ?_
     rintro e w3 ⟨rfl, -, hb⟩
     have F := hid (ansB (b := oft s t) (a := !u) (by rw [EA.out]; simp) hb)
     clear hb L1
     go_wp2
     go_ret
     exact F.out
end kboOft
end
section
open Go.Lib (hid)
namespace ruleImpl
open Go.RowKit base ints sig term termOk marks app appAt sym segs termFacts varsMath varsOf rename same count linear shape kindsR ruleMath ruleSpec anyR
set_option maxRecDepth 100000
theorem dbl_oft (x : Rl) : dblB x = !Go.Proofs.Ytiimbmkofpnebaa.kboMath.oft x.2 x.1 := by
 cases h : Go.Proofs.Ytiimbmkofpnebaa.kboMath.oft x.2 x.1 with
 | true =>
  unfold dblB
  rw [List.any_eq_false.2]
  ·rfl
  ·intro y _
   unfold moreB many
   rw [Go.Proofs.Ytiimbmkofpnebaa.kboOft.cnt_all, Go.Proofs.Ytiimbmkofpnebaa.kboOft.cnt_all]
   have := Go.Proofs.Ytiimbmkofpnebaa.kboMath.oft_iff.1 h y
   intro hh
   have h2 := of_decide_eq_true hh
   have := this h2.1
   omega
 | false =>
  unfold dblB
  unfold Go.Proofs.Ytiimbmkofpnebaa.kboMath.oft at h
  rw [List.all_eq_false] at h
  obtain ⟨y, hy, h⟩ := h
  rw [List.any_eq_true.2 ⟨y, hy, ?_⟩]
  ·rfl
  ·unfold moreB many
   rw [Go.Proofs.Ytiimbmkofpnebaa.kboOft.cnt_all, Go.Proofs.Ytiimbmkofpnebaa.kboOft.cnt_all]
   by_cases h0 : y < 0
   ·rw [decide_eq_true h0] at h
    simp at h
    exact decide_eq_true ⟨h0, by omega⟩
   ·simp [h0] at h
set_option maxHeartbeats 2000000 in
theorem dupl (l r : Value) (x : Dat sRule) (w : World) (h : Rd w w.heap.size sRule [l, r] x) (hz : sz sRule x ≤ 1048576) (v1 : ∀ y ∈ (x.1 : List Int), -24 ≤ y) (v2 : ∀ y ∈ (x.2 : List Int), -24 ≤ y) :
  Calls Try.prog 98 #[.agg #[l, r]] w (AnsB w (!Go.Proofs.Ytiimbmkofpnebaa.kboMath.oft x.2 x.1)) := by
 obtain ⟨A1, n1, c1, A2, n2, c2, rfl, rfl, s1, k1, s2, k2, hn1, hn2⟩ := rd_rule h hz
 obtain ⟨W, hW, rA, bel⟩ := box1 w 85 #[.slice A1 n1 c1, .slice A2 n2 c2]
 have HW := hid hW
 have L := hid (Go.Proofs.Ytiimbmkofpnebaa.kboOft.hasAsOften A1 A2 n1 c1 n2 c2 x.1 x.2 W (s1.next bel) (s2.next bel) hn1 hn2 v1 v2)
 have a0 : W.cell? ⟨w.heap.size, 0, none⟩ = some (.slice A1 n1 c1) := rA.cell 0
 have a1 : W.cell? ⟨w.heap.size, 1, none⟩ = some (.slice A2 n2 c2) := rA.cell 1
 rw [hW] at a0 a1
 clear hW h hz k1 k2 v1 v2 s1 s2
 go_enter Try.func98, Try.ntmps98
 go_wp2_with fail
 rw [← HW.out]
 refine L.out.mono ?_
 rintro e w1 ⟨rfl, bb⟩
 have F := hid (next_trans bel bb)
 clear bel bb rA L a0 a1
 generalize Go.Proofs.Ytiimbmkofpnebaa.kboMath.oft x.2 x.1 = z at *
 go_wp2
 go_ret
 exact ⟨rfl, F.out⟩
theorem fin_DuplicatingNew_no {sg : List Int} {rs : List Rl} (h : sysOkB sg rs = false) : dupB sg rs = false := by unfold dupB; rw [h]; rfl
theorem fin_DuplicatingNew_yes {sg : List Int} {rs : List Rl} (h : sysOkB sg rs = true) : dupB sg rs = rs.any (fun x => !Go.Proofs.Ytiimbmkofpnebaa.kboMath.oft x.2 x.1) := by
 unfold dupB; rw [h, Bool.true_and]
 exact any_congr fun x hx => dbl_oft x
set_option maxHeartbeats 4000000 in
theorem implDuplicatingIn (a v : Value) (d : Dat sSystem) (w : World) (h : Rd w w.heap.size sSystem [a, v] d) (hz : sz sSystem d ≤ 1048576) :
  Calls Try.prog 57 #[.agg #[a, v]] w (AnsB w (dupB d.1 d.2)) := by
 have hzs := sys_szs hz
 have hsg := (parts_System h).1
 have SO := fun (w1 : World) (bb : Below w.heap.size w w1) => systemOf a v d w1 (h.next bb) hz
 have LT := fun (ok : sysOkB d.1 d.2 = true) (w1 : World) (bb : Below w.heap.size w w1) => some_ 98 #[] #[] (enters_of Try.func98 (by kernel_rfl) rfl) (fun x => !Go.Proofs.Ytiimbmkofpnebaa.kboMath.oft x.2 x.1) a v d w1
  (fun W' l r (x : Rl) hW' hx hr => dupl l r x W' hr (sz_mem hzs.2 hx) (fun y hy => (term_mem (rule_parts ((sys_parts ok).2.2 x hx)).1 hy).1) (fun y hy => (term_mem (rule_parts ((sys_parts ok).2.2 x hx)).2.1 hy).1)) (h.next bb) hz
 obtain ⟨A, n, c, V, m, cv, rfl, rfl, -⟩ := rd_sys h hz
 obtain ⟨W, hW, rA, bel⟩ := box1 w 51 #[.slice A n c, .slice V m cv]
 have HW := hid hW
 have L := hid (SO W bel)
 have HLT := hid LT
 have hmf := makeFn
 clear hW h hz SO LT hzs hsg
 go_enter Try.func57, Try.ntmps57
 go_wp2_with fail
 rw [← HW.out]
 refine L.out.mono ?_
 cases ok : sysOkB d.1 d.2 with
 | false =>
  have HO := hid ok
  rintro e w1 ⟨rfl, bb⟩
  have F := hid (boxN (T := 114) (cs := #[.slice none 0 0, .slice none 0 0]) (next_trans bel bb)).2.1
  simp only [sysV, if_true, Bool.false_eq_true, if_false]
  clear bel bb rA L HLT ok
  go_wp2
  go_ret
  exact ⟨by rw [fin_DuplicatingNew_no HO.out]; rfl, F.out⟩
 | true =>
  have HO := hid ok
  rintro e w1 ⟨rfl, bb⟩
  obtain ⟨rS, belS, bS⟩ := boxN (T := 114) (cs := #[.slice A n c, .slice V m cv]) (next_trans bel bb)
  have L2 := hid (HLT.out ok _ belS)
  have c0 := rS.cell 0
  have c1 := rS.cell 1
  have E := hid (fin_DuplicatingNew_yes HO.out)
  simp only [sysV, if_true]
  clear bel bb rA L HLT ok rS bS
  go_wp2_with fail
  refine L2.out.mono ?_
  rintro e w2 ⟨he, bb⟩
  obtain ⟨z, hzz⟩ : ∃ z, d.2.any (fun x => !Go.Proofs.Ytiimbmkofpnebaa.kboMath.oft x.2 x.1) = z := ⟨_, rfl⟩
  rw [hzz] at E
  rw [show (List.any d.2 fun x => !Go.Proofs.Ytiimbmkofpnebaa.kboMath.oft x.2 x.1) = z from hzz] at he
  subst he
  have F := hid (next_trans belS bb)
  clear bb belS L2 c0 c1 hzz
  go_wp2
  go_ret
  exact ⟨by rw [E.out]; rfl, F.out⟩
end ruleImpl
end
section
namespace bigs
open Go.RowKit base ints
theorem bigAns (A : Option Addr) (n c : Nat) (b : Bool) (w : World) (hb : decide (4096 < n) = b) (hn : n ≤ 9223372036854775807) : Calls Try.prog 16 #[.slice A n c] w fun e w' => w = w' ∧ e = .returned (.bool b) := by
 cases b with
 | true =>
  have h : (4096 : Int) < (n : Int) := by have := of_decide_eq_true hb; omega
  clear hb
  go_enter Try.func16, Try.ntmps16
  go_wp2
  go_ret
  exact ⟨rfl, rfl⟩
 | false =>
  have h : ¬ (4096 : Int) < (n : Int) := by have := of_decide_eq_false hb; omega
  have h2 : decide (4096 < n) = false := hb
  clear hb
  go_enter Try.func16, Try.ntmps16
  go_wp2
  go_ret
  exact ⟨rfl, rfl⟩
end bigs
end
section
open Go.Lib (hid)
namespace wFnForms
open Go.RowKit base ints sig term cursor termOk marks app sym dice bigs drawSysD linear shape kindsR ruleMath ruleSpec ruleImpl lawY compImpl
set_option maxRecDepth 100000
def Head (w : World) (o : Nat) (S : Option Addr) (sn sc : Nat) (R : Option Addr) (rn rc : Nat) (d : Dat sSystem) (g : Nat) (a b c i : Value) (wr : World) : Prop :=
 ∃ k : Nat, i = .int .i64 k ∧ k + g = rn ∧ a = .bool (leftB (d.2.take k)) ∧ b = .bool ((d.2.take k).any dblB) ∧ c = .bool ((d.2.take k).any fallsB) ∧ Ts w o S sn sc R rn rc d wr
def Two (wr : World) (S : Option Addr) (sn sc : Nat) (l : Option Addr) (ln lc : Nat) (r : Option Addr) (qn qc : Nat) (s : Value) (wx : World) : Prop :=
 ∃ bo g, s = .pointer (some ⟨bo, 0, none⟩) ∧ Row wx bo 51 #[.slice S sn sc, .slice (some ⟨g, 0, none⟩) 1 1] ∧ Row wx g 85 #[.slice l ln lc, .slice r qn qc] ∧ Below wr.heap.size wr wx
section
variable (wr : World) (S : Option Addr) (sn sc : Nat) (l : Option Addr) (ln lc : Nat) (r : Option Addr) (qn qc : Nat)
theorem two_a : Two wr S sn sc l ln lc r qn qc (.pointer (some ⟨wr.heap.size + 1, 0, none⟩)) ((wr.alloc (.cells #[.slice l ln lc, .slice r qn qc] 85)).alloc (.cells #[.slice S sn sc, .slice (some ⟨wr.heap.size, 0, none⟩) 1 1] 51)).drew := by
 obtain ⟨W, hW, r1, r2, b⟩ := box2 wr 85 51 #[.slice l ln lc, .slice r qn qc] #[.slice S sn sc, .slice (some ⟨wr.heap.size, 0, none⟩) 1 1]
 rw [← hW]
 exact ⟨_, _, rfl, r2.drew, r1.drew, b.drew⟩
theorem two_b : Two wr S sn sc l ln lc r qn qc (.pointer (some ⟨wr.heap.size, 0, none⟩)) ((wr.alloc (.cells #[.slice S sn sc, .slice (some ⟨wr.heap.size + 1, 0, none⟩) 1 1] 51)).alloc (.cells #[.slice l ln lc, .slice r qn qc] 85)).drew := by
 obtain ⟨W, hW, r1, r2, b⟩ := box2 wr 51 85 #[.slice S sn sc, .slice (some ⟨wr.heap.size + 1, 0, none⟩) 1 1] #[.slice l ln lc, .slice r qn qc]
 rw [← hW]
 exact ⟨_, _, rfl, r1.drew, r2.drew, b.drew⟩
end
set_option maxHeartbeats 4000000 in
theorem law (A : Option Addr) (n c : Nat) (_ : List Int) (w : World) (h : SegB w w.heap.size A n) (hN : n ≤ 9223372036854775807) :
  Calls Try.prog 15 #[.slice A n c] w (Fine w) := by
 by_cases hbig : n ≤ 4096
 ·have LB := hid (bigAns A n c false w (by simp; omega) hN)
  go_enter Try.func15, Try.ntmps15
  go_wp2_with fail
  refine LB.out.mono ?_
  rintro e w' ⟨rfl, rfl⟩
  clear LB
  go_wp2_with fail
  refine (drawLeftLinearIn A n c w h hbig).mono ?_
  rintro e w2 ⟨S, sn, sc, R, rn, rc, d, rfl, sd, hz0, b2⟩
  clear h
  have hz : sz sSystem d ≤ 1048576 := by omega
  obtain ⟨o, ho⟩ : ∃ o, w2.heap.size = o := ⟨_, rfl⟩
  obtain ⟨W, hW⟩ : ∃ W, W = w2.alloc (.cells #[.slice S sn sc, .slice R rn rc] 51) := ⟨_, rfl⟩
  have T : Ts w o S sn sc R rn rc d W := by
   have bb : Below w2.heap.size w2 W := by rw [hW]; exact (Below.refl _ _).alloc (Nat.le_refl _) _
   exact ⟨sd.next bb, by rw [hW, ← ho]; exact Row.new _ _ _, next_trans b2 bb⟩
  have HW := hid hW
  have HO := hid ho
  have hrn : rn ≤ 1048576 := by have := T.len; have := sz_len (sys_szs hz).2; omega
  clear sd b2 hW ho
  have c0 : W.cell? ⟨o, 0, none⟩ = some (.slice S sn sc) := T.r.cell 0
  have c1 : W.cell? ⟨o, 1, none⟩ = some (.slice R rn rc) := T.r.cell 1
  obtain ⟨bl, hbl⟩ : ∃ z, leftLinB d.1 d.2 = z := ⟨_, rfl⟩
  obtain ⟨bd, hbd⟩ : ∃ z, dupB d.1 d.2 = z := ⟨_, rfl⟩
  obtain ⟨bf, hbf⟩ : ∃ z, collB d.1 d.2 = z := ⟨_, rfl⟩
  obtain ⟨bc, hbc⟩ : ∃ z, consB d.1 d.2 = z := ⟨_, rfl⟩
  have HL := hid hbl
  have HD := hid hbd
  have HF := hid hbf
  have HC := hid hbc
  clear hbl hbd hbf hbc
  go_wp2_with fail
  rw [← HW.out, HO.out]
  refine (implLeftLinearIn _ _ d _ T.s hz).mono ?_
  rintro e w3 ⟨he, bb⟩
  rw [HL.out] at he
  subst he
  replace T := T.next bb
  clear bb c0 c1 HW HO
  have c0 : w3.cell? ⟨o, 0, none⟩ = some (.slice S sn sc) := T.r.cell 0
  have c1 : w3.cell? ⟨o, 1, none⟩ = some (.slice R rn rc) := T.r.cell 1
  go_wp2_with fail
  refine (implDuplicatingIn _ _ d _ T.s hz).mono ?_
  rintro e w4 ⟨he, bb⟩
  rw [HD.out] at he
  subst he
  replace T := T.next bb
  clear bb c0 c1
  have c0 : w4.cell? ⟨o, 0, none⟩ = some (.slice S sn sc) := T.r.cell 0
  have c1 : w4.cell? ⟨o, 1, none⟩ = some (.slice R rn rc) := T.r.cell 1
  go_wp2_with fail
  refine (implCollapsingIn _ _ d _ T.s hz).mono ?_
  rintro e w5 ⟨he, bb⟩
  rw [HF.out] at he
  subst he
  replace T := T.next bb
  clear bb c0 c1
  have c0 : w5.cell? ⟨o, 0, none⟩ = some (.slice S sn sc) := T.r.cell 0
  have c1 : w5.cell? ⟨o, 1, none⟩ = some (.slice R rn rc) := T.r.cell 1
  have el : (bl != bl) = false := by simp
  have ed : (bd != bd) = false := by simp
  have ef : (bf != bf) = false := by simp
  have ec : (bc != bc) = false := by simp
  replace T := T.drew
  go_wp2_with fail
  go_region_held3 (fun w' => w'.cell? ⟨o, 0, none⟩ = some (.slice S sn sc) ∧ w'.cell? ⟨o, 1, none⟩ = some (.slice R rn rc))
   (go_keep)
   (first
    | (go_at_call 61; refine (specLeftLinearIn _ _ d _ T.s hz).mono ?_; rintro e u1 ⟨he, bb⟩; rw [HL.out] at he; subst he; replace T := T.next bb; have k0 : u1.cell? ⟨o, 0, none⟩ = some (.slice S sn sc) := T.r.cell 0; have k1 : u1.cell? ⟨o, 1, none⟩ = some (.slice R rn rc) := T.r.cell 1; clear bb)
    | (go_at_call 56; refine (specDuplicatingIn _ _ d _ T.s hz).mono ?_; rintro e u2 ⟨he, bb⟩; rw [HD.out] at he; subst he; replace T := T.next bb; have k0 : u2.cell? ⟨o, 0, none⟩ = some (.slice S sn sc) := T.r.cell 0; have k1 : u2.cell? ⟨o, 1, none⟩ = some (.slice R rn rc) := T.r.cell 1; clear bb)
    | (go_at_call 62; refine (specCollapsingIn _ _ d _ T.s hz).mono ?_; rintro e u3 ⟨he, bb⟩; rw [HF.out] at he; subst he; replace T := T.next bb; have k0 : u3.cell? ⟨o, 0, none⟩ = some (.slice S sn sc) := T.r.cell 0; have k1 : u3.cell? ⟨o, 1, none⟩ = some (.slice R rn rc) := T.r.cell 1; clear bb)
    | (go_at_call 63; refine (implConstructorSystem _ _ d _ T.s hz).mono ?_; rintro e u4 ⟨he, bb⟩; rw [HC.out] at he; subst he; replace T := T.next bb; have k0 : u4.cell? ⟨o, 0, none⟩ = some (.slice S sn sc) := T.r.cell 0; have k1 : u4.cell? ⟨o, 1, none⟩ = some (.slice R rn rc) := T.r.cell 1; clear bb)
    | (go_at_call 64; refine (specConstructorSystem _ _ d _ T.s hz).mono ?_; rintro e u5 ⟨he, bb⟩; rw [HC.out] at he; subst he; replace T := T.next bb; have k0 : u5.cell? ⟨o, 0, none⟩ = some (.slice S sn sc) := T.r.cell 0; have k1 : u5.cell? ⟨o, 1, none⟩ = some (.slice R rn rc) := T.r.cell 1; clear bb))
  clear k0 k1 c0 c1 el ed ef ec
  have k0 : u5.cell? ⟨o, 0, none⟩ = some (.slice S sn sc) := T.r.cell 0
  have k1 : u5.cell? ⟨o, 1, none⟩ = some (.slice R rn rc) := T.r.cell 1
  cases hok : sysOkB d.1 d.2 with
  | false =>
   obtain ⟨n1, n2, n3⟩ := forms_no hok
   obtain rfl : bl = false := by rw [← HL.out]; exact n1
   obtain rfl : bd = false := by rw [← HD.out]; exact n2
   obtain rfl : bf = false := by rw [← HF.out]; exact n3
   have HOK := hid hok
   clear hok n1 n2 n3
   go_wp2_with fail
   refine (specSystemOk _ _ d _ T.s hz).mono ?_
   rintro e w9 ⟨he, bb⟩
   rw [HOK.out] at he
   subst he
   have TB := hid (T.next bb).bel
   clear bb T
   go_wp2
   go_ret
   exact ⟨rfl, TB.out⟩
  | true =>
   have HOK := hid hok
   obtain ⟨n1, n2, n3⟩ := forms_end hok
   have E1 := hid (HL.out.symm.trans n1)
   have E2 := hid (HD.out.symm.trans n2)
   have E3 := hid (HF.out.symm.trans n3)
   clear hok n1 n2 n3 HL HD HF HC
   go_wp2_with fail
   refine (specSystemOk _ _ d _ T.s hz).mono ?_
   rintro e w9 ⟨he, bb⟩
   rw [HOK.out] at he
   subst he
   replace T := T.next bb
   clear bb k0 k1
   have HH := hid (show Head w o S sn sc R rn rc d rn (.bool true) (.bool false) (.bool false) (.int .i64 0) w9 from ⟨0, rfl, by omega, by simp [leftB], by simp, by simp, T⟩)
   have hlen := hid T.len
   clear T
   go_wp2_with fail
   go_loopg [7, 8, 9, 10] rn (fun g a b c i wr => Head w o S sn sc R rn rc d g a b c i wr)
   case atStart => exact HH.out
   case round =>
    clear HH
    obtain ⟨k, rfl, hkg, rfl, rfl, rfl, T⟩ := hrel
    have HK := hid hkg
    clear hkg
    have k0 : wr.cell? ⟨o, 0, none⟩ = some (.slice S sn sc) := T.r.cell 0
    have k1 : wr.cell? ⟨o, 1, none⟩ = some (.slice R rn rc) := T.r.cell 1
    obtain ⟨ba, hba⟩ : ∃ z, leftB (d.2.take k) = z := ⟨_, rfl⟩
    obtain ⟨bb1, hbb⟩ : ∃ z, (d.2.take k).any dblB = z := ⟨_, rfl⟩
    obtain ⟨bc1, hbc⟩ : ∃ z, (d.2.take k).any fallsB = z := ⟨_, rfl⟩
    rw [hba, hbb, hbc]
    have HA := hid hba
    have HB := hid hbb
    have HC := hid hbc
    clear hba hbb hbc
    by_cases hlt : k < rn
    ·obtain ⟨b, off, l, ln, lc, r, qn, qc, rfl, hb, hl0, hr0, hx, hcap⟩ := T.rule hlt
     have i1 : (k : Int) < (rn : Int) := by omega
     have hkl : k < d.2.length := by rw [hlen.out]; exact hlt
     have H1 := hid (one_left HOK.out hkl)
     have H2 := hid (one_dup HOK.out hkl)
     have H3 := hid (one_coll HOK.out hkl)
     have G1 := hid (left_step hkl)
     have G2 := hid (take_any (f := dblB) hkl)
     have G3 := hid (take_any (f := fallsB) hkl)
     have HX := hid hx
     clear hx
     go_upto_region 17 with fail
     go_cut [11] (fun s11 wx => Two wr S sn sc l ln lc r qn qc s11 wx)
     case first =>
      have zo := T.r.lt
      clear T HX
      go_region_law (fail)
      all_goals
       go_wp2_with fail
       go_meet
       first | (with_reducible exact two_a wr S sn sc l ln lc r qn qc) | (with_reducible exact two_b wr S sn sc l ln lc r qn qc)
     case rest =>
      rename World => wc
      obtain ⟨bo, g, rfl, ro, rg, bx⟩ := hcut
      obtain ⟨x, hxe⟩ : ∃ x, d.2.getD k ([], []) = x := ⟨_, rfl⟩
      rw [hxe] at H1 H2 H3 G1 G2 G3 HX
      have hz1 : sz sRule x ≤ 2000 := by rw [← hxe]; exact sz_each (e := 85) (s := sRule) (L := 2000) (d := d.2) (by have h1 : sz sI d.1 + sz (.row 85 sRule) d.2 ≤ 2000 := hz0; omega) hkl
      have hzo : sz sSystem ((d.1, [x]) : List Int × List Rl) ≤ 1048576 := by
       have h1 : sz sI d.1 + sz sRuleS d.2 ≤ 2000 := hz0
       show sz sI d.1 + (1 + (sz sRule x + 0)) ≤ 1048576
       omega
      replace T := T.next bx
      have V : Ts w bo S sn sc (some ⟨g, 0, none⟩) 1 1 ((d.1, [x]) : List Int × List Rl) wc := ⟨rd_one (parts_System T.s).1 rg (HX.out.next bx), ro, T.bel⟩
      clear ro rg bx hxe hz1 HX hl0 hr0 hb k0 k1
      have q0 : wc.cell? ⟨bo, 0, none⟩ = some (.slice S sn sc) := V.r.cell 0
      have q1 : wc.cell? ⟨bo, 1, none⟩ = some (.slice (some ⟨g, 0, none⟩) 1 1) := V.r.cell 1
      have G1' := G1.out
      have G2' := G2.out
      have G3' := G3.out
      rw [HA.out] at G1'
      rw [HB.out] at G2'
      rw [HC.out] at G3'
      have J1 := hid G1'
      have J2 := hid G2'
      have J3 := hid G3'
      clear G1 G2 G3 G1' G2' G3' HA HB HC
      go_upto_region 18 with fail
      go_cut [7] (fun s7 wx => s7 = .bool (leftB (d.2.take (k + 1))) ∧ Ts w o S sn sc (some ⟨b, off, none⟩) rn rc d wx ∧ Ts w bo S sn sc (some ⟨g, 0, none⟩) 1 1 ((d.1, [x]) : List Int × List Rl) wx)
      case first =>
       cases ba with
       | false =>
        have F := hid (And.intro (show (Value.bool false) = .bool (leftB (d.2.take (k + 1))) by rw [J1.out]; rfl) (And.intro T V))
        clear T V
        go_wp2_with fail
        go_meet
        exact F.out
       | true =>
        have L := hid ((implLeftLinearIn _ _ ((d.1, [x]) : List Int × List Rl) wc V.s hzo).mono fun e w' (r : _ ∧ Below wc.heap.size wc w') => (⟨r.1.trans (by rw [J1.out]; rw [H1.out]; rfl), T.next r.2, V.next r.2⟩ : e = .returned (.bool (leftB (d.2.take (k + 1)))) ∧ Ts w o S sn sc (some ⟨b, off, none⟩) rn rc d w' ∧ Ts w bo S sn sc (some ⟨g, 0, none⟩) 1 1 ((d.1, [x]) : List Int × List Rl) w'))
        clear T V
        go_wp2_with fail
        refine L.out.mono ?_
        rintro e w' ⟨rfl, r1, r2⟩
        have F := hid (And.intro r1 r2)
        clear r1 r2 L
        go_wp2_with fail
        go_meet
        exact ⟨rfl, F.out⟩
      case rest =>
       clear q0 q1 T V
       rename World => wd
       obtain ⟨rfl, T, V⟩ := hcut
       have q0 : wd.cell? ⟨bo, 0, none⟩ = some (.slice S sn sc) := V.r.cell 0
       have q1 : wd.cell? ⟨bo, 1, none⟩ = some (.slice (some ⟨g, 0, none⟩) 1 1) := V.r.cell 1
       go_upto_region 19 with fail
       go_cut [8] (fun s8 wx => s8 = .bool ((d.2.take (k + 1)).any dblB) ∧ Ts w o S sn sc (some ⟨b, off, none⟩) rn rc d wx ∧ Ts w bo S sn sc (some ⟨g, 0, none⟩) 1 1 ((d.1, [x]) : List Int × List Rl) wx)
       case first =>
        cases bb1 with
        | true =>
         have F := hid (And.intro (show (Value.bool true) = .bool ((d.2.take (k + 1)).any dblB) by rw [J2.out]; rfl) (And.intro T V))
         clear T V
         go_wp2_with fail
         go_meet
         exact F.out
        | false =>
         have L := hid ((implDuplicatingIn _ _ ((d.1, [x]) : List Int × List Rl) wd V.s hzo).mono fun e w' (r : _ ∧ Below wd.heap.size wd w') => (⟨r.1.trans (by rw [J2.out]; rw [H2.out]; rfl), T.next r.2, V.next r.2⟩ : e = .returned (.bool ((d.2.take (k + 1)).any dblB)) ∧ Ts w o S sn sc (some ⟨b, off, none⟩) rn rc d w' ∧ Ts w bo S sn sc (some ⟨g, 0, none⟩) 1 1 ((d.1, [x]) : List Int × List Rl) w'))
         clear T V
         go_wp2_with fail
         refine L.out.mono ?_
         rintro e w' ⟨rfl, r1, r2⟩
         have F := hid (And.intro r1 r2)
         clear r1 r2 L
         go_wp2_with fail
         go_meet
         exact ⟨rfl, F.out⟩
       case rest =>
        clear q0 q1 T V
        rename World => we
        obtain ⟨rfl, T, V⟩ := hcut
        have q0 : we.cell? ⟨bo, 0, none⟩ = some (.slice S sn sc) := V.r.cell 0
        have q1 : we.cell? ⟨bo, 1, none⟩ = some (.slice (some ⟨g, 0, none⟩) 1 1) := V.r.cell 1
        obtain ⟨vb, hvb⟩ : ∃ z, (d.2.take (k + 1)).any fallsB = z := ⟨_, rfl⟩
        rw [hvb] at J3
        have HVB := hid hvb
        clear hvb
        cases bc1 with
        | true =>
         obtain rfl : vb = true := by rw [J3.out]; rfl
         have F := hid (show Head w o S sn sc (some ⟨b, off, none⟩) rn rc d (gk - 1) (.bool (leftB (d.2.take (k + 1)))) (.bool ((d.2.take (k + 1)).any dblB)) (.bool true) (.int .i64 ((k : Int) + 1)) we from ⟨k + 1, by simp, by have := HK.out; omega, rfl, rfl, by rw [HVB.out], T⟩)
         clear T V J1 J2 J3 H1 H2 H3
         go_wp2
         go_roundg (gk - 1)
         case measure => have := HK.out; omega
         case rel => exact F.out
        | false =>
         have L := hid ((implCollapsingIn _ _ ((d.1, [x]) : List Int × List Rl) we V.s hzo).mono fun e w' (r : _ ∧ Below we.heap.size we w') => (⟨r.1.trans (by rw [J3.out]; rw [H3.out]; rfl), T.next r.2⟩ : e = .returned (.bool vb) ∧ Ts w o S sn sc (some ⟨b, off, none⟩) rn rc d w'))
         clear T V
         go_wp2_with fail
         refine L.out.mono ?_
         rintro e w' ⟨rfl, T⟩
         have F := hid (show Head w o S sn sc (some ⟨b, off, none⟩) rn rc d (gk - 1) (.bool (leftB (d.2.take (k + 1)))) (.bool ((d.2.take (k + 1)).any dblB)) (.bool vb) (.int .i64 ((k : Int) + 1)) w' from ⟨k + 1, by simp, by have := HK.out; omega, rfl, rfl, by rw [HVB.out], T⟩)
         clear T J1 J2 J3 H1 H2 H3 L
         go_wp2
         go_roundg (gk - 1)
         case measure => have := HK.out; omega
         case rel => exact F.out
    ·have ek : k = rn := by have := HK.out; omega
     subst ek
     have HT := hid (show d.2.take k = d.2 by rw [List.take_of_length_le (by rw [hlen.out]; exact Nat.le_refl _)])
     obtain rfl : ba = bl := by rw [← HA.out, E1.out, HT.out]
     obtain rfl : bb1 = bd := by rw [← HB.out, E2.out, HT.out]
     obtain rfl : bc1 = bf := by rw [← HC.out, E3.out, HT.out]
     have TB := hid T.bel
     clear T HA HB HC HT
     have e1 : (ba == ba) = true := by simp
     have e2 : (bb1 == bb1) = true := by simp
     have e3 : (bc1 == bc1) = true := by simp
     go_wp2
     go_ret
     exact ⟨rfl, TB.out⟩
 ·have LB := hid (bigAns A n c true w (by simp; omega) hN)
  clear h
  go_enter Try.func15, Try.ntmps15
  go_wp2_with fail
  refine LB.out.mono ?_
  rintro e w' ⟨rfl, rfl⟩
  go_wp2
  go_ret
  exact ⟨rfl, Below.refl _ _⟩
end wFnForms
end
end Go.Proofs.Ytiimbmkofpnebaa
