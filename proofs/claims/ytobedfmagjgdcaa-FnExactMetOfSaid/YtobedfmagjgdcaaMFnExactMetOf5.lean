/-
  MERGED: my texts Behind, Apart, GenMath, SameSubst, PlainFacts, RenPure, UnifLaw, RenImpl, GenPos, AppZ, GenTab, GenSpec, GenRec, GenMain, General, Met, MetX, WMetOf, one behind the other, as they are. By an AI agent.
-/
import Derived.Test.YtobedfmagjgdcaaMFnExactMetOf4
import Derived.Deep.RegionHeld3
import Derived.Deep.QuietTactic
import Derived.BigQuiet
namespace Go.Proofs.Ytobedfmagjgdcaa
section
open Go.Lib (hid)
namespace behind
open Go.RowKit base ints sig term termOk marks app sym varsMath termFacts varsOf maxi
set_option maxRecDepth 100000
def behindL (t : List Int) : Int := t.foldl (fun n x => max n (-x)) 0
def behindI (sg t : List Int) : Int := if termOkB sg t = true then behindL t else -1
theorem behind_take {t : List Int} {k : Nat} {x : Int} (hk : k < t.length) (hx : t.getD k 0 = x) : behindL (t.take (k + 1)) = max (behindL (t.take k)) (-x) := by
 unfold behindL
 rw [take_snoc hk hx, List.foldl_append]
 rfl
theorem fold_max : ∀ (t : List Int) (z : Int), (z ≤ t.foldl (fun n x => max n (-x)) z ∧ ∀ x ∈ t, -x ≤ t.foldl (fun n x => max n (-x)) z) ∧ (t.foldl (fun n x => max n (-x)) z = z ∨ ∃ x ∈ t, t.foldl (fun n x => max n (-x)) z = -x)
 | [], z => ⟨⟨Int.le_refl _, fun x hx => absurd hx (List.not_mem_nil)⟩, .inl rfl⟩
 | y :: r, z => by
  obtain ⟨⟨h1, h2⟩, h3⟩ := fold_max r (max z (-y))
  rw [List.foldl_cons]
  refine ⟨⟨by omega, fun x hx => ?_⟩, ?_⟩
  ·rcases List.mem_cons.1 hx with rfl | hx
   ·omega
   ·exact h2 x hx
  ·rcases h3 with h3 | ⟨x, hx, h3⟩
   ·rw [h3]
    by_cases h : z < -y
    ·exact .inr ⟨y, List.mem_cons_self .., by omega⟩
    ·exact .inl (by omega)
   ·exact .inr ⟨x, List.mem_cons_of_mem _ hx, h3⟩
def lastP (ys : List Int) (k : Nat) : Int := if k = 0 then 0 else ys.getD (k - 1) 0 + 1
theorem lastP_succ {ys : List Int} {k : Nat} {x : Int} (hx : ys.getD k 0 = x) : lastP ys (k + 1) = x + 1 := by
 unfold lastP
 rw [if_neg (by omega), Nat.add_sub_cancel, hx]
theorem neg_mem {t : List Int} {i : Int} : i ∈ vars t ↔ -1 - i ∈ t ∧ 0 ≤ i := by
 rw [vars_mem]
 unfold negs
 rw [List.mem_map]
 constructor
 ·rintro ⟨x, hx, rfl⟩
  obtain ⟨h1, h2⟩ := List.mem_filter.1 hx
  have h2 : x < 0 := by simpa using h2
  exact ⟨by rw [show -1 - (-1 - x) = x by omega]; exact h1, by omega⟩
 ·rintro ⟨h1, h2⟩
  exact ⟨-1 - i, List.mem_filter.2 ⟨h1, by simp; omega⟩, by omega⟩
theorem behind_last (t : List Int) : lastP (vars t) (vars t).length = behindL t := by
 obtain ⟨⟨h1, h2⟩, h3⟩ := fold_max t 0
 have h0 : behindL t = t.foldl (fun n x => max n (-x)) 0 := rfl
 rw [← h0] at h1 h2 h3
 by_cases hz : (vars t).length = 0
 ·have he := List.eq_nil_of_length_eq_zero hz
  unfold lastP
  rw [if_pos hz]
  rcases h3 with h3 | ⟨x, hx, h3⟩
  ·exact h3.symm
  ·have : ¬ x < 0 := fun hn => by
    have := (neg_mem (t := t) (i := -1 - x)).2 ⟨by rw [show -1 - (-1 - x) = x by omega]; exact hx, by omega⟩
    rw [he] at this
    exact absurd this (List.not_mem_nil)
   omega
 ·unfold lastP
  rw [if_neg hz]
  have hl : (vars t).length - 1 < (vars t).length := by omega
  have hm : (vars t).getD ((vars t).length - 1) 0 ∈ vars t := by simp [List.getD, hl]
  have hr := vars_rises t
  obtain ⟨m1, m2⟩ := neg_mem.1 hm
  have a1 := h2 _ m1
  rcases h3 with h3 | ⟨x, hx, h3⟩
  ·omega
  ·by_cases hn : x < 0
   ·have hv := (neg_mem (t := t) (i := -1 - x)).2 ⟨by rw [show -1 - (-1 - x) = x by omega]; exact hx, by omega⟩
    obtain ⟨j, hj, ej⟩ := List.getElem_of_mem hv
    have hle : -1 - x ≤ (vars t).getD ((vars t).length - 1) 0 := by
     rw [← ej]
     simp only [List.getD, hl, List.getElem?_eq_getElem, Option.getD_some]
     by_cases e : j = (vars t).length - 1
     ·subst e; exact Int.le_refl _
     ·exact Int.le_of_lt (List.pairwise_iff_getElem.1 hr j _ hj hl (by omega))
    omega
   ·omega
theorem behind_ok {sg t : List Int} (h : termOkB sg t = true) : 0 ≤ behindL t ∧ behindL t ≤ 24 := by
 obtain ⟨⟨h1, _⟩, h3⟩ := fold_max t 0
 have h0 : behindL t = t.foldl (fun n x => max n (-x)) 0 := rfl
 rw [← h0] at h1 h3
 refine ⟨h1, ?_⟩
 rcases h3 with h3 | ⟨x, hx, h3⟩
 ·omega
 ·have := (term_mem h hx).1
  omega
theorem behindI_bd (sg t : List Int) : -1 ≤ behindI sg t ∧ behindI sg t ≤ 24 := by
 unfold behindI
 split
 ·rename_i h; have := behind_ok h; omega
 ·omega
def HeadB (m : Nat) (t : List Int) (n i : Value) (w wr : World) : Prop := ∃ k : Nat, k ≤ m ∧ i = .int .i64 k ∧ n = .int .i64 (behindL (t.take k)) ∧ w = wr
set_option maxHeartbeats 1000000 in
theorem l5Behind (A : Option Addr) (m c : Nat) (t : List Int) (w : World) (h : Seg w w.heap.size A m t) (hm : m ≤ 1048576) (hv : ∀ x ∈ t, -24 ≤ x ∧ x ≤ 8) :
  Calls Try.prog 64 #[.slice A m c] w fun e w' => w = w' ∧ e = .returned (.int .i64 (behindL t)) := by
 have HL := hid h.1
 have HV := hid hv
 have HH := hid (show HeadB m t (.int .i64 0) (.int .i64 0) w w from ⟨0, Nat.zero_le _, rfl, rfl, rfl⟩)
 clear hv
 go_enter Try.func64, Try.ntmps64
 go_wp2_with fail
 go_loopw [3, 4] (fun n i wr => HeadB m t n i w wr) (fun _ i _ => m - (intOf i).toNat)
 case atStart => exact HH.out
 case round =>
  obtain ⟨k, hk, rfl, rfl, rfl⟩ := hrel
  clear HH
  by_cases hlt : k < m
  ·obtain ⟨b, off, x, rfl, -, hx, ex⟩ := h.spot hlt
   have hkl : k < t.length := by rw [HL.out]; exact hlt
   have hmem : x ∈ t := by
    rw [← ex.out]
    simp [List.getD, hkl]
   obtain ⟨v1, v2⟩ := HV.out x hmem
   have E := hid (behind_take hkl ex.out)
   have S : HeadB m t (.int .i64 (max (behindL (t.take k)) (-x))) (.int .i64 ((k : Int) + 1)) w w := ⟨k + 1, hlt, by simp, by rw [E.out], rfl⟩
   have HS := hid S
   clear S E h hmem hkl ex
   go_wp2_with fail
   refine (max_any _ _ _).mono ?_
   rintro e w' ⟨rfl, rfl⟩
   go_wp2
   go_roundw
   case rel => exact HS.out
   case measure => simp [intOf]; omega
  ·have F : behindL (t.take k) = behindL t := by rw [List.take_of_length_le (by rw [HL.out]; omega)]
   have HF := hid F
   clear F h
   go_wp2
   go_ret
   exact ⟨rfl, by rw [← HF.out]; rfl⟩
def AnsI (w : World) (z : Int) (e : Ending) (w' : World) : Prop := e = .returned (.int .i64 z) ∧ Below w.heap.size w w'
def HeadL (w : World) (m : Nat) (ys : List Int) (z i : Value) (wr : World) : Prop := ∃ k : Nat, k ≤ m ∧ i = .int .i64 k ∧ z = .int .i64 (lastP ys k) ∧ Below w.heap.size w wr
set_option maxHeartbeats 1000000 in
theorem implBehindOf (A A' : Option Addr) (n c m c' : Nat) (sg t : List Int) (w : World) (h : Seg w w.heap.size A n sg) (h' : Seg w w.heap.size A' m t) (hn : n ≤ 1048576) (hm : m ≤ 1048576) :
  Calls Try.prog 66 #[.agg #[.slice A n c], .slice A' m c'] w (AnsI w (behindI sg t)) := by
 obtain ⟨W, hW⟩ : ∃ W, W = w.alloc (.cells #[.slice A n c] 29) := ⟨_, rfl⟩
 have bel : Below w.heap.size w W := by rw [hW]; exact (Below.refl _ _).alloc (Nat.le_refl _) _
 have r0 : Row W w.heap.size 29 #[.slice A n c] := by rw [hW]; exact Row.new _ _ _
 have s := h.next bel
 have s1 := h'.next bel
 have L := hid (implTermOk A A' n c m c' sg t W s s1 hn hm)
 have HW := hid hW
 clear hW h h'
 cases hok : termOkB sg t with
 | false =>
  have F := hid (show behindI sg t = -1 by unfold behindI; rw [if_neg (by rw [hok]; simp)])
  have HS := hid hok
  clear hok s s1 r0
  go_enter Try.func66, Try.ntmps66
  go_wp2_with fail
  rw [← HW.out]
  refine L.out.mono ?_
  rintro e w1 ⟨he, bb⟩
  rw [HS.out] at he
  subst he
  have B := hid (next_trans bel bb)
  clear bb bel L
  go_wp2
  go_ret
  exact ⟨by rw [F.out]; rfl, B.out⟩
 | true =>
  have F := hid (show behindI sg t = behindL t by unfold behindI; rw [if_pos hok])
  have HS := hid hok
  have hvs : varsI sg t = vars t := by unfold varsI; rw [if_pos hok]
  clear hok
  go_enter Try.func66, Try.ntmps66
  go_wp2_with fail
  rw [← HW.out]
  refine L.out.mono ?_
  rintro e w1 ⟨he, bb⟩
  rw [HS.out] at he
  subst he
  have LV := hid (implVarsOf A A' n c m c' sg t w1 (s.next bb) (s1.next bb) hn hm)
  replace r0 := r0.next bb
  have c0 : w1.cell? ⟨w.heap.size, 0, none⟩ = some (.slice A n c) := r0.cell 0
  have B := hid (next_trans bel bb)
  clear bb bel L s s1 r0
  go_wp2_with fail
  refine LV.out.mono ?_
  rintro e w2 ⟨O, on, oc, rfl, ho, bb⟩
  rw [hvs] at ho
  have so := Own.seg ho
  have HB := hid (next_trans B.out bb)
  have HL := hid so.1
  have h24 : on ≤ 60 := by rw [← so.1]; exact Nat.le_trans (vars_len t) (term_len HS.out).2
  have hv := hid (fun x (hx : x ∈ vars t) => by have h1 := neg_mem.1 hx; have h2 := term_mem HS.out h1.1; exact (⟨by omega, by omega⟩ : 0 ≤ x ∧ x < 24))
  have HBL := hid (behind_last t)
  clear bb ho LV c0 hvs B
  have HH := hid (show HeadL w2 on (vars t) (.int .i64 0) (.int .i64 0) w2 from ⟨0, Nat.zero_le _, rfl, rfl, Below.refl _ _⟩)
  go_wp2_with fail
  go_loopw [5, 16] (fun z i wr => HeadL w2 on (vars t) z i wr) (fun _ i _ => on - (intOf i).toNat)
  case atStart => exact HH.out
  case round =>
   obtain ⟨k, hk, rfl, rfl, hb⟩ := hrel
   clear HH
   by_cases hlt : k < on
   ·obtain ⟨b, off, x, rfl, hbb, hx0, ex⟩ := so.spot hlt
    have hx : wr.cell? ⟨b, off + k, none⟩ = some (.int .i64 x) := (hb.cell (p := ⟨b, off + k, none⟩) hbb).trans hx0
    have hkl : k < (vars t).length := by rw [HL.out]; exact hlt
    have hmem : x ∈ vars t := by
     rw [← ex.out]
     simp [List.getD, hkl]
    obtain ⟨v1, v2⟩ := hv.out x hmem
    have S : HeadL w2 on (vars t) (.int .i64 (x + 1)) (.int .i64 ((k : Int) + 1)) wr := ⟨k + 1, hlt, by simp, by rw [lastP_succ ex.out], hb⟩
    have HS1 := hid S
    clear S ex hmem hkl so hx0 hb
    go_wp2
    go_roundw
    case rel => exact HS1.out
    case measure => simp [intOf]; omega
   ·have hz : lastP (vars t) k = behindL t := by rw [← HBL.out, HL.out]; congr 1; omega
    have HZ := hid hz
    have HB2 := hid (next_trans HB.out hb)
    clear hz so hb
    go_wp2
    go_ret
    exact ⟨by rw [F.out, ← HZ.out]; rfl, HB2.out⟩
end behind
end
section
open Go.Lib (hid)
namespace apart5
open Go.RowKit base ints sig term termOk termFacts endAt cursor marks segs segsHelp kinds fillMath Go.Proofs.Ytobedfmagjgdcaa.look shifted plain unifMath unified unifImpl behind
set_option maxRecDepth 100000
def IsA (sg a b : List Int) (v : Bool) (F : List (List Int)) : Prop :=
 (shiftedB sg b (behindI sg a) = true ∧ IsU sg a (shiftedL sg b (behindI sg a)) v F) ∨ (shiftedB sg b (behindI sg a) = false ∧ v = false ∧ F = [])
theorem isA_ex (sg a b : List Int) : ∃ v F, IsA sg a b v F := by
 cases h : shiftedB sg b (behindI sg a) with
 | true =>
  obtain ⟨v, F, hU⟩ := isU_ex sg a (shiftedL sg b (behindI sg a))
  exact ⟨v, F, .inl ⟨h, hU⟩⟩
 | false => exact ⟨false, [], .inr ⟨h, rfl, rfl⟩⟩
theorem isA_off {sg a b : List Int} {v : Bool} {F : List (List Int)} (h : IsA sg a b v F) (hs : shiftedB sg b (behindI sg a) = false) : v = false ∧ F = [] := by
 rcases h with ⟨e, _⟩ | ⟨_, h⟩
 ·rw [hs] at e; cases e
 ·exact h
theorem isA_on {sg a b : List Int} {v : Bool} {F : List (List Int)} (h : IsA sg a b v F) (hs : shiftedB sg b (behindI sg a) = true) : IsU sg a (shiftedL sg b (behindI sg a)) v F := by
 rcases h with ⟨_, h⟩ | ⟨e, _⟩
 ·exact h
 ·rw [hs] at e; cases e
theorem behind_no {sg a : List Int} (h : termOkB sg a = false) : behindI sg a = -1 := by unfold behindI; rw [if_neg (by rw [h]; simp)]
theorem behind_yes {sg a : List Int} (h : termOkB sg a = true) : behindI sg a = behindL a := by unfold behindI; rw [if_pos h]
theorem isA_bad {sg a b : List Int} {v : Bool} {F : List (List Int)} (h : IsA sg a b v F) (ha : termOkB sg a = false) : v = false ∧ F = [] :=
 isA_off h (shifted_no (.inr (.inl (by rw [behind_no ha]; omega))))
theorem shiftedL_len (sg b : List Int) (k : Int) : (shiftedL sg b k).length ≤ 60 := by
 unfold shiftedL
 split
 ·rename_i h
  unfold shiftedB at h
  have h1 : termOkB sg b = true := by
   cases e : termOkB sg b with
   | true => rfl
   | false => rw [e] at h; simp at h
  unfold shiftL
  rw [List.length_map]
  exact (term_len h1).2
 ·simp
theorem keep_drewN {w : World} {a : Addr} {v : Value} (h : w.cell? a = some v) (d : Nat) : (w.drewN d).cell? a = some v := h
set_option maxHeartbeats 2000000 in
theorem specUnifiedApart (A P Q : Option Addr) (n c pn pc m mc : Nat) (sg p t : List Int) (w : World) (v : Bool) (F : List (List Int)) (hU : IsA sg p t v F) (h : Seg w w.heap.size A n sg) (hp : Seg w w.heap.size P pn p) (ht : Seg w w.heap.size Q m t) (hn : n ≤ 1048576) (hpn : pn ≤ 1048576) (hm : m ≤ 1048576) :
  Calls Try.prog 30 #[.agg #[.slice A n c], .slice P pn pc, .slice Q m mc] w (AnsUB w F v) := by
 obtain ⟨W, hW⟩ : ∃ W, W = (w.alloc (.cells #[.slice A n c] 29)).alloc (.cells #[.slice none 0 0] 39) := ⟨_, rfl⟩
 have M : Mr w W A n c sg P pn p Q m t := by rw [hW]; exact Mr.start h hp ht
 have HW := hid hW
 have c0 : W.cell? ⟨w.heap.size, 0, none⟩ = some (.slice A n c) := M.r0.cell 0
 have HU := hid hU
 have hbd := behindI_bd sg p
 have hb1 := hbd.1
 have hb2 := hbd.2
 clear hU hW h hp ht hbd
 have L := hid (specTermOk A P n c pn pc sg p W M.ss M.sp hn hpn)
 cases hokp : termOkB sg p with
 | false =>
  obtain ⟨hv, hF⟩ := isA_bad HU.out hokp
  subst hv
  subst hF
  have HS := hid hokp
  clear hokp HU
  go_enter Try.func30, Try.ntmps30
  go_wp2_with fail
  rw [← HW.out]
  refine L.out.mono ?_
  rintro e w1 ⟨he, bb⟩
  rw [HS.out] at he
  subst he
  replace M := M.next bb
  have cR : w1.cell? ⟨w.heap.size + 1, 0, none⟩ = some (.slice none 0 0) := M.r1.cell 0
  have fR : w1.frozen? ⟨w.heap.size + 1, 0, none⟩ = false := M.r1.free 0
  have F1 := hid (show AnsUB w [] false (.returned (.tuple #[.agg #[.slice none 0 0], .bool false])) _ from ⟨none, 0, 0, rfl, Owns.nil _ _ _, M.b⟩)
  have F2 := hid (show AnsUB w [] false (.returned (.tuple #[.agg #[.slice none 0 0], .bool false])) (w1.setCell ⟨w.heap.size + 1, 0, none⟩ (.slice none 0 0)) from ⟨none, 0, 0, rfl, Owns.nil _ _ _, (M.b).setCell (p := ⟨w.heap.size + 1, 0, none⟩) (show w.heap.size ≤ w.heap.size + 1 by omega) _⟩)
  clear M L bb c0
  go_wp2
  first
   | exact bodyPost_ret (v := .tuple #[.agg #[.slice none 0 0], .bool false]) (by simp [results, Try.results30, go_sem, cR]) rfl F1.out
   | exact bodyPost_ret (v := .tuple #[.agg #[.slice none 0 0], .bool false]) (by simp [results, Try.results30, go_sem, cR]) rfl F2.out
 | true =>
  have HSP := hid hokp
  have HB := hid (behind_yes hokp)
  clear hokp
  go_enter Try.func30, Try.ntmps30
  go_wp2_with fail
  rw [← HW.out]
  refine L.out.mono ?_
  rintro e w1 ⟨he, bb⟩
  rw [HSP.out] at he
  subst he
  replace M := M.next bb
  clear bb L c0
  have c0 : w1.cell? ⟨w.heap.size, 0, none⟩ = some (.slice A n c) := M.r0.cell 0
  have MD := M.next (w' := w1.drew) ((Below.refl _ _).drew)
  have LB := hid (l5Behind P pn pc p w1.drew MD.sp hpn (fun x hx => by have := term_mem HSP.out hx; omega))
  rw [← HB.out] at LB
  have LS := hid (specShifted A Q n c m mc sg t (behindI sg p) w1.drew MD.ss MD.st hn hm (by omega) (by omega))
  have HMD := hid MD
  clear MD M
  generalize hz : behindI sg p = z at *
  go_wp2_with fail
  go_region_held3 (fun w' => w'.cell? ⟨w.heap.size, 0, none⟩ = some (.slice A n c))
   (first | assumption | exact c0 | exact keep_drewN c0 _)
   (first
    | (go_at_call 64; refine LB.out.mono ?_; rintro e w2 ⟨rfl, rfl⟩)
    | (go_at_call 63; refine LS.out.mono ?_; rintro e w3 ⟨X, xn, xc, rfl, sx, bb⟩; have M3 := HMD.out.next bb; have y0 : w3.cell? ⟨w.heap.size, 0, none⟩ = some (.slice A n c) := M3.r0.cell 0))
  have hxl := hid (shiftedL_len sg t z)
  cases hs : shiftedB sg t z with
  | false =>
   obtain ⟨hv, hF⟩ := isA_off HU.out (by rw [hz]; exact hs)
   subst hv
   subst hF
   have M := M3
   clear M3 HU hs
   have cR : w3.cell? ⟨w.heap.size + 1, 0, none⟩ = some (.slice none 0 0) := M.r1.cell 0
   have fR : w3.frozen? ⟨w.heap.size + 1, 0, none⟩ = false := M.r1.free 0
   have F1 := hid (show AnsUB w [] false (.returned (.tuple #[.agg #[.slice none 0 0], .bool false])) _ from ⟨none, 0, 0, rfl, Owns.nil _ _ _, M.b⟩)
   have F2 := hid (show AnsUB w [] false (.returned (.tuple #[.agg #[.slice none 0 0], .bool false])) (w3.setCell ⟨w.heap.size + 1, 0, none⟩ (.slice none 0 0)) from ⟨none, 0, 0, rfl, Owns.nil _ _ _, (M.b).setCell (p := ⟨w.heap.size + 1, 0, none⟩) (show w.heap.size ≤ w.heap.size + 1 by omega) _⟩)
   clear M LB LS HMD c0 y0 sx bb
   go_wp2
   first
    | exact bodyPost_ret (v := .tuple #[.agg #[.slice none 0 0], .bool false]) (by simp [results, Try.results30, go_sem, cR]) rfl F1.out
    | exact bodyPost_ret (v := .tuple #[.agg #[.slice none 0 0], .bool false]) (by simp [results, Try.results30, go_sem, cR]) rfl F2.out
  | true =>
   have hU2 := isA_on HU.out (by rw [hz]; exact hs)
   rw [hz] at hU2
   have hx60 : xn ≤ 1048576 := by rw [← sx.1]; exact Nat.le_trans hxl.out (by omega)
   have LU := hid (specUnified A P X n c pn pc xn xc sg p (shiftedL sg t z) w3 v F hU2 M3.ss M3.sp sx hn hpn hx60)
   have r3 := M3.r1
   have b3 := M3.b
   clear M3 HU hU2 hs LB LS HMD c0 sx bb
   go_wp2_with fail
   refine LU.out.mono ?_
   rintro e w4 ⟨O, on, oc, rfl, ho, b4⟩
   have r4 := r3.next b4
   have cR : w4.cell? ⟨w.heap.size + 1, 0, none⟩ = some (.slice none 0 0) := r4.cell 0
   have fR : w4.frozen? ⟨w.heap.size + 1, 0, none⟩ = false := r4.free 0
   have B4 := next_trans b3 b4
   have hs4 := r3.lt
   have F := hid (show AnsUB w F v (.returned (.tuple #[.agg #[.slice O on oc], .bool v])) (w4.setCell ⟨w.heap.size + 1, 0, none⟩ (.slice O on oc)) from ⟨O, on, oc, rfl, (owns_put ho r4 hs4 0 _).wider (by have := b3.size; omega) (by simp), B4.setCell (p := ⟨w.heap.size + 1, 0, none⟩) (show w.heap.size ≤ w.heap.size + 1 by omega) _⟩)
   clear LU ho b4 r4 r3 b3 B4 hs4 y0
   go_wp2
   exact bodyPost_ret (v := .tuple #[.agg #[.slice O on oc], .bool v]) (by simp [results, Try.results30, go_sem, cR]) rfl F.out
set_option maxHeartbeats 2000000 in
theorem implUnifiedApart (A P Q : Option Addr) (n c pn pc m mc : Nat) (sg p t : List Int) (w : World) (v : Bool) (F : List (List Int)) (hU : IsA sg p t v F) (h : Seg w w.heap.size A n sg) (hp : Seg w w.heap.size P pn p) (ht : Seg w w.heap.size Q m t) (hn : n ≤ 1048576) (hpn : pn ≤ 1048576) (hm : m ≤ 1048576) (kp : Cap P pn pc) :
  Calls Try.prog 31 #[.agg #[.slice A n c], .slice P pn pc, .slice Q m mc] w (AnsUB w F v) := by
 obtain ⟨W, hW⟩ : ∃ W, W = (w.alloc (.cells #[.slice A n c] 29)).alloc (.cells #[.slice none 0 0] 39) := ⟨_, rfl⟩
 have M : Mr w W A n c sg P pn p Q m t := by rw [hW]; exact Mr.start h hp ht
 have HW := hid hW
 have c0 : W.cell? ⟨w.heap.size, 0, none⟩ = some (.slice A n c) := M.r0.cell 0
 have HU := hid hU
 have hbd := behindI_bd sg p
 have hb1 := hbd.1
 have hb2 := hbd.2
 clear hU hW h hp ht hbd
 go_enter Try.func31, Try.ntmps31
 go_wp2_with fail
 rw [← HW.out]
 have MD := M.next (w' := W.drew) ((Below.refl _ _).drew)
 have LB := hid (implBehindOf A P n c pn pc sg p W.drew MD.ss MD.sp hn hpn)
 have LS := hid (fun (w2 : World) (b : Below W.drew.heap.size W.drew w2) => implShifted A Q n c m mc sg t (behindI sg p) w2 (MD.next b).ss (MD.next b).st hn hm (by omega) (by omega))
 have HMD := hid MD
 clear MD M
 generalize hz : behindI sg p = z at *
 go_region_held3 (fun w' => w'.cell? ⟨w.heap.size, 0, none⟩ = some (.slice A n c))
  (first | assumption | exact c0 | exact keep_drewN c0 _)
  (first
   | (go_at_call 66; refine LB.out.mono ?_; rintro e w2 ⟨rfl, b2⟩; have M2 := HMD.out.next b2; have x0 : w2.cell? ⟨w.heap.size, 0, none⟩ = some (.slice A n c) := M2.r0.cell 0; have HM2 := hid M2; clear M2)
   | (go_at_call 65; refine (LS.out w2 b2).mono ?_; rintro e w3 ⟨X, xn, xc, rfl, ox, bb⟩; have sx := Own.seg ox; have M3 := HM2.out.next bb; have y0 : w3.cell? ⟨w.heap.size, 0, none⟩ = some (.slice A n c) := M3.r0.cell 0))
 have hxl := hid (shiftedL_len sg t z)
 cases hs : shiftedB sg t z with
 | false =>
  obtain ⟨hv, hF⟩ := isA_off HU.out (by rw [hz]; exact hs)
  subst hv
  subst hF
  have M := M3
  clear M3 HU hs
  have cR : w3.cell? ⟨w.heap.size + 1, 0, none⟩ = some (.slice none 0 0) := M.r1.cell 0
  have fR : w3.frozen? ⟨w.heap.size + 1, 0, none⟩ = false := M.r1.free 0
  have F1 := hid (show AnsUB w [] false (.returned (.tuple #[.agg #[.slice none 0 0], .bool false])) _ from ⟨none, 0, 0, rfl, Owns.nil _ _ _, M.b⟩)
  have F2 := hid (show AnsUB w [] false (.returned (.tuple #[.agg #[.slice none 0 0], .bool false])) (w3.setCell ⟨w.heap.size + 1, 0, none⟩ (.slice none 0 0)) from ⟨none, 0, 0, rfl, Owns.nil _ _ _, (M.b).setCell (p := ⟨w.heap.size + 1, 0, none⟩) (show w.heap.size ≤ w.heap.size + 1 by omega) _⟩)
  clear M LB LS HMD c0 y0 sx bb ox x0 HM2 b2
  go_wp2
  first
   | exact bodyPost_ret (v := .tuple #[.agg #[.slice none 0 0], .bool false]) (by simp [results, Try.results31, go_sem, cR]) rfl F1.out
   | exact bodyPost_ret (v := .tuple #[.agg #[.slice none 0 0], .bool false]) (by simp [results, Try.results31, go_sem, cR]) rfl F2.out
 | true =>
  have hU2 := isA_on HU.out (by rw [hz]; exact hs)
  rw [hz] at hU2
  have hx60 : xn ≤ 1048576 := by rw [← sx.1]; exact Nat.le_trans hxl.out (by omega)
  have LU := hid (implUnified A P X n c pn pc xn xc sg p (shiftedL sg t z) w3 v F hU2 M3.ss M3.sp sx hn hpn hx60 kp (own_cap ox))
  have r3 := M3.r1
  have b3 := M3.b
  clear M3 HU hU2 hs LB LS HMD c0 sx bb ox x0 HM2 b2
  go_wp2_with fail
  refine LU.out.mono ?_
  rintro e w4 ⟨O, on, oc, rfl, ho, b4⟩
  have r4 := r3.next b4
  have cR : w4.cell? ⟨w.heap.size + 1, 0, none⟩ = some (.slice none 0 0) := r4.cell 0
  have fR : w4.frozen? ⟨w.heap.size + 1, 0, none⟩ = false := r4.free 0
  have B4 := next_trans b3 b4
  have hs4 := r3.lt
  have F := hid (show AnsUB w F v (.returned (.tuple #[.agg #[.slice O on oc], .bool v])) (w4.setCell ⟨w.heap.size + 1, 0, none⟩ (.slice O on oc)) from ⟨O, on, oc, rfl, (owns_put ho r4 hs4 0 _).wider (by have := b3.size; omega) (by simp), B4.setCell (p := ⟨w.heap.size + 1, 0, none⟩) (show w.heap.size ≤ w.heap.size + 1 by omega) _⟩)
  clear LU ho b4 r4 r3 b3 B4 hs4 y0
  go_wp2
  exact bodyPost_ret (v := .tuple #[.agg #[.slice O on oc], .bool v]) (by simp [results, Try.results31, go_sem, cR]) rfl F.out
end apart5
end
section
namespace genMath
open sig term termOk termFacts endAt sub termMath fillMath posMath renMath matchMath unifMath
abbrev Tb := List (List Int × List Int)
def Apt (s t : List Int) : Prop := ¬ (0 ≤ s.getD 0 0 ∧ s.getD 0 0 = t.getD 0 0)
inductive Gs (sg : List Int) : Tb → Nat → List Int → List Int → List Int → Tb → Prop
 | nil (T : Tb) : Gs sg T 0 [] [] [] T
 | sym {T T' : Tb} {n : Nat} {u w g : List Int} {x : Int} : 0 ≤ x → ¬ ar sg x < 0 → Gs sg T (n + (ar sg x).toNat) u w g T' → Gs sg T (n + 1) (x :: u) (x :: w) (x :: g) T'
 | old {T T' : Tb} {n i : Nat} {s t u w g : List Int} : Trm sg s → Trm sg t → Apt s t → T[i]? = some (s, t) → Gs sg T n u w g T' → Gs sg T (n + 1) (s ++ u) (t ++ w) ((-1 - (i : Int)) :: g) T'
 | new {T T' : Tb} {n : Nat} {s t u w g : List Int} : Trm sg s → Trm sg t → Apt s t → (s, t) ∉ T → Gs sg (T ++ [(s, t)]) n u w g T' → Gs sg T (n + 1) (s ++ u) (t ++ w) ((-1 - (T.length : Int)) :: g) T'
section
variable {sg : List Int} {T T' : Tb} {n : Nat} {u w g : List Int}
end
theorem gs_comp {sg : List Int} {T T1 T2 : Tb} {p q : Nat} {u w g U W G : List Int} (h : Gs sg T p u w g T1) : Gs sg T1 q U W G T2 → Gs sg T (p + q) (u ++ U) (w ++ W) (g ++ G) T2 := by
 induction h with
 | nil T => intro k; simpa using k
 | @sym T T' n u w g x h0 ha _ ih =>
  intro k
  have := ih k
  rw [show n + 1 + q = (n + q) + 1 by omega]
  exact .sym h0 ha (by rw [show n + q + (ar sg x).toNat = n + (ar sg x).toNat + q by omega]; exact this)
 | @old T T' n i s t u w g h1 h2 h3 h4 _ ih =>
  intro k
  rw [show n + 1 + q = (n + q) + 1 by omega, List.append_assoc, List.append_assoc]
  exact .old h1 h2 h3 h4 (ih k)
 | @new T T' n s t u w g h1 h2 h3 h4 _ ih =>
  intro k
  rw [show n + 1 + q = (n + q) + 1 by omega, List.append_assoc, List.append_assoc]
  exact .new h1 h2 h3 h4 (ih k)
def f1 (T : Tb) (i : Nat) : List Int := (T.getD i ([], [])).1
def f2 (T : Tb) (i : Nat) : List Int := (T.getD i ([], [])).2
end genMath
end
section
namespace sameSubst
open Go.RowKit base ints sig same marks sym segs segsHelp kinds varsOf fillMath Go.Proofs.Ytobedfmagjgdcaa.look substOk gives
set_option maxRecDepth 100000
def sameG (a b : List (List Int)) : Bool := (List.range 24).all fun i => decide (givesL a i = givesL b i)
def sameB (sg : List Int) (a b : List (List Int)) : Bool := substOkB sg a && (substOkB sg b && sameG a b)
theorem sameG_yes {a b : List (List Int)} (h : ∀ i, i < 24 → givesL a i = givesL b i) : sameG a b = true := by
 unfold sameG
 rw [List.all_eq_true]
 intro i hi
 exact decide_eq_true (h i (List.mem_range.1 hi))
theorem same_ab {sg : List Int} {a b : List (List Int)} (h : substOkB sg a = true) (h' : substOkB sg b = true) : sameB sg a b = sameG a b := by unfold sameB; rw [h, h', Bool.true_and, Bool.true_and]
end sameSubst
end
section
namespace plainFacts
open Go.RowKit base ints sig term termOk termFacts fillMath plainMath plainOf substOk gives sameSubst compMath filled
theorem gives_plain {L : Nat → List Int} {m i : Nat} (hpos : ∀ i, 1 ≤ (L i).length) (hout : ∀ i, m ≤ i → L i = vt i) : givesL (plainL L m) i = L i := by
 have e := plain_get L m i
 by_cases h : i < m
 ·rw [rows_get h] at e
  unfold bare at e
  by_cases h2 : L i = vt i
  ·rw [if_pos h2] at e
   rw [gives_var (by rw [e]; rfl), h2]
  ·rw [if_neg h2] at e
   rw [gives_term (by rw [e]; have := hpos i; omega), e]
 ·have e0 : (rowsL L m).getD i [] = [] := by simp [List.getD, rows_len, h]
  rw [e0] at e
  rw [gives_var (by rw [e]; rfl), hout i (by omega)]
theorem plain_valid {sg : List Int} {L : Nat → List Int} {m : Nat} (hs : sigOkB sg = true) (hm : m ≤ 24) (hok : ∀ i, i < m → termOkB sg (L i) = true) : substOkB sg (plainL L m) = true := by
 have hl := plain_len L m
 refine subst_good hs (by omega) (fun j hj => ?_)
 rw [plain_get, rows_get (by omega)]
 unfold bare goodB
 split
 ·simp
 ·rw [hok j (by omega)]
  simp
theorem comp_gives {sg : List Int} {ss us : List (List Int)} (h : composedB sg ss us = true) (i : Nat) : givesL (composedI sg ss us) i = if i < 24 then compL us ss i else vt i := by
 rw [composed_yes h]
 have hs : substOkB sg ss = true := by unfold composedB at h; simp at h; exact h.1
 have hu : substOkB sg us = true := by unfold composedB at h; simp at h; exact h.2.1
 have e : compL us ss = fun i => compL us ss i := rfl
 have h1 := gives_plain (L := compL us ss) (m := 24) (i := i) (fun j => comp_pos us ss j) (fun j hj => comp_out (by have := (substOk_parts hs).2.1; omega) (by have := (substOk_parts hu).2.1; omega))
 rw [h1]
 split
 ·rfl
 ·rename_i h2
  exact comp_out (by have := (substOk_parts hs).2.1; omega) (by have := (substOk_parts hu).2.1; omega)
theorem comp_ok {sg : List Int} {ss us : List (List Int)} (h : composedB sg ss us = true) : substOkB sg (composedI sg ss us) = true := by
 have hs : substOkB sg ss = true := by unfold composedB at h; simp at h; exact h.1
 have hu : substOkB sg us = true := by unfold composedB at h; simp at h; exact h.2.1
 have hc : compOk us ss = true := by unfold composedB at h; simp at h; exact h.2.2
 rw [composed_yes h]
 refine plain_valid (substOk_parts hs).1 (Nat.le_refl _) (fun i hi => ?_)
 unfold compL
 refine fill_term (gives_ok hs hi) (fun x hx h0 => gives_ok hu ?_) (compOk_iff.1 hc i hi)
 have := term_mem (gives_ok hs hi) hx
 omega
theorem comp_fill {sg : List Int} {ss us : List (List Int)} {t : List Int} (h : composedB sg ss us = true) (ht : termOkB sg t = true) : fillL (givesL (composedI sg ss us)) t = fillL (givesL us) (fillL (givesL ss) t) := by
 rw [fill_fill]
 refine fill_ext (fun x hx h0 => ?_)
 rw [comp_gives h]
 have := term_mem ht hx
 rw [if_pos (by omega)]
 rfl
end plainFacts
end
section
namespace renPure
open sig term termOk termFacts varsMath fillMath renMath
theorem pigeon : ∀ (n : Nat) (l : List Nat), l.Nodup → (∀ x ∈ l, x < n) → l.length ≤ n
 | 0, l, _, h => by
  cases l with
  | nil => simp
  | cons a r => exact absurd (h a (List.mem_cons_self ..)) (Nat.not_lt_zero _)
 | n + 1, l, hd, h => by
  have h1 := pigeon n (l.erase n) (hd.erase n) (fun x hx => by
   have h2 := (hd.mem_erase_iff).1 hx
   have := h x h2.2
   omega)
  have h3 : l.length ≤ (l.erase n).length + 1 := by
   rw [List.length_erase]
   split <;> omega
  omega
theorem map_nodup {α β : Type} {f : α → β} : ∀ {l : List α}, l.Nodup → (∀ a ∈ l, ∀ b ∈ l, f a = f b → a = b) → (l.map f).Nodup
 | [], _, _ => List.nodup_nil
 | a :: r, h, hf => by
  have h1 := List.nodup_cons.1 h
  rw [List.map_cons, List.nodup_cons]
  refine ⟨fun hm => ?_, map_nodup h1.2 (fun x hx y hy => hf x (List.mem_cons_of_mem _ hx) y (List.mem_cons_of_mem _ hy))⟩
  obtain ⟨b, hb, e⟩ := List.mem_map.1 hm
  have := hf b (List.mem_cons_of_mem _ hb) a (List.mem_cons_self ..) e
  subst this
  exact h1.1 hb
theorem order_24 {sg t : List Int} (h : termOkB sg t = true) : (orderL t).length ≤ 24 := by
 have h1 := pigeon 24 ((orderL t).map fun x => (-1 - x).toNat) (map_nodup (order_nodup t) (fun a ha b hb e => by
  have := (order_mem.1 ha).2
  have := (order_mem.1 hb).2
  omega)) (fun x hx => by
   obtain ⟨y, hy, rfl⟩ := List.mem_map.1 hx
   have h2 := order_mem.1 hy
   have h3 := term_mem h h2.1
   omega)
 simpa using h1
theorem ren_fill (t : List Int) (o : List Int) : fillL (fun i => vt (idx o (-1 - (i : Int)))) t = t.map (ren o) := by
 induction t with
 | nil => rfl
 | cons x r ih =>
  rw [fill_cons, ih, List.map_cons]
  unfold rep ren
  by_cases h : 0 ≤ x
  ·rw [if_pos h, if_neg (by omega)]; rfl
  ·rw [if_neg h, if_pos (by omega)]
   show vt (idx o (-1 - (((-1 - x).toNat : Nat) : Int))) ++ _ = _
   rw [show (-1 - (((-1 - x).toNat : Nat) : Int) : Int) = x by omega]
   rfl
theorem ren_ok {sg t : List Int} (h : termOkB sg t = true) : termOkB sg (renL t) = true := by
 have e : renL t = fillL (fun i => vt (idx (orderL t) (-1 - (i : Int)))) t := (ren_fill t (orderL t)).symm
 rw [e]
 refine fill_term h (fun x hx h0 => ?_) (by rw [← e, ren_len]; exact (term_len h).2)
 show termOkB sg (vt (idx (orderL t) (-1 - (((-1 - x).toNat : Nat) : Int)))) = true
 rw [show (-1 - (((-1 - x).toNat : Nat) : Int) : Int) = x by omega]
 refine var_term (term_parts h).1 ?_
 have h1 := idx_lt (order_mem.2 ⟨hx, h0⟩)
 have h2 := order_24 h
 omega
end renPure
end
section
namespace unifLaw
open sig term termOk termFacts endAt sub termMath fillMath posMath renMath renPure segsHelp substOk gives plainMath plainOf plainFacts filled sameSubst compMath matchMath unifMath genMath
theorem sub_gives {sg : List Int} {L : Nat → List Int} (h : Sub sg L) (i : Nat) : givesL (plainL L 24) i = L i := gives_plain h.pos h.out
theorem sub_valid {sg : List Int} {L : Nat → List Int} (hs : sigOkB sg = true) (h : Sub sg L) (he : ∀ i, (L i).length ≤ 60) : substOkB sg (plainL L 24) = true :=
 plain_valid hs (Nat.le_refl _) (fun i hi => term_mk hs (he i) (h.trm i hi))
theorem gives_sub {sg : List Int} {us : List (List Int)} (h : substOkB sg us = true) : Sub sg (givesL us) :=
 ⟨fun _ hi => (term_parts (gives_ok h hi)).2.2, fun i hi => gives_out (by have := (substOk_parts h).2.1; omega)⟩
theorem fill_plain {sg : List Int} {L : Nat → List Int} (h : Sub sg L) (t : List Int) : fillL (givesL (plainL L 24)) t = fillL L t := fill_ext (fun _ _ _ => sub_gives h _)
theorem filled_plain {sg : List Int} {L : Nat → List Int} {t : List Int} (h : Sub sg L) (hv : substOkB sg (plainL L 24) = true) (ht : termOkB sg t = true) (hl : (fillL L t).length ≤ 60) : filledB sg (plainL L 24) t = true ∧ filledL sg (plainL L 24) t = fillL L t := by
 have hb : filledB sg (plainL L 24) t = true := by
  rw [filled_b hv ht]
  unfold fitsB
  rw [fill_plain h]
  exact decide_eq_true hl
 exact ⟨hb, by unfold filledL; rw [if_pos hb]; exact fill_plain h t⟩
theorem filled_parts {sg : List Int} {us : List (List Int)} {t : List Int} (h : filledB sg us t = true) : substOkB sg us = true ∧ termOkB sg t = true ∧ filledL sg us t = fillL (givesL us) t ∧ (fillL (givesL us) t).length ≤ 60 := by
 have e : filledL sg us t = fillL (givesL us) t := by unfold filledL; rw [if_pos h]
 have hl := filled_len sg us t
 rw [e] at hl
 unfold filledB at h
 rw [Bool.and_eq_true, Bool.and_eq_true] at h
 exact ⟨h.1, h.2.1, e, hl⟩
theorem isU_each {sg a b : List Int} {v : Bool} {F : List (List Int)} (h : IsU sg a b v F) : tot F ≤ 1048576 := by
 rcases h with ⟨_, _, _, L, m, s, rfl⟩ | ⟨_, rfl, _⟩
 ·have h3 := tot_le (plain_each (L := L) (m := 24) s.each)
  have h4 := plain_len L 24
  have h5 : (plainL L 24).length * 60 ≤ 24 * 60 := Nat.mul_le_mul_right _ h4
  omega
 ·simp [tot, sumL]
theorem isU_facts {sg a b : List Int} {F : List (List Int)} (h : IsU sg a b true F) : substOkB sg F = true ∧ sameB sg F F = true ∧ filledB sg F a = true ∧ filledB sg F b = true ∧ filledL sg F a = filledL sg F b ∧ (composedB sg F F = true → sameB sg (composedI sg F F) F = true) ∧
  ∀ us, filledB sg us a = true → filledB sg us b = true → filledL sg us a = filledL sg us b → composedB sg F us = true → filledB sg (composedI sg F us) a = true ∧ filledL sg (composedI sg F us) a = filledL sg us a := by
 rcases h with ⟨_, h1, h2, L, m, s, rfl⟩ | ⟨e, _⟩
 ·have hs := (term_parts h1).1
  have hv := sub_valid hs m.sub s.each
  obtain ⟨fa, la⟩ := filled_plain m.sub hv h1 s.all
  obtain ⟨fb, lb⟩ := filled_plain m.sub hv h2 (by rw [← m.eq]; exact s.all)
  refine ⟨hv, by unfold sameB; rw [hv, sameG_yes (fun _ _ => rfl)]; rfl, fa, fb, by rw [la, lb, m.eq], fun hc => ?_, fun us u1 u2 u3 hc => ?_⟩
  ·rw [same_ab (comp_ok hc) hv]
   refine sameG_yes (fun i hi => ?_)
   rw [comp_gives hc, if_pos hi]
   unfold compL
   rw [fill_plain m.sub, sub_gives m.sub]
   exact fill_same (fun x hx h0 => m.ide i x hx h0)
  ·obtain ⟨a1, _, a3, a4⟩ := filled_parts u1
   obtain ⟨_, _, b3, _⟩ := filled_parts u2
   have hU : Uni sg a b (givesL us) := ⟨gives_sub a1, by rw [← a3, ← b3, u3]⟩
   have e : fillL (givesL (composedI sg (plainL L 24) us)) a = fillL (givesL us) a := by
    rw [comp_fill hc h1, fill_plain m.sub]
    exact part_uni m.toPart hU a
   have hb : filledB sg (composedI sg (plainL L 24) us) a = true := by
    rw [filled_b (comp_ok hc) h1]
    unfold fitsB
    rw [e]
    exact decide_eq_true a4
   exact ⟨hb, by rw [a3]; unfold filledL; rw [if_pos hb]; exact e⟩
 ·cases e
end unifLaw
end
section
open Go.Lib (hid)
namespace renImpl
open Go.RowKit base ints sig cursor term termOk marks app appAt sym segs termFacts varsMath fillMath Go.Proofs.Ytobedfmagjgdcaa.look renMath rename
set_option maxRecDepth 100000
def vn (n : Int) : Int := -1 - n
theorem vn_inj : ∀ a b : Int, vn a = vn b → a = b := fun a b h => by unfold vn at h; omega
structure Side (p : Nat) (r : Option Nat) (a b : World) : Prop where
 os : b.os = a.os
 tape : b.tape = a.tape
 output : b.output = a.output
 size : a.heap.size ≤ b.heap.size
 block : ∀ k, k < a.heap.size → k ≠ p → some k ≠ r → b.heap[k]? = a.heap[k]?
section
variable {p : Nat} {r : Option Nat} {a b c : World}
theorem Side.of_below (h : Below a.heap.size a b) : Side p r a b := ⟨h.os, h.tape, h.output, h.size, fun k hk _ _ => h.block k hk⟩
theorem Side.of_grown (h : a.grownBy b r) : Side p r a b := ⟨h.os, h.tape, h.output, h.size, fun k hk _ hr => h.block k hk hr⟩
theorem Side.of_var (h : a.grownBy b (some p)) : Side p r a b := ⟨h.os, h.tape, h.output, h.size, fun k hk hp _ => h.block k hk (fun e => by injection e with e; exact hp e)⟩
theorem Side.trans (h : Side p r a b) (k : Side p r b c) : Side p r a c :=
 ⟨k.os.trans h.os, k.tape.trans h.tape, k.output.trans h.output, Nat.le_trans h.size k.size, fun i hi hp hr => (k.block i (Nat.lt_of_lt_of_le hi h.size) hp hr).trans (h.block i hi hp hr)⟩
theorem Side.below (h : Side p r a b) (hr : ∀ k, r = some k → p ≤ k) (hp : p ≤ a.heap.size) : Below p a b :=
 ⟨h.os, h.tape, h.output, h.size, fun k hk => h.block k (by omega) (by omega) (fun e => by have := hr k e.symm; omega)⟩
theorem Own.side {base n cc : Nat} {O : Option Addr} {xs : List Int} {cs : Array Value} (h : Own a base (.slice O n cc) xs) (hs : Side p r a b) (hv : Row a p 22 cs) (hne : blk O = none ∨ blk O ≠ r) : Own b base (.slice O n cc) xs := by
 obtain ⟨q1, q2⟩ := h
 refine ⟨q1, ?_⟩
 rcases q2 with q2 | ⟨g, cap, cur, e, hg, hh, rest⟩
 ·exact .inl q2
 ·refine .inr ⟨g, cap, cur, e, hg, ?_, rest⟩
  have hlt : g < a.heap.size := (Array.getElem?_eq_some_iff.1 hh).1
  have hb : blk O = some g := by rw [← blk_own O n cc, e]; rfl
  have hgp : g ≠ p := Row.ne_ (t := 2) (t' := 22) hh hv (by decide)
  exact (hs.block g hlt hgp (by rw [hb] at hne; rcases hne with h | h; cases h; exact h)).trans hh
end
theorem own_ne {w : World} {base B n c : Nat} {S : Option Addr} {xs : List Int} {cs : Array Value} (h : Own w base (.slice S n c) xs) (hr : Row w B 22 cs) : blk S ≠ some B := by
 have hl := Own.len h
 rcases own_form (n := n) (vs := xs.map (Value.int .i64)) (by rw [hl]; rw [hl] at h; exact h) with ⟨rfl, _⟩ | ⟨g, cur, rfl, _, hrow, _⟩
 ·intro e; cases e
 ·intro e
  have e2 : g = B := Option.some.inj e
  exact Row.ne_ hr hrow (by decide) e2.symm
theorem one_seg (w : World) (y : Int) : Seg (w.alloc (.cells #[.int .i64 y] 2)) (w.alloc (.cells #[.int .i64 y] 2)).heap.size (some ⟨w.heap.size, 0, none⟩) 1 [y] :=
 (Row.new w 2 #[.int .i64 y]).seg rfl (by simp) (fun j hj => by
  have e : j = 0 := by omega
  subst e
  rfl)
def AnsRen (W : World) (B : Nat) (S : Option Addr) (o : List Int) (x : Int) (e : Ending) (w' : World) : Prop :=
 ∃ A c S' sn' sc', e = .returned (.slice A 1 c) ∧ Seg w' w'.heap.size A 1 [-1 - (idx (ext o x) x : Int)] ∧ (A = none → c = 0) ∧ Row w' B 22 #[.slice S' sn' sc'] ∧
  Own w' (B + 1) (.slice S' sn' sc') ((ext o x).map vn) ∧ (blk S' = blk S ∨ ∃ k, blk S' = some k ∧ W.heap.size ≤ k) ∧ Side B (blk S) W w'
set_option maxHeartbeats 4000000 in
theorem ren1 (B : Nat) (S : Option Addr) (sn sc : Nat) (o : List Int) (x : Int) (W : World) (hr : Row W B 22 #[.slice S sn sc]) (ho : Own W (B + 1) (.slice S sn sc) (o.map vn)) (hx0 : -24 ≤ x) (hx1 : x < 0) (hsn : sn ≤ 1000) :
  Calls Try.prog 122 #[.int .i64 (-1 - x), .pointer (some ⟨B, 0, none⟩)] W (AnsRen W B S o x) := by
 have hl := Own.len ho
 simp only [List.length_map] at hl
 have hlt := hr.lt
 have cB : W.cell? ⟨B, 0, none⟩ = some (.slice S sn sc) := hr.cell 0
 have fB : W.frozen? ⟨B, 0, none⟩ = false := hr.free 0
 have LI := hid (indexOf S sn sc (o.map vn) (-1 - x) W (Own.seg ho) (by omega))
 by_cases hin : x ∈ o
 ·have hi : idx o x < o.length := idx_lt hin
  obtain ⟨q, hq⟩ : ∃ q, idx o x = q := ⟨_, rfl⟩
  have EI := hid (show indexI (o.map vn) (-1 - x) = (q : Int) by
   unfold indexI
   rw [show (-1 - x : Int) = vn x from rfl, if_pos ((mem_map_inj vn_inj).2 hin), idx_map vn_inj, hq])
  have EX := hid (show ext o x = o by unfold ext; rw [if_pos hin])
  have LV := hid (varTerm (q : Int) W (by omega) (by omega))
  have HQ := hid hq
  have hq60 : q ≤ 1000 := by omega
  have HR := hid hr
  have HO := hid ho
  clear hin hi hq hl hr ho
  go_enter Try.func122, Try.ntmps122
  go_wp2_with fail
  refine LI.out.mono ?_
  rintro e w' ⟨rfl, he⟩
  rw [EI.out] at he
  subst he
  clear LI
  go_wp2_with fail
  refine LV.out.mono ?_
  rintro e w1 ⟨A, n, c, rfl, oq, bb⟩
  have hn1 := Own.len oq
  simp only [List.length_cons, List.length_nil] at hn1
  subst hn1
  have F : AnsRen W B S o x (.returned (.slice A 1 c)) w1 :=
   ⟨A, c, S, sn, sc, rfl, by rw [EX.out, HQ.out]; exact Own.seg oq, (own_cap oq).2.2, HR.out.next bb, by rw [EX.out]; exact HO.out.next bb, .inl rfl, Side.of_below bb⟩
  have HF := hid F
  clear F oq bb LV cB fB
  go_wp2
  go_ret
  exact HF.out
 ·have EI := hid (show indexI (o.map vn) (-1 - x) = -1 by
   unfold indexI
   rw [show (-1 - x : Int) = vn x from rfl, if_neg (fun h => hin ((mem_map_inj vn_inj).1 h))])
  have EX := hid (show (ext o x).map vn = o.map vn ++ [-1 - x] by unfold ext; rw [if_neg hin, List.map_append]; rfl)
  have EQ := hid (show idx (ext o x) x = sn by unfold ext; rw [if_neg hin, idx_app_new hin, hl])
  have hne := own_ne ho hr
  have hr1 := hr.alloc (.cells #[.int .i64 (-1 - x)] 2)
  have ho1 := Own.alloc ho (.cells #[.int .i64 (-1 - x)] 2)
  have HNE := hid hne
  have HN := hid hl
  clear hin hl hr ho hne
  go_enter Try.func122, Try.ntmps122
  go_wp2_with fail
  refine LI.out.mono ?_
  rintro e w' ⟨rfl, he⟩
  rw [EI.out] at he
  subst he
  clear LI
  go_wp2_with (first
   | (at_builtin; refine appAllAt rfl _ _ rfl (B + 1) S sn sc (o.map vn) rfl ho1 (some ⟨W.heap.size, 0, none⟩) 1 1 (W.heap.size + 1) [-1 - x] rfl (by simpa using one_seg W (-1 - x)) (by omega) (by omega) (by omega) (by simp; omega) ?_; intro S' sc' w2 ho2 hg hat; have r2 := Row.away hr1 hg HNE.out; have cB2 : w2.cell? ⟨B, 0, none⟩ = some (.slice S sn sc) := r2.cell 0; have fB2 : w2.frozen? ⟨B, 0, none⟩ = false := r2.free 0)
   | (go_at_call 59; refine (varTerm (sn : Int) _ (by omega) (by omega)).mono ?_; rintro e w3 ⟨A, n, c, rfl, oq, bb⟩))
  have hn1 := Own.len oq
  simp only [List.length_cons, List.length_nil] at hn1
  subst hn1
  have r3 := r2.put 0 (.slice S' (sn + 1) sc')
  have hg3 : w2.grownBy (w2.setCell ⟨B, 0, none⟩ (.slice S' (sn + 1) sc')) (some B) := grown_put (World.grownBy.refl _ _) _ _
  have o3 := Own.far ho2 hg3 (fun k hk => by injection hk; omega)
  have sd : Side B (blk S) W w3 := (((Side.of_below ((Below.refl _ _).alloc (Nat.le_refl _) _)).trans (Side.of_grown hg)).trans (Side.of_var hg3)).trans (Side.of_below bb)
  have F : AnsRen W B S o x (.returned (.slice A 1 c)) w3 := by
   refine ⟨A, c, S', sn + 1, sc', rfl, by rw [EQ.out]; exact Own.seg oq, (own_cap oq).2.2, r3.next bb, by rw [EX.out]; exact o3.next bb, ?_, sd⟩
   rcases hat with h | h
   ·exact .inl h
   ·exact .inr ⟨_, h, by simp⟩
  have HF := hid F
  clear F oq bb r3 hg3 o3 sd hat hg ho2 r2 cB2 fB2 cB fB hr1 ho1
  go_wp2
  go_ret
  exact HF.out
theorem ne_flip {a b : Option Nat} (h : a = none ∨ a ≠ b) : b = none ∨ b ≠ a := by
 cases b with
 | none => exact .inl rfl
 | some k =>
  right
  rintro rfl
  rcases h with h | h
  ·cases h
  ·exact h rfl
theorem blk_lt {w : World} {base : Nat} {A : Option Addr} {n c : Nat} {xs : List Int} (h : Own w base (.slice A n c) xs) : ∀ k, blk A = some k → base ≤ k ∧ k < w.heap.size := fun k hk => World.ownsRow.lt h k (by rw [blk_own]; exact hk)
theorem ne_new {w : World} {base : Nat} {S : Option Addr} {n c : Nat} {xs : List Int} {a : Option Nat} (h : Own w base (.slice S n c) xs) (q : Nat) (hq : w.heap.size ≤ q) (ha : a = some q) : a = none ∨ a ≠ blk S := by
 right
 rintro rfl
 have := (blk_lt h q ha).2
 omega
def ordF (o t : List Int) : List Int := t.foldl extV o
theorem ordF_take {o t : List Int} {k : Nat} {x : Int} (hk : k < t.length) (hx : t.getD k 0 = x) : ordF o (t.take (k + 1)) = extV (ordF o (t.take k)) x := by
 unfold ordF
 rw [take_snoc hk hx, List.foldl_append]
 rfl
theorem ordF_len (o t : List Int) : (ordF o t).length ≤ o.length + t.length := fold_ext_len t o
def renF (o t : List Int) : List Int := t.map (ren (ordF o t))
theorem renF_take {o t : List Int} {k : Nat} {x : Int} (hk : k < t.length) (hx : t.getD k 0 = x) : renF o (t.take (k + 1)) = renF o (t.take k) ++ [ren (extV (ordF o (t.take k)) x) x] := by
 unfold renF
 rw [ordF_take hk hx, take_snoc hk hx, List.map_append]
 congr 1
 refine List.map_congr_left fun n hn => ren_ext fun h0 => ?_
 exact fold_ext_mem.2 (.inl ⟨hn, h0⟩)
theorem Side.on {B : Nat} {r r' : Option Nat} {a b c : World} (h : Side B r a b) (hr : r' = r ∨ ∃ k, r' = some k ∧ a.heap.size ≤ k) (k : Side B r' b c) : Side B r a c :=
 ⟨k.os.trans h.os, k.tape.trans h.tape, k.output.trans h.output, Nat.le_trans h.size k.size, fun i hi hp hne => (k.block i (Nat.lt_of_lt_of_le hi h.size) hp (fun e => by
  rcases hr with e2 | ⟨q, e2, hq⟩
  ·exact hne (by rw [e, e2])
  ·rw [e2] at e; injection e with e; omega)).trans (h.block i hi hp hne)⟩
theorem Side.grow {B : Nat} {r q : Option Nat} {a b c : World} (h : Side B r a b) (hg : b.grownBy c q) (hq : ∀ k, q = some k → a.heap.size ≤ k) : Side B r a c :=
 ⟨hg.os.trans h.os, hg.tape.trans h.tape, hg.output.trans h.output, Nat.le_trans h.size hg.size, fun i hi hp hne => (hg.block i (Nat.lt_of_lt_of_le hi h.size) (fun e => by have := hq i e.symm; omega)).trans (h.block i hi hp hne)⟩
theorem Side.allocs {B : Nat} {r : Option Nat} {a b : World} (h : Side B r a b) (o : Obj) : Side B r a (b.alloc o) :=
 ⟨h.os, h.tape, h.output, by have := h.size; simp; omega, fun i hi hp hne => (Below.heap_alloc b o i (Nat.lt_of_lt_of_le hi h.size)).trans (h.block i hi hp hne)⟩
def HeadRG (w : World) (B m : Nat) (o t : List Int) (S0 : Option Addr) (out i : Value) (wr : World) : Prop :=
 ∃ (k : Nat) (O : Option Addr) (on oc : Nat) (S : Option Addr) (sn sc : Nat), k ≤ m ∧ i = .int .i64 k ∧ out = .slice O on oc ∧ Own wr w.heap.size (.slice O on oc) (renF o (t.take k)) ∧ Row wr B 22 #[.slice S sn sc] ∧
  Own wr (B + 1) (.slice S sn sc) ((ordF o (t.take k)).map vn) ∧ (blk S = blk S0 ∨ ∃ q, blk S = some q ∧ w.heap.size ≤ q) ∧ (blk O = none ∨ blk O ≠ blk S) ∧ Side B (blk S0) w wr
def AnsRG (w : World) (B : Nat) (o t : List Int) (S0 : Option Addr) (e : Ending) (w' : World) : Prop :=
 ∃ O on oc S sn sc, e = .returned (.slice O on oc) ∧ Own w' w.heap.size (.slice O on oc) (renF o t) ∧ Row w' B 22 #[.slice S sn sc] ∧ Own w' (B + 1) (.slice S sn sc) ((ordF o t).map vn) ∧ (blk O = none ∨ blk O ≠ blk S) ∧ Side B (blk S0) w w'
set_option maxHeartbeats 4000000 in
theorem fillRen (B : Nat) (A : Option Addr) (m c : Nat) (o t : List Int) (S0 : Option Addr) (n0 c0 : Nat) (w : World) (hr : Row w B 22 #[.slice S0 n0 c0]) (hS : Own w (B + 1) (.slice S0 n0 c0) (o.map vn)) (h : Seg w B A m t) (hm : m ≤ 60) (ho : o.length ≤ 60) (hv : ∀ x ∈ t, -24 ≤ x) :
  Calls Try.prog 79 #[.func (.func 122) #[] #[.pointer (some ⟨B, 0, none⟩)], .slice A m c] w (AnsRG w B o t S0) := by
 have HL := hid h.1
 have HV := hid hv
 have hBw := hr.lt
 have HG := hid (fun k hk => (blk_lt hS k hk).1)
 have S1 : HeadRG w B m o t S0 (.slice none 0 0) (.int .i64 0) w := ⟨0, none, 0, 0, S0, n0, c0, Nat.zero_le _, rfl, rfl, by simpa [renF] using Own.nil w w.heap.size, hr, by simpa [ordF] using hS, .inl rfl, .inl rfl, Side.of_below (Below.refl _ _)⟩
 have HS0 := hid S1
 clear S1 hv hr hS
 go_enter Try.func79, Try.ntmps79
 go_wp2
 go_loopw [5, 10] (fun out i wr => HeadRG w B m o t S0 out i wr) (fun _ i _ => m - (intOf i).toNat)
 case atStart => exact HS0.out
 case round =>
  obtain ⟨k, O, on, oc, S, sn, sc, hk, rfl, rfl, hO, hr, hs, hat0, hne, hsd⟩ := hrel
  clear HS0
  have hon : on ≤ 60 := by rw [Own.len hO]; unfold renF; simp; omega
  have hsn : sn ≤ 1000 := by have h1 := Own.len hs; have h2 := ordF_len o (t.take k); simp at h1 h2; omega
  have hBlt := hr.lt
  have hwz := hsd.size
  by_cases hlt : k < m
  ·obtain ⟨b, off, x, rfl, hbb, hx, ex⟩ := h.spot hlt
   have hx1 : wr.cell? ⟨b, off + k, none⟩ = some (.int .i64 x) := by
    have hneS : some b ≠ blk S0 := fun e => by have := HG.out b e.symm; omega
    exact (World.cell?_of_block (hsd.block b (by omega) (by omega) hneS)).trans hx
   have hmem := mem_of_get (by rw [HL.out]; exact hlt) ex.out
   have hx24 : -24 ≤ x := HV.out x hmem
   have E := hid (renF_take (o := o) (t := t) (k := k) (by rw [HL.out]; exact hlt) ex.out)
   have EO := hid (ordF_take (o := o) (t := t) (k := k) (by rw [HL.out]; exact hlt) ex.out)
   clear hmem hx h ex
   by_cases hpos : 0 ≤ x
   ·have R := hid (show ren (extV (ordF o (t.take k)) x) x = x by unfold ren; rw [if_neg (by omega)])
    have R2 := hid (show extV (ordF o (t.take k)) x = ordF o (t.take k) by unfold extV; rw [if_neg (by omega)])
    have ho1 := Own.alloc hO (.cells #[.int .i64 x] 2)
    have hs1 := Own.alloc hs (.cells #[.int .i64 x] 2)
    have hr1 := hr.alloc (.cells #[.int .i64 x] 2)
    go_wp2_with (at_builtin; refine appAllAt rfl _ _ rfl w.heap.size O on oc (renF o (t.take k)) rfl ho1 (some ⟨wr.heap.size, 0, none⟩) 1 1 (wr.heap.size + 1) [x] rfl (by simpa using one_seg wr x) (by omega) (by omega) (by omega) (by simp; omega) ?_; intro O' oc' w2 ho2 hg hat)
    have S1 : HeadRG w B m o t S0 (.slice O' (on + 1) oc') (.int .i64 ((k : Int) + 1)) w2 := by
     refine ⟨k + 1, O', on + 1, oc', S, sn, sc, hlt, by simp, rfl, by rw [E.out, R.out]; exact ho2, Row.away hr1 hg (own_ne ho1 hr1), by rw [EO.out, R2.out]; exact Own.kept hs1 hg (ne_flip hne), hat0, ?_, ?_⟩
     ·rcases hat with h | h
      ·rw [h]; exact hne
      ·exact ne_new hs1 _ (Nat.le_refl _) h
     ·exact (hsd.allocs _).grow hg (fun q hq => (blk_lt hO q hq).1)
    have S := hid S1
    clear S1 ho2 hg hat ho1 hs1 hr1 hO hs hr hne hsd R R2 E EO hat0
    go_wp2
    go_roundw
    case rel => exact S.out
    case measure => simp [intOf]; omega
   ·have hneg : x < 0 := by omega
    have R := hid (show ren (extV (ordF o (t.take k)) x) x = -1 - (idx (ext (ordF o (t.take k)) x) x : Int) by unfold ren extV; rw [if_pos hneg, if_pos hneg])
    have R2 := hid (show extV (ordF o (t.take k)) x = ext (ordF o (t.take k)) x by unfold extV; rw [if_pos hneg])
    have L := hid (ren1 B S sn sc _ x wr hr hs hx24 hneg hsn)
    go_wp2_with (first
     | (go_at_call 122; refine L.out.mono ?_; rintro e w1 ⟨A1, c1, S1, sn1, sc1, rfl, s1, hc1, r1, os1, hat1, sd⟩; have ho1 := Own.side hO sd hr hne; have hz1 := sd.size; have hne1 : blk O = none ∨ blk O ≠ blk S1 := (by rcases hat1 with h | ⟨q, h, hq⟩; (rw [h]; exact hne); (rw [h]; exact (by cases e : blk O with | none => exact .inl rfl | some z => exact .inr (fun e2 => by injection e2 with e2; have := (blk_lt hO z e).2; omega)))))
     | (at_builtin; refine appAllAt rfl _ _ rfl w.heap.size O on oc (renF o (t.take k)) rfl ho1 A1 1 c1 w1.heap.size _ rfl s1 (by omega) (by omega) (by omega) (by omega) ?_; intro O' oc' w2 ho2 hg hat))
    have SS : HeadRG w B m o t S0 (.slice O' (on + 1) oc') (.int .i64 ((k : Int) + 1)) w2 := by
     refine ⟨k + 1, O', on + 1, oc', S1, sn1, sc1, hlt, by simp, rfl, by rw [E.out, R.out]; exact ho2, Row.away r1 hg (own_ne ho1 r1), by rw [EO.out, R2.out]; exact Own.kept os1 hg (ne_flip hne1), ?_, ?_, ?_⟩
     ·rcases hat1 with h | ⟨q, h, hq⟩
      ·rw [h]; exact hat0
      ·exact .inr ⟨q, h, by omega⟩
     ·rcases hat with h | h
      ·rw [h]; exact hne1
      ·exact ne_new os1 _ (Nat.le_refl _) h
     ·exact (hsd.on hat0 sd).grow hg (fun q hq => (blk_lt ho1 q hq).1)
    have HSS := hid SS
    clear SS ho2 hg hat ho1 s1 r1 os1 hat1 sd hne1 hO hs hr hne hsd R R2 E EO L hat0
    go_wp2
    go_roundw
    case rel => exact HSS.out
    case measure => simp [intOf]; omega
  ·rw [List.take_of_length_le (by rw [HL.out]; omega)] at hO hs
   have F : AnsRG w B o t S0 (.returned (.slice O on oc)) wr := ⟨O, on, oc, S, sn, sc, rfl, hO, hr, hs, hne, hsd⟩
   have HF := hid F
   clear F hO hs hr hne hsd h
   go_wp2
   go_ret
   exact HF.out
theorem renaming_ (w : World) : Calls Try.prog 101 #[] w fun e w' => e = .returned (.func (.func 122) #[] #[.pointer (some ⟨w.heap.size, 0, none⟩)]) ∧ w' = w.alloc (.cells #[.slice none 0 0] 22) := by
 have hmf : ∀ (fn : Fn) (first cap : Array Value) (w : World), (Instr.makeFunc fn first cap).run Try.prog w = .ok (.func fn first cap) w := fun _ _ _ _ => rfl
 go_enter Try.func101, Try.ntmps101
 go_wp2
 go_ret
 exact ⟨rfl, rfl⟩
set_option maxHeartbeats 4000000 in
theorem implRenamed (A A' : Option Addr) (n c m c' : Nat) (sg t : List Int) (w : World) (h : Seg w w.heap.size A n sg) (h' : Seg w w.heap.size A' m t) (hn : n ≤ 1048576) (hm : m ≤ 1048576) :
  Calls Try.prog 69 #[.agg #[.slice A n c], .slice A' m c'] w (AnsList w (renI sg t)) := by
 obtain ⟨W, hW⟩ : ∃ W, W = w.alloc (.cells #[.slice A n c] 29) := ⟨_, rfl⟩
 have bel : Below w.heap.size w W := by rw [hW]; exact (Below.refl _ _).alloc (Nat.le_refl _) _
 have s := (h.below bel).more bel.size
 have s' := (h'.below bel).more bel.size
 have HW := hid hW
 have HL := hid h'.1
 have L := hid (implTermOk A A' n c m c' sg t W s s' hn hm)
 clear hW h h' s
 cases hok : termOkB sg t with
 | false =>
  have HS := hid hok
  clear hok s'
  go_enter Try.func69, Try.ntmps69
  go_wp2_with fail
  rw [← HW.out]
  refine L.out.mono ?_
  rintro e w1 ⟨he, bb⟩
  rw [HS.out] at he
  subst he
  have F : AnsList w (renI sg t) (.returned (.slice none 0 0)) w1 := ⟨_, _, _, rfl, by unfold renI; rw [if_neg (by rw [HS.out]; simp)]; exact Own.nil _ _, next_trans bel bb⟩
  have HF := hid F
  clear F bb bel
  go_wp2
  go_ret
  exact HF.out
 | true =>
  have HS := hid hok
  have HV := hid (fun x hx => (term_mem (x := x) hok hx).1)
  have H60 : m ≤ 60 := by rw [← HL.out]; exact (term_len hok).2
  clear hok
  go_enter Try.func69, Try.ntmps69
  go_wp2_with fail
  rw [← HW.out]
  refine L.out.mono ?_
  rintro e w1 ⟨he, bb⟩
  rw [HS.out] at he
  subst he
  replace bel := next_trans bel bb
  have s1 := (s'.next bb)
  have s2 := s1.alloc (Nat.le_refl _) (.cells #[.slice none 0 0] 22)
  have hz := bel.size
  have L2 := hid (fillRen w1.heap.size A' m c' [] t none 0 0 _ (Row.new w1 22 #[.slice none 0 0]) (by simpa using Own.nil _ _) s2 H60 (by simp) HV.out)
  have LR := hid (renaming_ w1)
  clear bb L s' s1 s2
  go_wp2_with fail
  refine LR.out.mono ?_
  rintro e w2 ⟨rfl, rfl⟩
  go_wp2_with fail
  refine L2.out.mono ?_
  rintro e w3 ⟨O, on, oc, S, sn, sc, rfl, ho, -, -, -, sd⟩
  have F : AnsList w (renI sg t) (.returned (.slice O on oc)) w3 := ⟨O, on, oc, rfl, by unfold renI; rw [if_pos HS.out]; exact Own.lower ho (by simp; omega), (bel.alloc hz _).trans ((sd.below (fun k hk => by cases hk) (by simp)).mono hz)⟩
  have HF := hid F
  clear F ho sd bel L2 LR
  go_wp2
  go_ret
  exact HF.out
end renImpl
end
section
namespace genPos
open sig term termOk termFacts endAt sub termMath fillMath posMath renMath matchMath unifMath genMath
def upto (sg t : List Int) (p k : Nat) : List Int := (t.drop (p + 1)).take (argP sg t k (p + 1) - (p + 1))
theorem argP_ge {sg t : List Int} (k p : Nat) : p ≤ argP sg t k p := argP_mono (k := 0) (Nat.zero_le k)
theorem upto_succ {sg t : List Int} {p k : Nat} : upto sg t p (k + 1) = upto sg t p k ++ subL sg t (argP sg t k (p + 1)) := by
 have h1 := argP_ge (sg := sg) (t := t) k (p + 1)
 have h2 := argP_succ (sg := sg) (t := t) k (p + 1)
 unfold upto subL
 rw [h2, show argP sg t k (p + 1) + len1 sg t (argP sg t k (p + 1)) - (p + 1) = (argP sg t k (p + 1) - (p + 1)) + len1 sg t (argP sg t k (p + 1)) by omega, List.take_add, List.drop_drop, show p + 1 + (argP sg t k (p + 1) - (p + 1)) = argP sg t k (p + 1) by omega]
theorem sub_trm {sg t : List Int} {p j : Nat} (h : scan sg 1 (t.drop p) = some j) : Trm sg (subL sg t p) := by
 unfold Trm subL
 have h1 := scan_take h
 have h2 := scan_le h
 rw [len1_eq h, h1, List.length_take]
 congr 1
 omega
def Ga (sg a b : List Int) (p q : Nat) (T : Tb) (k : Nat) (g : List Int) (T' : Tb) : Prop := Gs sg T k (upto sg a p k) (upto sg b q k) g T'
theorem ga_succ {sg a b : List Int} {p q k : Nat} {T T1 T2 : Tb} {g g' : List Int} (h : Ga sg a b p q T k g T1) (h' : Gs sg T1 1 (subL sg a (argP sg a k (p + 1))) (subL sg b (argP sg b k (q + 1))) g' T2) : Ga sg a b p q T (k + 1) (g ++ g') T2 := by
 unfold Ga; rw [upto_succ, upto_succ]; exact gs_comp h h'
end genPos
end
section
namespace appZ
open Go.RowKit base ints cursor same marks app appAt sym sub segs segsHelp kinds Go.Proofs.Ytobedfmagjgdcaa.look plain
set_option maxRecDepth 100000
def Avoid (Z : Nat → Prop) (w : World) (A : Option Addr) (n : Nat) : Prop := ∀ j b v, j < n → A = some ⟨b, 0, none⟩ → w.cell? ⟨b, j, none⟩ = some v → ∀ z, Z z → v.ownBlock ≠ some z
section
variable {Z : Nat → Prop} {w w' : World} {lo hi n c : Nat} {A : Option Addr} {xss : List (List Int)}
theorem Avoid.nil : Avoid Z w none 0 := fun j b v hj _ _ => absurd hj (Nat.not_lt_zero _)
theorem Avoid.keep (h : Avoid Z w A n) (hb : ∀ b j, A = some ⟨b, 0, none⟩ → w'.cell? ⟨b, j, none⟩ = w.cell? ⟨b, j, none⟩) : Avoid Z w' A n := fun j b v hj e hc => h j b v hj e (by rw [← hb b j e]; exact hc)
theorem Avoid.fresh (h : Owns w lo hi A n c xss) (hZ : ∀ z, Z z → hi ≤ z) : Avoid Z w A n := fun j b v hj e hc z hz e2 => by
 obtain ⟨_, ⟨vs, hr, hin, _⟩, _⟩ := h
 rcases own_form hr with ⟨_, h0, _⟩ | ⟨g, cur, e3, _, hrow, _, _, _, _, hcell⟩
 ·omega
 ·rw [e3] at e
  injection e with e
  injection e with e
  subst e
  rw [hrow.cell j, hcell j hj] at hc
  injection hc with hc
  rw [← hc] at e2
  have := ((hin j hj).blk z e2).2.1
  have := hZ z hz
  omega
theorem Avoid.owns {r : Option Nat} (h : Owns w lo hi A n c xss) (ha : Avoid (fun z => r = some z) w A n) (hne : ∀ k, blk A = some k → r ≠ some k) (hg : w.grownBy w' r) : Owns w' lo hi A n c xss := by
 obtain ⟨hl, ⟨vs, hr, hin, hap⟩, top⟩ := h
 refine ⟨hl, ⟨vs, World.ownsRow.kept hr hg ?_, fun j hj => (hin j hj).kept hg ?_, hap⟩, top⟩
 ·rw [blk_own]
  cases e : blk A with
  | none => exact .inl rfl
  | some k => exact .inr (fun h => hne k e h.symm)
 ·rcases own_form hr with ⟨_, h0, _⟩ | ⟨g, cur, e3, _, hrow, _, _, _, _, hcell⟩
  ·omega
  ·cases e : (vs.getD j undef).ownBlock with
   | none => exact .inl rfl
   | some k => exact .inr (fun h => ha j g (vs.getD j undef) hj e3 (by rw [hrow.cell j, hcell j hj]) k h.symm e)
end
end appZ
end
section
namespace genTab
open Go.RowKit base ints sig cursor marks app appAt sym segs segsHelp term sub unifMath genMath genPos appZ
section
variable {w w' : World} {lo hi n c : Nat} {A L R : Option Addr} {xss : List (List Int)}
theorem topRow (h : Owns w lo hi L n c xss) : ∀ k, blk L = some k → (∃ cs, Row w k 22 cs) ∧ lo ≤ k ∧ k < w.heap.size := fun k hk => by
 obtain ⟨_, ⟨vs, hr, _, _⟩, _⟩ := h
 rcases own_form hr with ⟨rfl, _⟩ | ⟨g, cur, rfl, hb, hg, _⟩
 ·cases hk
 ·injection hk with hk
  subst hk
  exact ⟨⟨cur, hg⟩, hb, hg.lt⟩
structure Two (w w' : World) (L R : Option Addr) : Prop where
 os : w'.os = w.os
 tape : w'.tape = w.tape
 output : w'.output = w.output
 size : w.heap.size ≤ w'.heap.size
 block : ∀ k, k < w.heap.size → blk L ≠ some k → blk R ≠ some k → w'.heap[k]? = w.heap[k]?
theorem Two.left (h : w.grownBy w' (blk L)) : Two w w' L R := ⟨h.os, h.tape, h.output, h.size, fun k hk h1 _ => h.block k hk (fun e => h1 e.symm)⟩
theorem Two.right (h : w.grownBy w' (blk R)) : Two w w' L R := ⟨h.os, h.tape, h.output, h.size, fun k hk _ h2 => h.block k hk (fun e => h2 e.symm)⟩
theorem Two.trans {w1 w2 : World} {L1 R1 : Option Addr} (h : Two w w1 L R) (h' : Two w1 w2 L1 R1) (hL : ∀ k, blk L1 = some k → k < w.heap.size → blk L = some k) (hR : ∀ k, blk R1 = some k → k < w.heap.size → blk R = some k) : Two w w2 L R :=
 ⟨h'.os.trans h.os, h'.tape.trans h.tape, h'.output.trans h.output, Nat.le_trans h.size h'.size, fun k hk h1 h2 => (h'.block k (Nat.lt_of_lt_of_le hk h.size) (fun e => h1 (hL k e hk)) (fun e => h2 (hR k e hk))).trans (h.block k hk h1 h2)⟩
theorem Two.below {B : Nat} (h : Two w w' L R) (hL : ∀ k, blk L = some k → B ≤ k) (hR : ∀ k, blk R = some k → B ≤ k) (hB : B ≤ w.heap.size) : Below B w w' :=
 ⟨h.os, h.tape, h.output, h.size, fun k hk => h.block k (by omega) (fun e => by have := hL k e; omega) (fun e => by have := hR k e; omega)⟩
theorem Two.row {g : Nat} {t : TypeId} {cs : Array Value} (h : Two w w' L R) (hr : Row w g t cs) (h1 : blk L ≠ some g) (h2 : blk R ≠ some g) : Row w' g t cs := (h.block g hr.lt h1 h2).trans hr
theorem Two.own {base : Nat} {v : Value} {xs : List Int} (h : Two w w' L R) (ho : Own w base v xs) (hL : ∀ k, blk L = some k → ∃ cs, Row w k 22 cs) (hR : ∀ k, blk R = some k → ∃ cs, Row w k 22 cs) : Own w' base v xs := by
 obtain ⟨h1, h2⟩ := ho
 refine ⟨h1, ?_⟩
 rcases h2 with h2 | ⟨g, cap, cur, e, hb, hg, hn, hm, hs, ht⟩
 ·exact .inl h2
 ·refine .inr ⟨g, cap, cur, e, hb, Two.row h hg (fun e => ?_) (fun e => ?_), hn, hm, hs, ht⟩
  ·obtain ⟨cs, hc⟩ := hL g e
   exact Row.ne_ hg hc (by decide) rfl
  ·obtain ⟨cs, hc⟩ := hR g e
   exact Row.ne_ hg hc (by decide) rfl
structure Tabs (w : World) (lo : Nat) (L : Option Addr) (n lc : Nat) (R : Option Addr) (rc : Nat) (T : Tb) : Prop where
 l : Owns w lo w.heap.size L n lc (T.map Prod.fst)
 r : Owns w lo w.heap.size R n rc (T.map Prod.snd)
 ne : ∀ k, blk L = some k → blk R ≠ some k
variable {lc rc : Nat} {T : Tb}
theorem Tabs.len (h : Tabs w lo L n lc R rc T) : T.length = n := by have := h.l.len; simpa using this
theorem Tabs.next (h : Tabs w lo L n lc R rc T) (hb : Below w.heap.size w w') : Tabs w' lo L n lc R rc T := ⟨(h.l.next hb).wider (Nat.le_refl _) hb.size, (h.r.next hb).wider (Nat.le_refl _) hb.size, h.ne⟩
theorem Tabs.rowL (h : Tabs w lo L n lc R rc T) : ∀ k, blk L = some k → ∃ cs, Row w k 22 cs := fun k hk => (topRow h.l k hk).1
theorem Tabs.rowR (h : Tabs w lo L n lc R rc T) : ∀ k, blk R = some k → ∃ cs, Row w k 22 cs := fun k hk => (topRow h.r k hk).1
theorem Tabs.loL (h : Tabs w lo L n lc R rc T) : ∀ k, blk L = some k → lo ≤ k := fun k hk => (topRow h.l k hk).2.1
theorem Tabs.loR (h : Tabs w lo L n lc R rc T) : ∀ k, blk R = some k → lo ≤ k := fun k hk => (topRow h.r k hk).2.1
end
end genTab
end
section
namespace genSpec
open Go.RowKit base ints sig cursor marks app appAt sym segs segsHelp term sub Go.Proofs.Ytobedfmagjgdcaa.look plain same posMath unifMath genMath genPos genTab appZ
set_option maxRecDepth 100000
theorem drewN_below (w : World) (d : Nat) : Below w.heap.size w (w.drewN d) := ⟨rfl, rfl, rfl, Nat.le_refl _, fun _ _ => rfl⟩
structure Gw (w wr : World) (lo : Nat) (A : Option Addr) (n c : Nat) (sg : List Int) (P : Option Addr) (m : Nat) (a : List Int) (Q : Option Addr) (k : Nat) (b : List Int) (L : Option Addr) (ln lc : Nat) (R : Option Addr) (rc : Nat) (T : Tb) : Prop where
 r0 : Row wr w.heap.size 29 #[.slice A n c]
 s : Seg wr lo A n sg
 pa : Seg wr lo P m a
 qb : Seg wr lo Q k b
 t : Tabs wr lo L ln lc R rc T
 le : lo ≤ w.heap.size
 bel : Below w.heap.size w wr
section
variable {w wr w' : World} {lo : Nat} {A : Option Addr} {n c : Nat} {sg : List Int} {P : Option Addr} {m : Nat} {a : List Int} {Q : Option Addr} {k : Nat} {b : List Int} {L : Option Addr} {ln lc : Nat} {R : Option Addr} {rc : Nat} {T : Tb}
theorem Gw.next (h : Gw w wr lo A n c sg P m a Q k b L ln lc R rc T) (hb : Below wr.heap.size wr w') : Gw w w' lo A n c sg P m a Q k b L ln lc R rc T :=
 have hw : Below w.heap.size wr w' := hb.mono h.bel.size
 have hl : Below lo wr w' := hw.mono h.le
 ⟨h.r0.next hb, h.s.below hl, h.pa.below hl, h.qb.below hl, h.t.next hb, h.le, h.bel.trans hw⟩
theorem Gw.c0 (h : Gw w wr lo A n c sg P m a Q k b L ln lc R rc T) : wr.cell? ⟨w.heap.size, 0, none⟩ = some (.slice A n c) := h.r0.cell 0
theorem Gw.low (h : Gw w wr lo A n c sg P m a Q k b L ln lc R rc T) : lo ≤ wr.heap.size := Nat.le_trans h.le h.bel.size
end
section
variable {w wr w' w6 w7 : World} {lo : Nat} {A : Option Addr} {n c : Nat} {sg : List Int} {P : Option Addr} {m : Nat} {a : List Int} {Q : Option Addr} {k : Nat} {b : List Int} {L : Option Addr} {ln lc : Nat} {R : Option Addr} {rc : Nat} {T : Tb} {u v : List Int}
end
end genSpec
end
section
namespace genRec
open Go.RowKit base ints sig cursor marks app appAt sym segs segsHelp term args sub Go.Proofs.Ytobedfmagjgdcaa.look plain same posMath unifMath genMath genPos genTab appZ genSpec
theorem ownRow {w : World} {base n c : Nat} {A : Option Addr} {xs : List Int} (h : Own w base (.slice A n c) xs) : ∀ k, blk A = some k → (∃ cs, Row w k 2 cs) ∧ base ≤ k ∧ k < w.heap.size := fun k hk => by
 have hl := Own.len h
 subst hl
 rcases own_form (n := xs.length) (vs := xs.map (Value.int .i64)) h with ⟨rfl, _⟩ | ⟨g, cur, rfl, hb, hg, _⟩
 ·cases hk
 ·injection hk with hk
  subst hk
  exact ⟨⟨cur, hg⟩, hb, hg.lt⟩
structure Hr (w wr : World) (lo : Nat) (A : Option Addr) (n c : Nat) (sg : List Int) (P : Option Addr) (m : Nat) (a : List Int) (Q : Option Addr) (k : Nat) (b : List Int) (L R : Option Addr) (ln p q : Nat) (T : Tb) (x : Int) (X : Option Addr) (xn xc : Nat) (Y : Option Addr) (yn yc i : Nat) (L' R' : Option Addr) (ln' lc' rc' : Nat) (O : Option Addr) (on oc : Nat) (g : List Int) (T' : Tb) : Prop where
 r0 : Row wr w.heap.size 29 #[.slice A n c]
 s : Seg wr lo A n sg
 pa : Seg wr lo P m a
 qb : Seg wr lo Q k b
 t : Tabs wr lo L' ln' lc' R' rc' T'
 le : lo ≤ w.heap.size
 two : Two w wr L R
 hl : ∀ k, blk L' = some k → k < w.heap.size → blk L = some k
 hr : ∀ k, blk R' = some k → k < w.heap.size → blk R = some k
 ox : Own wr w.heap.size (.slice X xn xc) (argsL sg a p)
 oy : Own wr w.heap.size (.slice Y yn yc) (argsL sg b q)
 oo : Own wr w.heap.size (.slice O on oc) (x :: g)
 nx : ∀ z, blk O = some z → blk X ≠ some z
 ny : ∀ z, blk O = some z → blk Y ≠ some z
 ga : Ga sg a b p q T i g T'
 av : ∀ Z : Nat → Prop, (∀ z, Z z → z < w.heap.size) → Avoid Z w L ln → Avoid Z w R ln → Avoid Z wr L' ln' ∧ Avoid Z wr R' ln'
 ao : Avoid (fun z => blk O = some z) wr L' ln' ∧ Avoid (fun z => blk O = some z) wr R' ln'
section
variable {w wr wd w5 w6 : World} {lo : Nat} {A : Option Addr} {n c : Nat} {sg : List Int} {P : Option Addr} {m : Nat} {a : List Int} {Q : Option Addr} {k : Nat} {b : List Int} {L R : Option Addr} {ln p q : Nat} {T : Tb} {x : Int} {X : Option Addr} {xn xc : Nat} {Y : Option Addr} {yn yc i : Nat} {L' R' : Option Addr} {ln' lc' rc' : Nat} {O : Option Addr} {on oc : Nat} {g : List Int} {T' : Tb}
theorem own_away {base r0 : Nat} {r : Option Nat} {A : Option Addr} {n c : Nat} {xs : List Int} (h : Own w5 base (.slice A n c) xs) (hg : w5.grownBy w6 r) (hne : ∀ z, r = some z → blk A ≠ some z) (_ : r0 = 0) : Own w6 base (.slice A n c) xs := by
 refine World.ownsRow.kept h hg ?_
 rw [blk_own]
 cases e : blk A with
 | none => exact .inl rfl
 | some z => exact .inr (fun e2 => hne z e2.symm e)
theorem Hr.step (h : Hr w wr lo A n c sg P m a Q k b L R ln p q T x X xn xc Y yn yc i L' R' ln' lc' rc' O on oc g T') {L2 R2 : Option Addr} {n2 lc2 rc2 : Nat} {g' : List Int} {T2 : Tb}
  (hgs : Gs sg T' 1 (subL sg a (argP sg a i (p + 1))) (subL sg b (argP sg b i (q + 1))) g' T2) (ht2 : Tabs w5 lo L2 n2 lc2 R2 rc2 T2) (htwo : Two wr w5 L' R') (hl2 : ∀ k, blk L2 = some k → k < wr.heap.size → blk L' = some k) (hr2 : ∀ k, blk R2 = some k → k < wr.heap.size → blk R' = some k)
  (hav : ∀ Z : Nat → Prop, (∀ z, Z z → z < wr.heap.size) → Avoid Z wr L' ln' → Avoid Z wr R' ln' → Avoid Z w5 L2 n2 ∧ Avoid Z w5 R2 n2)
  {O' : Option Addr} {on' oc' : Nat} (ho6 : Own w6 w.heap.size (.slice O' on' oc') ((x :: g) ++ g')) (hg6 : w5.grownBy w6 (blk O)) (hat6 : blk O' = blk O ∨ blk O' = some w5.heap.size) :
  Hr w w6 lo A n c sg P m a Q k b L R ln p q T x X xn xc Y yn yc (i + 1) L2 R2 n2 lc2 rc2 O' on' oc' (g ++ g') T2 := by
 have tO := ownRow h.oo
 have hzw := h.two.size
 have hz5 := htwo.size
 have hz6 := hg6.size
 have oo5 := htwo.own h.oo h.t.rowL h.t.rowR
 have tO5 := ownRow oo5
 have ox5 := htwo.own h.ox h.t.rowL h.t.rowR
 have oy5 := htwo.own h.oy h.t.rowL h.t.rowR
 have b5 : Below lo wr w5 := htwo.below h.t.loL h.t.loR (Nat.le_trans h.le hzw)
 have hOlo : ∀ z, blk O = some z → w.heap.size ≤ z := fun z hz => (tO z hz).2.1
 have hOL : ∀ z, blk L2 = some z → blk O ≠ some z := fun z hz e => by
  obtain ⟨cs, h1⟩ := ht2.rowL z hz
  obtain ⟨⟨cs2, h2⟩, _⟩ := tO5 z e
  exact Row.ne_ h2 h1 (by decide) rfl
 have hOR : ∀ z, blk R2 = some z → blk O ≠ some z := fun z hz e => by
  obtain ⟨cs, h1⟩ := ht2.rowR z hz
  obtain ⟨⟨cs2, h2⟩, _⟩ := tO5 z e
  exact Row.ne_ h2 h1 (by decide) rfl
 have r5 : Row w5 w.heap.size 29 #[.slice A n c] := htwo.row h.r0 (fun e => by obtain ⟨cs, h1⟩ := h.t.rowL _ e; exact Row.ne_ h.r0 h1 (by decide) rfl) (fun e => by obtain ⟨cs, h1⟩ := h.t.rowR _ e; exact Row.ne_ h.r0 h1 (by decide) rfl)
 have hOs : blk O ≠ some w.heap.size := fun e => by
  obtain ⟨⟨cs, h1⟩, _⟩ := tO5 _ e
  exact Row.ne_ r5 h1 (by decide) rfl
 have hfar : ∀ z, blk O = some z → lo ≤ z := fun z hz => Nat.le_trans h.le (hOlo z hz)
 have hlo5 : lo ≤ w5.heap.size := by have := h.le; omega
 obtain ⟨avO1, avO2⟩ := hav (fun z => blk O = some z) (fun z hz => (tO z hz).2.2) h.ao.1 h.ao.2
 have kL : ∀ b j, L2 = some ⟨b, 0, none⟩ → w6.cell? ⟨b, j, none⟩ = w5.cell? ⟨b, j, none⟩ := fun b j e => World.cell?_of_block (hg6.block b (ht2.l.top b (by rw [e]; rfl)) (fun e2 => hOL b (by rw [e]; rfl) e2.symm))
 have kR : ∀ b j, R2 = some ⟨b, 0, none⟩ → w6.cell? ⟨b, j, none⟩ = w5.cell? ⟨b, j, none⟩ := fun b j e => World.cell?_of_block (hg6.block b (ht2.r.top b (by rw [e]; rfl)) (fun e2 => hOR b (by rw [e]; rfl) e2.symm))
 have two5 : Two w w5 L R := h.two.trans htwo h.hl h.hr
 refine ⟨?_, Seg.far (h.s.below b5) hg6 hlo5 hfar, Seg.far (h.pa.below b5) hg6 hlo5 hfar, Seg.far (h.qb.below b5) hg6 hlo5 hfar, ⟨(Avoid.owns ht2.l avO1 hOL hg6).wider (Nat.le_refl _) hz6, (Avoid.owns ht2.r avO2 hOR hg6).wider (Nat.le_refl _) hz6, ht2.ne⟩, h.le, ?_, fun z hz hlt => h.hl z (hl2 z hz (by omega)) hlt, fun z hz hlt => h.hr z (hr2 z hz (by omega)) hlt, own_away (r0 := 0) ox5 hg6 h.nx rfl, own_away (r0 := 0) oy5 hg6 h.ny rfl, ho6, fun z hz => ?_, fun z hz => ?_, ga_succ h.ga hgs, fun Z hZ a1 a2 => ?_, ?_⟩
 ·exact (hg6.block _ r5.lt (fun e => hOs e.symm)).trans r5
 ·exact ⟨hg6.os.trans two5.os, hg6.tape.trans two5.tape, hg6.output.trans two5.output, Nat.le_trans two5.size hz6, fun z hz h1 h2 => (hg6.block z (by omega) (fun e => by have := hOlo z e.symm; omega)).trans (two5.block z hz h1 h2)⟩
 ·rcases hat6 with e | e
  ·exact h.nx z (by rw [← e]; exact hz)
  ·intro e2
   rw [e] at hz
   injection hz with hz
   have := (ownRow ox5 z e2).2.2
   omega
 ·rcases hat6 with e | e
  ·exact h.ny z (by rw [← e]; exact hz)
  ·intro e2
   rw [e] at hz
   injection hz with hz
   have := (ownRow oy5 z e2).2.2
   omega
 ·obtain ⟨c1, c2⟩ := h.av Z hZ a1 a2
  obtain ⟨d1, d2⟩ := hav Z (fun z hz => by have := hZ z hz; omega) c1 c2
  exact ⟨d1.keep kL, d2.keep kR⟩
 ·rcases hat6 with e | e
  ·rw [e]; exact ⟨avO1.keep kL, avO2.keep kR⟩
  ·refine ⟨(Avoid.fresh ht2.l (fun z hz => ?_)).keep kL, (Avoid.fresh ht2.r (fun z hz => ?_)).keep kR⟩
   ·rw [e] at hz; injection hz with hz; omega
   ·rw [e] at hz; injection hz with hz; omega
end
end genRec
end
section
namespace genMain
open Go.RowKit base ints sig cursor marks app appAt sym segs segsHelp term args sub Go.Proofs.Ytobedfmagjgdcaa.look plain same posMath unifMath genMath genPos genTab appZ genSpec genRec
set_option maxRecDepth 100000
section
variable {w wr w5 : World} {lo : Nat} {A : Option Addr} {n c : Nat} {sg : List Int} {P : Option Addr} {m : Nat} {a : List Int} {Q : Option Addr} {k : Nat} {b : List Int} {L R : Option Addr} {ln p q : Nat} {T : Tb} {x : Int} {X : Option Addr} {xn xc : Nat} {Y : Option Addr} {yn yc i : Nat} {L' R' : Option Addr} {ln' lc' rc' : Nat} {O : Option Addr} {on oc : Nat} {g : List Int} {T' : Tb}
end
def HeadR (w : World) (lo : Nat) (A : Option Addr) (n c : Nat) (sg : List Int) (P : Option Addr) (m : Nat) (a : List Int) (Q : Option Addr) (k : Nat) (b : List Int) (L R : Option Addr) (ln p q : Nat) (T : Tb) (x : Int) (X : Option Addr) (xn xc : Nat) (Y : Option Addr) (yn yc : Nat) (l r o iv : Value) (wr : World) : Prop :=
 ∃ (i : Nat) (L' R' : Option Addr) (ln' lc' rc' : Nat) (O : Option Addr) (on oc : Nat) (g : List Int) (T' : Tb), i ≤ xn ∧ l = .slice L' ln' lc' ∧ r = .slice R' ln' rc' ∧ o = .slice O on oc ∧ iv = .int .i64 i ∧ Hr w wr lo A n c sg P m a Q k b L R ln p q T x X xn xc Y yn yc i L' R' ln' lc' rc' O on oc g T'
end genMain
end
section
namespace general
open Go.RowKit base ints sig cursor marks app appAt sym segs segsHelp term args sub Go.Proofs.Ytobedfmagjgdcaa.look plain unifMath genMath genPos genTab genSpec genMain termOk termFacts termMath endAt unifLaw
set_option maxRecDepth 100000
structure Gr (w wr : World) (A : Option Addr) (n c : Nat) (sg : List Int) (P : Option Addr) (m : Nat) (a : List Int) (Q : Option Addr) (k : Nat) (b : List Int) : Prop where
 r0 : Row wr w.heap.size 29 #[.slice A n c]
 s : Seg wr wr.heap.size A n sg
 pa : Seg wr wr.heap.size P m a
 qb : Seg wr wr.heap.size Q k b
 b : Below w.heap.size w wr
theorem Gr.next {w wr w' : World} {A : Option Addr} {n c : Nat} {sg : List Int} {P : Option Addr} {m : Nat} {a : List Int} {Q : Option Addr} {k : Nat} {b : List Int} (h : Gr w wr A n c sg P m a Q k b) (hb : Below wr.heap.size wr w') : Gr w w' A n c sg P m a Q k b :=
 ⟨h.r0.next hb, h.s.next hb, h.pa.next hb, h.qb.next hb, next_trans h.b hb⟩
end general
end
section
open Go.Lib (hid)
namespace met
open Go.RowKit base ints sig term termOk termFacts endAt cursor marks app sym segs segsHelp kinds fillMath Go.Proofs.Ytobedfmagjgdcaa.look shifted substOk gives filled plainMath plain renMath renPure rename renImpl genSpec unifMath unifLaw unified unifImpl behind apart5
set_option maxRecDepth 100000
def metL (v : Bool) (F : List (List Int)) (a : List Int) : List Int := if v = true then renL (fillL (givesL F) a) else []
theorem isA_each {sg a b : List Int} {v : Bool} {F : List (List Int)} (h : IsA sg a b v F) : tot F ≤ 1048576 := by
 rcases h with ⟨_, h⟩ | ⟨_, _, rfl⟩
 ·exact isU_each h
 ·simp [tot, sumL]
theorem isA_true {sg a b : List Int} {F : List (List Int)} (h : IsA sg a b true F) : substOkB sg F = true ∧ termOkB sg a = true ∧ fitsB F a = true ∧ filledB sg F a = true ∧ termOkB sg (fillL (givesL F) a) = true := by
 rcases h with ⟨_, h⟩ | ⟨_, e, _⟩
 ·obtain ⟨h1, _, h3, _⟩ := isU_facts h
  obtain ⟨_, p2, p3, p4⟩ := filled_parts h3
  refine ⟨h1, p2, ?_, h3, ?_⟩
  ·rw [← filled_b h1 p2]; exact h3
  ·exact term_mk (term_parts p2).1 p4 ((gives_sub h1).fill (term_parts p2).2.2)
 ·cases e
theorem met_len {sg a b : List Int} {v : Bool} {F : List (List Int)} (h : IsA sg a b v F) : (metL v F a).length ≤ 1048576 := by
 unfold metL
 split
 ·rename_i e
  subst e
  have h5 := (isA_true h).2.2.2.2
  have := (term_len (ren_ok h5)).2
  omega
 ·simp
set_option maxHeartbeats 2000000 in
theorem specMetOf (A P Q : Option Addr) (n c pn pc m mc : Nat) (sg p t : List Int) (w : World) (v : Bool) (F : List (List Int)) (hU : IsA sg p t v F) (h : Seg w w.heap.size A n sg) (hp : Seg w w.heap.size P pn p) (ht : Seg w w.heap.size Q m t) (hn : n ≤ 1048576) (hpn : pn ≤ 1048576) (hm : m ≤ 1048576) :
  Calls Try.prog 32 #[.agg #[.slice A n c], .slice P pn pc, .slice Q m mc] w (AnsPairO w (metL v F p) v) := by
 obtain ⟨W, hW⟩ : ∃ W, W = w.alloc (.cells #[.slice A n c] 29) := ⟨_, rfl⟩
 have bW : Below w.heap.size w W := by rw [hW]; exact (Below.refl _ _).alloc (Nat.le_refl _) _
 have HW := hid hW
 have sp := hp.next bW
 have L := hid (specUnifiedApart A P Q n c pn pc m mc sg p t W v F hU (h.next bW) sp (ht.next bW) hn hpn hm)
 have HU := hid hU
 clear hU hW h hp ht
 go_enter Try.func32, Try.ntmps32
 go_wp2_with fail
 rw [← HW.out]
 refine L.out.mono ?_
 rintro e w1 ⟨D, dn, dc, rfl, od, bb⟩
 have b1 := next_trans bW bb
 have B2 : Below w1.heap.size w1 (w1.alloc (.cells #[.slice D dn dc] 39)) := (Below.refl _ _).alloc (Nat.le_refl _) _
 have s2 := (sp.next bb).next B2
 have o2 := (od.next B2).segs
 have b2 := next_trans b1 B2
 clear bb L bW sp od
 cases v with
 | false =>
  have F1 := hid (show AnsPairO w [] false (.returned (.tuple #[.slice (some ⟨(w1.alloc (.cells #[.slice D dn dc] 39)).heap.size, 0, none⟩) 0 0, .bool false])) ((w1.alloc (.cells #[.slice D dn dc] 39)).alloc (.cells #[] 2)) from ⟨_, 0, 0, rfl, own_empty _ _ b2.size, b2.alloc b2.size _⟩)
  clear b1 b2 B2 s2 o2
  go_wp2
  go_ret2
  have G := F1.out
  simp at G
  exact G
 | true =>
  obtain ⟨h1, h2, h3, h4, h5⟩ := isA_true HU.out
  have hp60 : pn ≤ 60 := by rw [← s2.1]; exact (term_len h2).2
  have LF := hid (l2Filled D P dn dc pn pc F p _ o2 s2 (isA_each HU.out) hp60 (fun x hx => (term_mem h2 hx).1) (gives_len h1))
  have E := hid (show fitL F p = fillL (givesL F) p by unfold fitL; rw [if_pos h3])
  have H5 := hid h5
  have HB2 := hid b2
  rw [h3] at LF
  clear h1 h2 h3 h4 h5 b1 b2 B2 s2 o2
  go_wp2_with fail
  refine LF.out.mono ?_
  rintro e w3 ⟨X, xn, xc, rfl, ox, b3⟩
  rw [E.out] at ox
  have sx := Own.seg ox
  have hx60 : xn ≤ 1048576 := by rw [← sx.1]; have := (term_len H5.out).2; omega
  have LR := hid (l2Renamed X xn xc (fillL (givesL F) p) w3 sx hx60)
  have B3 := hid (next_trans HB2.out b3)
  clear ox sx b3 LF
  go_wp2_with fail
  refine LR.out.mono ?_
  rintro e w4 ⟨Y, yn, yc, rfl, oy, b4⟩
  have F1 := hid (show AnsPairO w (metL true F p) true (.returned (.tuple #[.slice Y yn yc, .bool true])) w4 from ⟨Y, yn, yc, rfl, Own.lower oy B3.out.size, next_trans B3.out b4⟩)
  clear oy b4 LR
  go_wp2
  go_ret2
  exact F1.out
set_option maxHeartbeats 2000000 in
theorem implMetOf (A P Q : Option Addr) (n c pn pc m mc : Nat) (sg p t : List Int) (w : World) (v : Bool) (F : List (List Int)) (hU : IsA sg p t v F) (h : Seg w w.heap.size A n sg) (hp : Seg w w.heap.size P pn p) (ht : Seg w w.heap.size Q m t) (hn : n ≤ 1048576) (hpn : pn ≤ 1048576) (hm : m ≤ 1048576) (kp : Cap P pn pc) :
  Calls Try.prog 33 #[.agg #[.slice A n c], .slice P pn pc, .slice Q m mc] w (AnsPairO w (metL v F p) v) := by
 obtain ⟨W, hW⟩ : ∃ W, W = w.alloc (.cells #[.slice A n c] 29) := ⟨_, rfl⟩
 have bW : Below w.heap.size w W := by rw [hW]; exact (Below.refl _ _).alloc (Nat.le_refl _) _
 have rW : Row W w.heap.size 29 #[.slice A n c] := by rw [hW]; exact Row.new _ _ _
 have HW := hid hW
 have sp := hp.next bW
 have sA := h.next bW
 have L := hid (implUnifiedApart A P Q n c pn pc m mc sg p t W v F hU sA sp (ht.next bW) hn hpn hm kp)
 have HU := hid hU
 clear hU hW h hp ht
 go_enter Try.func33, Try.ntmps33
 go_wp2_with fail
 rw [← HW.out]
 refine L.out.mono ?_
 rintro e w1 ⟨D, dn, dc, rfl, od, bb⟩
 have b1 := next_trans bW bb
 have B2 : Below w1.heap.size w1 (w1.alloc (.cells #[.slice D dn dc] 39)) := (Below.refl _ _).alloc (Nat.le_refl _) _
 have s2 := (sp.next bb).next B2
 have sA2 := (sA.next bb).next B2
 have r2 := (rW.next bb).next B2
 have c2 : (w1.alloc (.cells #[.slice D dn dc] 39)).cell? ⟨w.heap.size, 0, none⟩ = some (.slice A n c) := r2.cell 0
 have o2 := (od.next B2).segs
 have b2 := next_trans b1 B2
 clear bb L bW sp od sA rW
 cases v with
 | false =>
  have F1 := hid (show AnsPairO w [] false (.returned (.tuple #[.slice none 0 0, .bool false])) (w1.alloc (.cells #[.slice D dn dc] 39)) from ⟨none, 0, 0, rfl, Own.nil _ _, b2⟩)
  clear b1 b2 B2 s2 o2 c2 r2
  go_wp2
  go_ret2
  exact F1.out
 | true =>
  obtain ⟨h1, h2, h3, h4, h5⟩ := isA_true HU.out
  have LF := hid (implFilled A D P n c dn dc pn pc sg F p _ sA2 o2 s2 hn (isA_each HU.out) hpn)
  have E := hid (show filledL sg F p = fillL (givesL F) p by unfold filledL; rw [if_pos h4])
  have H5 := hid h5
  have HB2 := hid b2
  rw [h4] at LF
  clear h1 h2 h3 h4 h5 b1 b2 B2 s2 o2
  go_wp2_with fail
  refine LF.out.mono ?_
  rintro e w3 ⟨X, xn, xc, rfl, ox, b3⟩
  rw [E.out] at ox
  have sx := Own.seg ox
  have c3 : w3.cell? ⟨w.heap.size, 0, none⟩ = some (.slice A n c) := (r2.next b3).cell 0
  have hx60 : xn ≤ 1048576 := by rw [← sx.1]; have := (term_len H5.out).2; omega
  have LR := hid (implRenamed A X n c xn xc sg (fillL (givesL F) p) w3 (sA2.next b3) sx hn hx60)
  have ER := hid (show renI sg (fillL (givesL F) p) = metL true F p by unfold renI; rw [if_pos H5.out]; rfl)
  rw [ER.out] at LR
  have B3 := hid (next_trans HB2.out b3)
  clear ox sx b3 LF sA2 r2 c2
  go_wp2_with fail
  refine LR.out.mono ?_
  rintro e w4 ⟨Y, yn, yc, rfl, oy, b4⟩
  have F1 := hid (show AnsPairO w (metL true F p) true (.returned (.tuple #[.slice Y yn yc, .bool true])) w4 from ⟨Y, yn, yc, rfl, Own.lower oy B3.out.size, next_trans B3.out b4⟩)
  clear oy b4 LR
  go_wp2
  go_ret2
  exact F1.out
end met
end
section
namespace metX
open Go.RowKit base sig segs shifted unifMath unified apart5 met
set_option linter.unusedSectionVars false
section
variable (A P Q : Option Addr) (n c pn pc m mc : Nat) (sg p t : List Int) (w : World) (h : Seg w w.heap.size A n sg) (hp : Seg w w.heap.size P pn p) (ht : Seg w w.heap.size Q m t) (hn : n ≤ 1048576) (hpn : pn ≤ 1048576) (hm : m ≤ 1048576) (kp : Cap P pn pc) {v : Bool} {F : List (List Int)} (hU : IsA sg p t v F)
include h hp ht hn hpn hm kp hU
theorem specMetOfX : Calls Try.prog 32 #[.agg #[.slice A n c], .slice P pn pc, .slice Q m mc] w (AnsPairO w (metL v F p) v) :=
 specMetOf A P Q n c pn pc m mc sg p t w v F hU h hp ht hn hpn hm
theorem implMetOfX : Calls Try.prog 33 #[.agg #[.slice A n c], .slice P pn pc, .slice Q m mc] w (AnsPairO w (metL v F p) v) :=
 implMetOf A P Q n c pn pc m mc sg p t w v F hU h hp ht hn hpn hm kp
end
end metX
end
section
open Go.Lib (hid)
namespace wMetOf
open Go.RowKit base ints sig cursor marks app sym appAt segs segsHelp segsMark kinds inside unifMath unified unifImpl unifLaw apart5 met metX
set_option maxRecDepth 100000
set_option maxHeartbeats 8000000 in
theorem law (a0 : Option Addr) (n0 c0 : Nat) (xs0 : List Int) (a1 : Option Addr) (n1 c1 : Nat) (xs1 : List Int) (a2 : Option Addr) (n2 c2 : Nat) (xs2 : List Int) (w : World) (s0 : Seg w w.heap.size a0 n0 xs0) (hN0 : n0 ≤ 9223372036854775807) (s1 : Seg w w.heap.size a1 n1 xs1) (hN1 : n1 ≤ 9223372036854775807) (s2 : Seg w w.heap.size a2 n2 xs2) (hN2 : n2 ≤ 9223372036854775807) :
  Calls Try.prog 7 #[.agg #[.slice a0 n0 c0], .slice a1 n1 c1, .slice a2 n2 c2] w (Fine w) := by
 obtain ⟨vv, FF, hU⟩ := isA_ex xs0 xs1 xs2
 obtain ⟨W, hW⟩ : ∃ W, W = w.alloc (.cells #[.slice a0 n0 c0] 24) := ⟨_, rfl⟩
 have rA0 : Row W (w.heap.size) 24 #[.slice a0 n0 c0] := by rw [hW]; have := Row.new (w) 24 #[.slice a0 n0 c0]; simpa using this
 have bW : Below w.heap.size w W := by rw [hW]; exact (Below.refl w.heap.size w).alloc (by simp) (.cells #[.slice a0 n0 c0] 24)
 have zA0 := rA0.lt
 replace s0 := s0.next bW
 have Hl0 := hid s0.1
 replace s1 := s1.next bW
 have Hl1 := hid s1.1
 replace s2 := s2.next bW
 have Hl2 := hid s2.1
 have HW := hid hW
 clear hW
 obtain ⟨v, hv⟩ : ∃ v, vv = v := ⟨_, rfl⟩
 have HV := hid hv
 clear hv
 have ev : (v != v) = false := by simp
 by_cases h1 : n1 ≤ 1048576
 case neg =>
  go_enter Try.func7, Try.ntmps7
  go_wp2_with fail
  rw [← HW.out]
  go_ret
  exact ⟨rfl, bW⟩
 by_cases h2 : n2 ≤ 1048576
 case neg =>
  go_enter Try.func7, Try.ntmps7
  go_wp2_with fail
  rw [← HW.out]
  go_ret
  exact ⟨rfl, bW⟩
 go_enter Try.func7, Try.ntmps7
 go_wp2_with fail
 rw [← HW.out]
 clear HW
 have bel := Below.refl W.heap.size W
 have cA0 : W.cell? ⟨w.heap.size, 0, none⟩ = some (.slice a0 n0 c0) := (rA0.next bel).cell 0
 refine (szSig _ _ _ (1048576) _ hN0 (by omega) (by omega)).mono ?_
 rintro e w1 ⟨he, bb⟩
 replace bel := next_trans bel bb
 have zw1 := bb.size
 clear bb
 by_cases q0 : n0 ≤ 1048576
 case neg =>
  rw [if_pos (by omega)] at he
  subst he
  have F := hid (bW.trans (bel.mono bW.size))
  clear bel bW cA0
  go_wp2
  go_ret
  exact ⟨rfl, F.out⟩
 rw [if_neg (by omega)] at he
 subst he
 have h0 : n0 ≤ 1048576 := by omega
 clear cA0
 have cA0 : w1.cell? ⟨w.heap.size, 0, none⟩ = some (.slice a0 n0 c0) := (rA0.next bel).cell 0
 have hlen : (metL vv FF xs1).length ≤ 1048576 := met_len hU
 obtain ⟨ys, hys⟩ : ∃ ys, metL vv FF xs1 = ys := ⟨_, rfl⟩
 rw [hys] at hlen
 have HY := hid hys
 clear hys
 replace hlen := hid hlen
 go_wp2_with fail
 refine (sigTo _ _ _ xs0 _ (s0.next bel) h0).mono ?_
 rintro e w2 ⟨gp0, rfl, op0, yp0, bb⟩
 replace bel := next_trans bel bb
 have zw2 := bb.size
 clear bb
 clear cA0
 have cA0 : w2.cell? ⟨w.heap.size, 0, none⟩ = some (.slice a0 n0 c0) := (rA0.next bel).cell 0
 go_wp2_with fail
 refine (intsTo _ _ _ xs1 _ (s1.next bel) h1).mono ?_
 rintro e w3 ⟨gp1, rfl, op1, yp1, bb⟩
 replace op0 := op0.next bb
 replace bel := next_trans bel bb
 have zw3 := bb.size
 clear bb
 clear cA0
 have cA0 : w3.cell? ⟨w.heap.size, 0, none⟩ = some (.slice a0 n0 c0) := (rA0.next bel).cell 0
 go_wp2_with fail
 refine (intsTo _ _ _ xs2 _ (s2.next bel) h2).mono ?_
 rintro e w4 ⟨gp2, rfl, op2, yp2, bb⟩
 replace op0 := op0.next bb
 replace op1 := op1.next bb
 replace bel := next_trans bel bb
 have zw4 := bb.size
 clear bb
 clear cA0
 have cA0 : w4.cell? ⟨w.heap.size, 0, none⟩ = some (.slice a0 n0 c0) := (rA0.next bel).cell 0
 go_wp2_with fail
 refine (specMetOfX _ _ _ _ _ _ _ _ _ xs0 xs1 xs2 _ op0.rd op1.rd op2.rd h0 h1 h2 ⟨Nat.le_refl _, by omega, fun e => by cases e⟩ hU).mono ?_
 rintro e w5 ⟨A0, m0, d0, he, o0, bb⟩
 rw [HV.out] at he
 subst he
 replace op0 := op0.next bb
 replace op1 := op1.next bb
 replace op2 := op2.next bb
 replace bel := next_trans bel bb
 have zw5 := bb.size
 clear bb
 rw [HY.out] at o0
 have sw := Own.seg o0
 clear o0
 clear op0 op1 op2
 clear cA0
 have cA0 : w5.cell? ⟨w.heap.size, 0, none⟩ = some (.slice a0 n0 c0) := (rA0.next bel).cell 0
 obtain ⟨Aw, mw, dw, eA, em, ed⟩ : ∃ A m d, A = A0 ∧ m = m0 ∧ d = d0 := ⟨_, _, _, rfl, rfl, rfl⟩
 subst eA em ed
 have belw := Below.refl w5.heap.size w5
 clear cA0
 have cA0 : w5.cell? ⟨w.heap.size, 0, none⟩ = some (.slice a0 n0 c0) := (rA0.next bel).cell 0
 go_wp2_with fail
 refine (sigTo _ _ _ xs0 _ (s0.next bel) h0).mono ?_
 rintro e w6 ⟨gx0, rfl, ox0, yx0, bb⟩
 replace bel := next_trans bel bb
 replace belw := next_trans belw bb
 have zw6 := bb.size
 clear bb
 clear cA0
 have cA0 : w6.cell? ⟨w.heap.size, 0, none⟩ = some (.slice a0 n0 c0) := (rA0.next bel).cell 0
 have dA0 : (w6.alloc (.cells #[.slice (some ⟨gx0, 0, none⟩) n0 n0] 29)).cell? ⟨w.heap.size, 0, none⟩ = some (.slice a0 n0 c0) := ((rA0.next bel).alloc _).cell 0
 go_wp2_with fail
 obtain ⟨w7, hw⟩ : ∃ W, W = w6.alloc (.cells #[.slice (some ⟨gx0, 0, none⟩) n0 n0] 29) := ⟨_, rfl⟩
 rw [← hw]
 have rx0 : Row w7 w6.heap.size 29 #[.slice (some ⟨gx0, 0, none⟩) n0 n0] := by rw [hw]; exact Row.new _ _ _
 have bb : Below w6.heap.size w6 w7 := by rw [hw]; exact (Below.refl _ _).alloc (Nat.le_refl _) _
 have yrx0 : w6.heap.size < w7.heap.size := by rw [hw]; simp
 clear hw
 replace ox0 := ox0.next bb
 replace bel := next_trans bel bb
 replace belw := next_trans belw bb
 have zw7 := bb.size
 clear bb
 clear dA0
 clear cA0
 have cA0 : w7.cell? ⟨w.heap.size, 0, none⟩ = some (.slice a0 n0 c0) := (rA0.next bel).cell 0
 have cx0 : w7.cell? ⟨w6.heap.size, 0, none⟩ = some (.slice (some ⟨gx0, 0, none⟩) n0 n0) := (rx0).cell 0
 refine (intsTo _ _ _ xs1 _ (s1.next bel) h1).mono ?_
 rintro e w8 ⟨gx1, rfl, ox1, yx1, bb⟩
 replace ox0 := ox0.next bb
 replace rx0 := rx0.next bb
 replace bel := next_trans bel bb
 replace belw := next_trans belw bb
 have zw8 := bb.size
 clear bb
 clear cA0 cx0
 have cA0 : w8.cell? ⟨w.heap.size, 0, none⟩ = some (.slice a0 n0 c0) := (rA0.next bel).cell 0
 have cx0 : w8.cell? ⟨w6.heap.size, 0, none⟩ = some (.slice (some ⟨gx0, 0, none⟩) n0 n0) := (rx0).cell 0
 go_wp2_with fail
 refine (intsTo _ _ _ xs2 _ (s2.next bel) h2).mono ?_
 rintro e w9 ⟨gx2, rfl, ox2, yx2, bb⟩
 replace ox0 := ox0.next bb
 replace rx0 := rx0.next bb
 replace ox1 := ox1.next bb
 replace bel := next_trans bel bb
 replace belw := next_trans belw bb
 have zw9 := bb.size
 clear bb
 clear cA0 cx0
 have cA0 : w9.cell? ⟨w.heap.size, 0, none⟩ = some (.slice a0 n0 c0) := (rA0.next bel).cell 0
 have cx0 : w9.cell? ⟨w6.heap.size, 0, none⟩ = some (.slice (some ⟨gx0, 0, none⟩) n0 n0) := (rx0).cell 0
 go_wp2_with fail
 refine (implMetOfX _ _ _ _ _ _ _ _ _ xs0 xs1 xs2 _ ox0.rd ox1.rd ox2.rd h0 h1 h2 ⟨Nat.le_refl _, by omega, fun e => by cases e⟩ hU).mono ?_
 rintro e w10 ⟨A0, m0, d0, he, o0, bb⟩
 rw [HV.out] at he
 subst he
 replace ox0 := ox0.next bb
 replace rx0 := rx0.next bb
 replace ox1 := ox1.next bb
 replace ox2 := ox2.next bb
 replace bel := next_trans bel bb
 replace belw := next_trans belw bb
 have zw10 := bb.size
 clear bb
 rw [HY.out] at o0
 have og := Ownd.of_own o0
 clear o0
 obtain ⟨Ag, mg, dg, eA, em, ed⟩ : ∃ A m d, A = A0 ∧ m = m0 ∧ d = d0 := ⟨_, _, _, rfl, rfl, rfl⟩
 subst eA em ed
 clear cA0 cx0
 have cA0 : w10.cell? ⟨w.heap.size, 0, none⟩ = some (.slice a0 n0 c0) := (rA0.next bel).cell 0
 have cx0 : w10.cell? ⟨w6.heap.size, 0, none⟩ = some (.slice (some ⟨gx0, 0, none⟩) n0 n0) := (rx0).cell 0
 have hlenn : mg ≤ 1048576 := by rw [← og.rd.1]; exact hlen.out
 go_wp2_with fail
 refine (intsEq _ _ _ _ _ _ ys _ og.rd (sw.next belw) hlenn).mono ?_
 rintro e w11 ⟨rfl, bb⟩
 replace ox0 := ox0.next bb
 replace rx0 := rx0.next bb
 replace ox1 := ox1.next bb
 replace ox2 := ox2.next bb
 replace og := og.next bb
 replace bel := next_trans bel bb
 replace belw := next_trans belw bb
 have zw11 := bb.size
 clear bb
 clear cA0 cx0
 have cA0 : w11.cell? ⟨w.heap.size, 0, none⟩ = some (.slice a0 n0 c0) := (rA0.next bel).cell 0
 have cx0 : w11.cell? ⟨w6.heap.size, 0, none⟩ = some (.slice (some ⟨gx0, 0, none⟩) n0 n0) := (rx0).cell 0
 go_wp2_with fail
 replace ox0 := ox0.drew
 replace rx0 := rx0.drew
 replace ox1 := ox1.drew
 replace ox2 := ox2.drew
 replace og := og.drew
 replace bel := bel.drew
 replace belw := belw.drew
 have zdw11 := (drew_below w11).size
 go_region_held3 (fun w' => w'.cell? ⟨w6.heap.size, 0, none⟩ = some (.slice (some ⟨gx0, 0, none⟩) n0 n0) ∧ w'.cell? ⟨w.heap.size, 0, none⟩ = some (.slice a0 n0 c0))
  (go_keep)
  (first
   | (go_at_call 12; refine (sigTo _ _ _ xs0 _ (s0.next bel) h0).mono ?_; rintro e w12 ⟨gt0, rfl, ot, yt0, bb⟩; replace ox0 := ox0.next bb; replace rx0 := rx0.next bb; replace ox1 := ox1.next bb; replace ox2 := ox2.next bb; replace og := og.next bb; replace bel := next_trans bel bb; replace belw := next_trans belw bb; have k0w12 : w12.cell? ⟨w.heap.size, 0, none⟩ = some (.slice a0 n0 c0) := (rA0.next bel).cell 0; have l0w12 : w12.cell? ⟨w6.heap.size, 0, none⟩ = some (.slice (some ⟨gx0, 0, none⟩) n0 n0) := rx0.cell 0; have zqw12 := bb.size; clear bb)
   | (go_at_call 16; refine (sigEq _ _ _ _ _ _ xs0 _ ox0.rd ot.rd h0).mono ?_; rintro e w13 ⟨rfl, bb⟩; replace ox0 := ox0.next bb; replace rx0 := rx0.next bb; replace ox1 := ox1.next bb; replace ox2 := ox2.next bb; replace og := og.next bb; replace bel := next_trans bel bb; replace belw := next_trans belw bb; have k0w13 : w13.cell? ⟨w.heap.size, 0, none⟩ = some (.slice a0 n0 c0) := (rA0.next bel).cell 0; have l0w13 : w13.cell? ⟨w6.heap.size, 0, none⟩ = some (.slice (some ⟨gx0, 0, none⟩) n0 n0) := rx0.cell 0; have zqw13 := bb.size; clear bb ot))
 clear k0w12 l0w12 k0w13 l0w13
 clear cA0 cx0
 have cA0 : w13.cell? ⟨w.heap.size, 0, none⟩ = some (.slice a0 n0 c0) := (rA0.next bel).cell 0
 have cx0 : w13.cell? ⟨w6.heap.size, 0, none⟩ = some (.slice (some ⟨gx0, 0, none⟩) n0 n0) := (rx0).cell 0
 go_wp2_with fail
 refine (intsTo _ _ _ xs1 _ (s1.next bel) h1).mono ?_
 rintro e w14 ⟨gt1, rfl, ot1, yt1, bb⟩
 replace ox0 := ox0.next bb
 replace rx0 := rx0.next bb
 replace ox1 := ox1.next bb
 replace ox2 := ox2.next bb
 replace og := og.next bb
 replace bel := next_trans bel bb
 replace belw := next_trans belw bb
 have zw14 := bb.size
 clear bb
 clear cA0 cx0
 have cA0 : w14.cell? ⟨w.heap.size, 0, none⟩ = some (.slice a0 n0 c0) := (rA0.next bel).cell 0
 have cx0 : w14.cell? ⟨w6.heap.size, 0, none⟩ = some (.slice (some ⟨gx0, 0, none⟩) n0 n0) := (rx0).cell 0
 go_wp2_with fail
 refine (intsEq _ _ _ _ _ _ xs1 _ ox1.rd ot1.rd h1).mono ?_
 rintro e w15 ⟨rfl, bb⟩
 replace ox0 := ox0.next bb
 replace rx0 := rx0.next bb
 replace ox1 := ox1.next bb
 replace ox2 := ox2.next bb
 replace og := og.next bb
 replace ot1 := ot1.next bb
 replace bel := next_trans bel bb
 replace belw := next_trans belw bb
 have zw15 := bb.size
 clear bb
 clear ot1
 clear cA0 cx0
 have cA0 : w15.cell? ⟨w.heap.size, 0, none⟩ = some (.slice a0 n0 c0) := (rA0.next bel).cell 0
 have cx0 : w15.cell? ⟨w6.heap.size, 0, none⟩ = some (.slice (some ⟨gx0, 0, none⟩) n0 n0) := (rx0).cell 0
 go_wp2_with fail
 refine (intsTo _ _ _ xs2 _ (s2.next bel) h2).mono ?_
 rintro e w16 ⟨gt2, rfl, ot2, yt2, bb⟩
 replace ox0 := ox0.next bb
 replace rx0 := rx0.next bb
 replace ox1 := ox1.next bb
 replace ox2 := ox2.next bb
 replace og := og.next bb
 replace bel := next_trans bel bb
 replace belw := next_trans belw bb
 have zw16 := bb.size
 clear bb
 clear cA0 cx0
 have cA0 : w16.cell? ⟨w.heap.size, 0, none⟩ = some (.slice a0 n0 c0) := (rA0.next bel).cell 0
 have cx0 : w16.cell? ⟨w6.heap.size, 0, none⟩ = some (.slice (some ⟨gx0, 0, none⟩) n0 n0) := (rx0).cell 0
 go_wp2_with fail
 refine (intsEq _ _ _ _ _ _ xs2 _ ox2.rd ot2.rd h2).mono ?_
 rintro e w17 ⟨rfl, bb⟩
 replace ox0 := ox0.next bb
 replace rx0 := rx0.next bb
 replace ox1 := ox1.next bb
 replace ox2 := ox2.next bb
 replace og := og.next bb
 replace ot2 := ot2.next bb
 replace bel := next_trans bel bb
 replace belw := next_trans belw bb
 have zw17 := bb.size
 clear bb
 clear ot2
 clear cA0 cx0
 have cA0 : w17.cell? ⟨w.heap.size, 0, none⟩ = some (.slice a0 n0 c0) := (rA0.next bel).cell 0
 have cx0 : w17.cell? ⟨w6.heap.size, 0, none⟩ = some (.slice (some ⟨gx0, 0, none⟩) n0 n0) := (rx0).cell 0
 go_wp2_with fail
 refine (sigMark (w5.heap.size) (w6.heap.size) _ _ _ xs0 (1) _ ox0 h0 (by omega) (by omega)).mono ?_
 rintro e w18 ⟨he, -, bt⟩
 subst he
 clear ox0
 replace rx0 := Row.btw rx0 bt (by omega)
 replace ox1 := ox1.btw bt (by omega)
 replace ox2 := ox2.btw bt (by omega)
 replace og := og.btw bt (by omega)
 replace bel := Below.btw bel bt (by omega) bel.size
 replace belw := Below.btw belw bt (by omega) belw.size
 have zw18 := bt.size
 clear bt
 clear cA0 cx0
 have cA0 : w18.cell? ⟨w.heap.size, 0, none⟩ = some (.slice a0 n0 c0) := (rA0.next bel).cell 0
 have cx0 : w18.cell? ⟨w6.heap.size, 0, none⟩ = some (.slice (some ⟨gx0, 0, none⟩) n0 n0) := (rx0).cell 0
 go_wp2_with fail
 refine (intsMark (w7.heap.size) (w8.heap.size) _ _ _ xs1 (1 + (n0 : Int)) _ ox1 h1 (by omega) (by omega)).mono ?_
 rintro e w19 ⟨he, -, bt⟩
 subst he
 clear ox1
 replace rx0 := Row.btw rx0 bt (by omega)
 replace ox2 := ox2.btw bt (by omega)
 replace og := og.btw bt (by omega)
 replace bel := Below.btw bel bt (by omega) bel.size
 replace belw := Below.btw belw bt (by omega) belw.size
 have zw19 := bt.size
 clear bt
 clear cA0 cx0
 have cA0 : w19.cell? ⟨w.heap.size, 0, none⟩ = some (.slice a0 n0 c0) := (rA0.next bel).cell 0
 have cx0 : w19.cell? ⟨w6.heap.size, 0, none⟩ = some (.slice (some ⟨gx0, 0, none⟩) n0 n0) := (rx0).cell 0
 go_wp2_with fail
 refine (intsMark (w8.heap.size) (w9.heap.size) _ _ _ xs2 (1 + (n0 : Int) + (n1 : Int)) _ ox2 h2 (by omega) (by omega)).mono ?_
 rintro e w20 ⟨he, -, bt⟩
 subst he
 clear ox2
 replace rx0 := Row.btw rx0 bt (by omega)
 replace og := og.btw bt (by omega)
 replace bel := Below.btw bel bt (by omega) bel.size
 replace belw := Below.btw belw bt (by omega) belw.size
 have zw20 := bt.size
 clear bt
 clear cA0 cx0
 have cA0 : w20.cell? ⟨w.heap.size, 0, none⟩ = some (.slice a0 n0 c0) := (rA0.next bel).cell 0
 have cx0 : w20.cell? ⟨w6.heap.size, 0, none⟩ = some (.slice (some ⟨gx0, 0, none⟩) n0 n0) := (rx0).cell 0
 clear rx0
 clear cA0 cx0
 have cA0 : w20.cell? ⟨w.heap.size, 0, none⟩ = some (.slice a0 n0 c0) := (rA0.next bel).cell 0
 go_wp2_with fail
 refine (intsEq _ _ _ _ _ _ ys _ og.rd (sw.next belw) hlenn).mono ?_
 rintro e w21 ⟨rfl, bb⟩
 replace og := og.next bb
 replace bel := next_trans bel bb
 replace belw := next_trans belw bb
 have zw21 := bb.size
 clear bb
 clear cA0
 have cA0 : w21.cell? ⟨w.heap.size, 0, none⟩ = some (.slice a0 n0 c0) := (rA0.next bel).cell 0
 go_wp2_with fail
 refine (intsMark (w9.heap.size) (w10.heap.size) _ _ _ ys 1 _ og hlenn (by omega) (by omega)).mono ?_
 rintro e w22 ⟨he, om, bt⟩
 subst he
 clear og
 replace bel := Below.btw bel bt (by omega) bel.size
 replace belw := Below.btw belw bt (by omega) belw.size
 have zw22 := bt.size
 clear bt
 clear cA0
 have cA0 : w22.cell? ⟨w.heap.size, 0, none⟩ = some (.slice a0 n0 c0) := (rA0.next bel).cell 0
 go_wp2_with fail
 refine (intsHeld _ _ _ 1 _ om.rd hlenn (by omega) (by omega)).mono ?_
 rintro e w23 ⟨rfl, bb⟩
 replace om := om.next bb
 replace bel := next_trans bel bb
 replace belw := next_trans belw bb
 have zw23 := bb.size
 clear bb
 clear cA0
 have cA0 : w23.cell? ⟨w.heap.size, 0, none⟩ = some (.slice a0 n0 c0) := (rA0.next bel).cell 0
 go_wp2_with fail
 refine (sigTo _ _ _ xs0 _ (s0.next bel) h0).mono ?_
 rintro e w24 ⟨gp0, rfl, op0, yp0, bb⟩
 replace om := om.next bb
 replace bel := next_trans bel bb
 replace belw := next_trans belw bb
 have zw24 := bb.size
 clear bb
 clear cA0
 have cA0 : w24.cell? ⟨w.heap.size, 0, none⟩ = some (.slice a0 n0 c0) := (rA0.next bel).cell 0
 go_wp2_with fail
 refine (intsTo _ _ _ xs1 _ (s1.next bel) h1).mono ?_
 rintro e w25 ⟨gp1, rfl, op1, yp1, bb⟩
 replace om := om.next bb
 replace op0 := op0.next bb
 replace bel := next_trans bel bb
 replace belw := next_trans belw bb
 have zw25 := bb.size
 clear bb
 clear cA0
 have cA0 : w25.cell? ⟨w.heap.size, 0, none⟩ = some (.slice a0 n0 c0) := (rA0.next bel).cell 0
 go_wp2_with fail
 refine (intsTo _ _ _ xs2 _ (s2.next bel) h2).mono ?_
 rintro e w26 ⟨gp2, rfl, op2, yp2, bb⟩
 replace om := om.next bb
 replace op0 := op0.next bb
 replace op1 := op1.next bb
 replace bel := next_trans bel bb
 replace belw := next_trans belw bb
 have zw26 := bb.size
 clear bb
 clear cA0
 have cA0 : w26.cell? ⟨w.heap.size, 0, none⟩ = some (.slice a0 n0 c0) := (rA0.next bel).cell 0
 go_wp2_with fail
 refine (implMetOfX _ _ _ _ _ _ _ _ _ xs0 xs1 xs2 _ op0.rd op1.rd op2.rd h0 h1 h2 ⟨Nat.le_refl _, by omega, fun e => by cases e⟩ hU).mono ?_
 rintro e w27 ⟨A0, m0, d0, he, o0, bb⟩
 rw [HV.out] at he
 subst he
 replace om := om.next bb
 replace op0 := op0.next bb
 replace op1 := op1.next bb
 replace op2 := op2.next bb
 replace bel := next_trans bel bb
 replace belw := next_trans belw bb
 have zw27 := bb.size
 clear bb
 rw [HY.out] at o0
 have sh := Own.seg o0
 clear o0
 clear op0 op1 op2
 clear cA0
 have cA0 : w27.cell? ⟨w.heap.size, 0, none⟩ = some (.slice a0 n0 c0) := (rA0.next bel).cell 0
 obtain ⟨Ah, mh, dh, eA, em, ed⟩ : ∃ A m d, A = A0 ∧ m = m0 ∧ d = d0 := ⟨_, _, _, rfl, rfl, rfl⟩
 subst eA em ed
 have belh := Below.refl w27.heap.size w27
 clear cA0
 have cA0 : w27.cell? ⟨w.heap.size, 0, none⟩ = some (.slice a0 n0 c0) := (rA0.next bel).cell 0
 go_wp2_with fail
 refine (intsEq _ _ _ _ _ _ ys _ (sh.next belh) (sw.next belw) (by rw [← sh.1]; exact hlen.out)).mono ?_
 rintro e w28 ⟨rfl, bb⟩
 replace om := om.next bb
 replace bel := next_trans bel bb
 replace belw := next_trans belw bb
 replace belh := next_trans belh bb
 have zw28 := bb.size
 clear bb
 clear cA0
 have cA0 : w28.cell? ⟨w.heap.size, 0, none⟩ = some (.slice a0 n0 c0) := (rA0.next bel).cell 0
 go_wp2_with fail
 refine (intsHeld _ _ _ 1 _ om.rd hlenn (by omega) (by omega)).mono ?_
 rintro e w29 ⟨rfl, bb⟩
 replace om := om.next bb
 replace bel := next_trans bel bb
 replace belw := next_trans belw bb
 replace belh := next_trans belh bb
 have zw29 := bb.size
 clear bb
 clear cA0
 have cA0 : w29.cell? ⟨w.heap.size, 0, none⟩ = some (.slice a0 n0 c0) := (rA0.next bel).cell 0
 have F := hid (bW.trans (bel.mono bW.size))
 clear bel belw belh om bW cA0
 go_wp2
 go_ret
 exact ⟨rfl, F.out⟩
end wMetOf
end
end Go.Proofs.Ytobedfmagjgdcaa
