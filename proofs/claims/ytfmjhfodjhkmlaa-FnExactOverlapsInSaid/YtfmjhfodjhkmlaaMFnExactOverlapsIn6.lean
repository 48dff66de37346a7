/-
  MERGED: my texts FinImpl, WalkSpec, WalkSpecB, StepImplC, WalkImpl, PeakMay, WholeUn, OvAt, OverSpec, OvsMath, PeakImpl, one behind the other, as they are. By an AI agent.
-/
import Derived.Test.YtfmjhfodjhkmlaaMFnExactOverlapsIn5
import Derived.Deep.RegionHeld3
namespace Go.Proofs.Ytfmjhfodjhkmlaa
section
open Go.Lib (hid)
namespace finImpl
open Go.RowKit base ints sig term cursor args sym marks app appAt segs kinds shape drawX fillMath forest triMath unifMath ufMath nodes ovImpl linkImpl finMath doneMap
set_option maxRecDepth 100000
theorem Ov.grown {w w' : World} {Q : Nat → Prop} {p lb b : Nat} {A : Option Addr} {n c : Nat} {v : Value} {o a u : Int} {X : Option Addr} {xn xc lc : Nat} {sg nums : List Int} {lk : List Nat} (h : Ov w Q p lb A n c v o a u X xn xc lc sg nums lk) (hg : w.grownBy w' (some b)) (h1 : b ≠ p) (h2 : b ≠ lb) (h3 : ∀ z, Q z → z ≠ b) : Ov w' Q p lb A n c v o a u X xn xc lc sg nums lk := by
 obtain ⟨cur, r, l1, l2⟩ := h.lk
 have hk : ∀ z, Q z → w'.heap[z]? = w.heap[z]? := fun z hz => hg.block z (h.q z hz).2.2 (fun e => by injection e with e; exact h3 z hz e)
 exact ⟨marks.Row.away h.row hg (fun e => by injection e with e; exact h1 e), h.sg.keep hk, h.nm.keep hk, ⟨cur, marks.Row.away r hg (fun e => by injection e with e; exact h2 e), l1, l2⟩, h.ne, fun z hz => ⟨(h.q z hz).1, (h.q z hz).2.1, Nat.lt_of_lt_of_le (h.q z hz).2.2 hg.size⟩⟩
def AnsFin (w : World) (n b : Nat) (rt : Nat → Nat) (nm : Nat → Int) (ch : Nat → List Nat) (tu : Prop) (D S : List Nat) (F : Int → Option Bool) (nn x : Nat) (e : Ending) (w' : World) : Prop :=
 ∃ ok : Bool, e = .returned (.bool ok) ∧ w.grownBy w' (some b) ∧
  (ok = true → ∃ E nn' F', Dn w' b nn' F' ∧ nn' + 2 * Ct n rt F' ≤ nn + 2 * Ct n rt F ∧ Ct n rt F' ≤ Ct n rt F ∧ Mk n F' (D ++ E) S ∧ ufMath.Good n nm ch rt (D ++ E) ∧ rt x ∈ D ++ E) ∧ (ok = false → tu)
def HeadFin (w : World) (Q : Nat → Prop) (p lb : Nat) (A : Option Addr) (n c : Nat) (v : Value) (o a u : Int) (X : Option Addr) (xn xc lc : Nat) (sg nums : List Int) (lk : List Nat) (b : Nat) (rt : Nat → Nat) (D S : List Nat) (C1 N1 r : Nat) (Y : Option Addr) (yn yc : Nat) (k : Nat) (wr : World) : Prop :=
 ∃ (E : List Nat) (F : Int → Option Bool) (nn : Nat), Ov wr Q p lb A n c v o a u X xn xc lc sg nums lk ∧ Dn wr b nn F ∧ nn + 2 * Ct xn rt F ≤ N1 ∧ Ct xn rt F ≤ C1 ∧ Mk xn F (D ++ E) (r :: S) ∧ ufMath.Good xn (fun i => nums.getD i 0) (chN sg nums) rt (D ++ E) ∧
  (∀ j, j < k → rt ((chN sg nums r).getD j 0) ∈ D ++ E) ∧ Own wr (w.heap.size) (.slice Y yn yc) (argsL sg nums r) ∧ w.grownBy wr (some b)
theorem ch_var {sg nums : List Int} {r : Nat} (h : nums.getD r 0 < 0) : chN sg nums r = [] := by
 unfold chN argsL
 have h1 : (ar sg (nums.getD r 0)).toNat = 0 := by
  unfold ar
  split
  ·rfl
  ·split
   ·omega
   ·rfl
 rw [h1]
 rfl
set_option maxHeartbeats 4000000 in
theorem isFinite (Q : Nat → Prop) (p lb : Nat) (A : Option Addr) (n c : Nat) (v : Value) (o a u : Int) (X : Option Addr) (xn xc lc : Nat) (sg nums nums' : List Int) (Inn : Nat → Prop) (ra ru : Nat) (hN : Nd sg nums nums' xn Inn ra ru) (hs : Arities sg) (hn : n ≤ 1048576) (hxn : xn ≤ 1000) (lk : List Nat) (rt rk : Nat → Nat)
  (hL : Lk xn (fun i => nums.getD i 0) (nodes.nd sg nums nums') Inn lk rt rk) (hS : Snd sg xn (nodes.nd sg nums nums') ra ru rt) (b : Nat) (hb1 : b ≠ p) (hb2 : b ≠ lb) (hb3 : ∀ z, Q z → z ≠ b) :
  ∀ (m : Nat) (D S : List Nat) (F : Int → Option Bool) (nn x : Nat) (w : World), Ct xn rt F < m → Ov w Q p lb A n c v o a u X xn xc lc sg nums lk → Dn w b nn F → nn + 2 * Ct xn rt F ≤ 4000 → Mk xn F D S → ufMath.Good xn (fun i => nums.getD i 0) (chN sg nums) rt D → x < xn → (∃ q, q < xn ∧ Inn q ∧ rt q = rt x) →
   (∀ r ∈ S, ∀ θ, Unis sg (nodes.nd sg nums nums' ra) (nodes.nd sg nums nums' ru) θ → (fillL θ (nodes.nd sg nums nums' (rt x))).length < (fillL θ (nodes.nd sg nums nums' r)).length) →
  Calls Try.prog 70 #[.pointer (some ⟨p, 0, none⟩), .int .i64 (x : Int), .map (some b)] w (AnsFin w xn b rt (fun i => nums.getD i 0) (chN sg nums) (∀ θ, ¬ Unis sg (nodes.nd sg nums nums' ra) (nodes.nd sg nums nums' ru) θ) D S F nn x)
 | 0, _, _, _, _, _, _, h, _, _, _, _, _, _, _, _ => absurd h (Nat.not_lt_zero _)
 | m + 1, D, S, F, nn, x, w, hm, hO, hD, hnn, hM, hG, hx, hi, hless => by
  obtain ⟨hr1, hr2⟩ := hL.root x hx
  have hrn := (hL.lt x hx).2
  obtain ⟨r, hr⟩ : ∃ r, rt x = r := ⟨_, rfl⟩
  rw [hr] at hr1 hr2 hrn
  have LF := hid (find Q p lb A n c v o a u X xn xc lc sg nums lk x w hO hL hx)
  have HR := hid hr
  have hr64 : In64 (r : Int) := ⟨by omega, by omega⟩
  have HD := hid hD
  cases hF : F (r : Int) with
  | some z =>
   cases z with
   | true =>
    have FF := hid (show AnsFin w xn b rt (fun i => nums.getD i 0) (chN sg nums) (∀ θ, ¬ Unis sg (nodes.nd sg nums nums' ra) (nodes.nd sg nums nums' ru) θ) D S F nn x (.returned (.bool true)) w from
     ⟨true, rfl, World.grownBy.refl w _, fun _ => ⟨[], nn, F, hD, Nat.le_refl _, Nat.le_refl _, by rw [List.append_nil]; exact hM, by rw [List.append_nil]; exact hG, by rw [List.append_nil, HR.out]; exact (hM.t r hrn).1 hF⟩, fun h => by cases h⟩)
    have HF := hid hF
    clear hF hM hG hless hi hO hm hnn hD hr hS hL hr1 hr2
    go_enter Try.func70, Try.ntmps70
    go_wp2_with fail
    refine LF.out.mono ?_
    rintro e w1 ⟨rfl, hw⟩
    rw [hw, HR.out]
    clear LF hw
    go_wp2_with (at_lookup; refine dn_look rfl _ _ rfl b nn F rfl HD.out (r : Int) hr64 rfl ?_; rw [HF.out])
    go_ret
    exact FF.out
   | false =>
    have FF := hid (show AnsFin w xn b rt (fun i => nums.getD i 0) (chN sg nums) (∀ θ, ¬ Unis sg (nodes.nd sg nums nums' ra) (nodes.nd sg nums nums' ru) θ) D S F nn x (.returned (.bool false)) w from
     ⟨false, rfl, World.grownBy.refl w _, fun h => (by cases h), fun _ θ hθ => absurd (hless r ((hM.f r hrn).1 hF) θ hθ) (by rw [HR.out]; exact Nat.lt_irrefl _)⟩)
    have HF := hid hF
    clear hF hM hG hless hi hO hm hnn hD hr hS hL hr1 hr2
    go_enter Try.func70, Try.ntmps70
    go_wp2_with fail
    refine LF.out.mono ?_
    rintro e w1 ⟨rfl, hw⟩
    rw [hw, HR.out]
    clear LF hw
    go_wp2_with (at_lookup; refine dn_look rfl _ _ rfl b nn F rfl HD.out (r : Int) hr64 rfl ?_; rw [HF.out])
    go_ret
    exact FF.out
  | none =>
   have hC := ct_new hrn hr2 hF false
   obtain ⟨js, hjs⟩ := hN.sc r hrn
   have HNR := hid (hM.none hrn hF)
   have LA := hid (fun (wx : World) (hOx : Ov wx Q p lb A n c v o a u X xn xc lc sg nums lk) => ovArgs Q p lb A n c v o a u X xn xc lc sg nums lk r js wx hOx hs hn (by omega) hrn hjs)
   have HCH := hid (show ∀ k, k < (chN sg nums r).length → (chN sg nums r).getD k 0 < xn ∧ (∃ q, q < xn ∧ Inn q ∧ rt q = rt ((chN sg nums r).getD k 0)) ∧ ∀ s ∈ r :: S, ∀ θ, Unis sg (nodes.nd sg nums nums' ra) (nodes.nd sg nums nums' ru) θ → (fillL θ (nodes.nd sg nums nums' (rt ((chN sg nums r).getD k 0)))).length < (fillL θ (nodes.nd sg nums nums' s)).length from fun k hk => by
    have h0 : 0 ≤ nums.getD r 0 := by
     refine Int.not_lt.1 fun h9 => ?_
     rw [ch_var h9] at hk
     exact absurd hk (Nat.not_lt_zero _)
    have hmem : (chN sg nums r).getD k 0 ∈ chN sg nums r := by
     rw [List.getD, List.getElem?_eq_getElem hk, Option.getD_some]
     exact List.getElem_mem _
    have hcx := hN.gr.lt r hrn h0 _ hmem
    have hci := hN.gr.inn r hrn h0 (root_inn hL hrn h0 hr2 (by obtain ⟨q, h1, h2, h3⟩ := hi; exact ⟨q, h1, h2, h3.trans HR.out⟩)) _ hmem
    refine ⟨hcx, ⟨_, hcx, hci, rfl⟩, fun s hs' θ hθ => ?_⟩
    have h2 := hN.gr.less hrn h0 hθ.1 hmem
    rw [← hS θ hθ _ hcx]
    rcases List.mem_cons.1 hs' with e | e
    ·rw [e]; exact h2
    ·have h3 := hless s e θ hθ
     rw [HR.out] at h3
     omega)
   have HF := hid hF
   have HO := hid hO
   have HM := hid hM
   have HG := hid hG
   have IH := hid (fun D' S' F' nn' x' w' => isFinite Q p lb A n c v o a u X xn xc lc sg nums nums' Inn ra ru hN hs hn hxn lk rt rk hL hS b hb1 hb2 hb3 m D' S' F' nn' x' w')
   have HB := hid (And.intro hb1 (And.intro hb2 hb3))
   have HR2 := hid hr2
   have HAL := hid (show (argsL sg nums r).length = (chN sg nums r).length by rw [args_cast, List.length_map])
   have HAK := hid (show ∀ k, k < (chN sg nums r).length → (argsL sg nums r).getD k 0 = (((chN sg nums r).getD k 0 : Nat) : Int) from fun k hk => by rw [args_cast, List.getD, List.getD, List.getElem?_map, List.getElem?_eq_getElem hk]; rfl)
   clear hF hM hG hless hi hO hD hr hS hL hr1 hr2 hN hjs hb1 hb2 hb3
   go_enter Try.func70, Try.ntmps70
   go_wp2_with fail
   refine LF.out.mono ?_
   rintro e w1 ⟨rfl, hw⟩
   rw [hw, HR.out]
   clear LF hw
   go_wp2_with (at_lookup; refine dn_look rfl _ _ rfl b nn F rfl HD.out (r : Int) hr64 rfl ?_; rw [HF.out]; refine (?_ : Hid _).out)
   refine hid ?_
   go_wp2_with (at_mapUpdate; refine dn_put rfl _ _ _ rfl b nn F rfl HD.out (by omega) (r : Int) hr64 false rfl rfl ?_; intro w2 hD2 g2; refine (?_ : Hid _).out)
   have O2 := Ov.grown HO.out g2 HB.out.1 HB.out.2.1 HB.out.2.2
   have L2 := hid (LA.out w2 O2)
   have hs2 := g2.size
   clear LA
   refine hid ?_
   go_wp2_with fail
   refine L2.out.mono ?_
   rintro e w3 ⟨Y, yn, yc, rfl, oY, b3⟩
   have hyn : yn = (chN sg nums r).length := by rw [← HAL.out]; exact Own.len oY
   have S0 := hid (show HeadFin w Q p lb A n c v o a u X xn xc lc sg nums lk b rt D S (Ct xn rt (putF F (r : Int) false)) (nn + 1 + 2 * Ct xn rt (putF F (r : Int) false)) r Y yn yc 0 w3 from
    ⟨[], putF F (r : Int) false, nn + 1, O2.next b3, hD2.below b3, by omega, Nat.le_refl _, by rw [List.append_nil]; exact HM.out.open_ hrn HF.out, by rw [List.append_nil]; exact HG.out, fun j hj => absurd hj (Nat.not_lt_zero j), Own.lower oY hs2, grown_trans g2 (grown_below b3 _)⟩)
   have HYN := hid hyn
   have hy3 : yn ≤ 3 := by have h9 := argsL_len (t := nums) hs r; have := Own.len oY; omega
   clear oY b3 O2 L2 hD2 g2 hyn
   go_wp2_with fail
   go_loopg [28] yn (fun g i wr => ∃ k : Nat, i = .int .i64 (k : Int) ∧ k + g = yn ∧ HeadFin w Q p lb A n c v o a u X xn xc lc sg nums lk b rt D S (Ct xn rt (putF F (r : Int) false)) (nn + 1 + 2 * Ct xn rt (putF F (r : Int) false)) r Y yn yc k wr)
   case atStart => exact ⟨0, rfl, by omega, S0.out⟩
   case round =>
    clear S0
    obtain ⟨k, rfl, hkg, E, F1, n1, O1, D1, hn1, hC1, M1, G1, hdone, oY, g1⟩ := hrel
    have HK := hid hkg
    clear hkg
    by_cases hk : k < yn
    ·have hkc : k < (chN sg nums r).length := by rw [← HYN.out]; exact hk
     obtain ⟨hcx, hci, hcl⟩ := HCH.out k hkc
     obtain ⟨b', off', rfl, hbb, hcell⟩ := (Own.seg oY).round hk
     rw [HAK.out k hkc] at hcell
     have LI := hid (IH.out (D ++ E) (r :: S) F1 n1 ((chN sg nums r).getD k 0) wr (by omega) O1 D1 (by omega) M1 G1 hcx hci hcl)
     have HS := hid (And.intro O1 (And.intro oY (And.intro g1 hdone)))
     obtain ⟨cc, hcc⟩ : ∃ cc, (chN sg nums r).getD k 0 = cc := ⟨_, rfl⟩
     rw [hcc] at hcell LI
     have HCC := hid hcc
     have i0 : (0 : Int) ≤ (k : Int) := by omega
     have i1 : (k : Int) < (yn : Int) := by omega
     clear O1 D1 M1 G1 hdone oY g1 hci hcl hcc
     go_wp2_with fail
     refine LI.out.mono ?_
     rintro e w4 ⟨ok, rfl, g4, hyes, hno⟩
     obtain ⟨O1, oY, g1, hdone⟩ := HS.out
     cases ok with
     | false =>
      have FF := hid (show AnsFin w xn b rt (fun i => nums.getD i 0) (chN sg nums) (∀ θ, ¬ Unis sg (nodes.nd sg nums nums' ra) (nodes.nd sg nums nums' ru) θ) D S F nn x (.returned (.bool false)) w4 from ⟨false, rfl, grown_trans g1 g4, fun h => (by cases h), fun _ => hno rfl⟩)
      clear O1 oY g1 hdone g4 hyes hno LI HS
      go_wp2
      go_ret
      exact FF.out
     | true =>
      obtain ⟨E2, n2, F2, D2, hn2, hC2, M2, G2, hx2⟩ := hyes rfl
      have S2 := hid (show HeadFin w Q p lb A n c v o a u X xn xc lc sg nums lk b rt D S (Ct xn rt (putF F (r : Int) false)) (nn + 1 + 2 * Ct xn rt (putF F (r : Int) false)) r (some ⟨b', off', none⟩) yn yc (k + 1) w4 from
       ⟨E ++ E2, F2, n2, Ov.grown O1 g4 HB.out.1 HB.out.2.1 HB.out.2.2, D2, by omega, by omega, by rw [← List.append_assoc]; exact M2, by rw [← List.append_assoc]; exact G2, fun j hj => by
        rw [← List.append_assoc]
        by_cases e : j = k
        ·subst e; rw [HCC.out]; exact hx2
        ·exact List.mem_append_left _ (hdone j (by omega)), Own.far oY g4 (fun z e => by injection e with e; rw [← e]; exact HD.out.lt), grown_trans g1 g4⟩)
      clear O1 oY g1 hdone g4 hyes hno LI HS D2 M2 G2 hx2
      go_wp2
      go_roundg (gk - 1)
      case measure => have := HK.out; omega
      case rel => exact ⟨k + 1, by simp, by have := HK.out; omega, S2.out⟩
    ·have i1 : ¬ (k : Int) < (yn : Int) := by omega
     have hbz : b < wr.heap.size := D1.lt
     have HC1 := hid (And.intro M1 (And.intro G1 (And.intro hdone (And.intro g1 (And.intro hn1 hC1)))))
     clear M1 G1 hdone oY g1
     go_wp2_with (at_mapUpdate; refine dn_put rfl _ _ _ rfl b n1 F1 rfl D1 (by omega) (r : Int) hr64 true rfl rfl ?_; intro w5 D5 g5; refine (?_ : Hid _).out)
     obtain ⟨M1, G1, hdone, g1, hn1, hC1⟩ := HC1.out
     have hFr : F1 (r : Int) = some false := (M1.f r hrn).2 (List.mem_cons_self ..)
     have hCo := ct_old (n := xn) (rt := rt) (r := r) (F := F1) (by rw [hFr]; rfl) true
     have FF := hid (show AnsFin w xn b rt (fun i => nums.getD i 0) (chN sg nums) (∀ θ, ¬ Unis sg (nodes.nd sg nums nums' ra) (nodes.nd sg nums nums' ru) θ) D S F nn x (.returned (.bool true)) w5 from
      ⟨true, rfl, grown_trans g1 g5, fun _ => ⟨E ++ [r], n1 + 1, putF F1 (r : Int) true, D5, by omega, by omega, by rw [← List.append_assoc]; exact M1.close_ hrn HNR.out.2, by
       rw [← List.append_assoc]
       refine G1.snoc hrn HR2.out fun _ ch hch => ?_
       obtain ⟨j, hj, e⟩ := List.mem_iff_getElem.1 hch
       have h9 := hdone j (by have := HYN.out; have := HK.out; omega)
       rw [List.getD, List.getElem?_eq_getElem hj, Option.getD_some, e] at h9
       exact h9, by rw [HR.out]; simp⟩, fun h => by cases h⟩)
     clear M1 G1 hdone g1 D5 g5 HC1 D1
     refine hid ?_
     go_wp2
     go_ret
     exact FF.out
end finImpl
end
section
namespace walkSpec
open Go.RowKit base ints sig term termOk endAt endOf marks app sym sub segs segsHelp kinds termFacts same shifted shape kindsR kindsW varsOf ruleMath ruleSpec stepMath walkMath stepSpec
set_option maxRecDepth 100000
end walkSpec
end
section
namespace walkSpec
open Go.RowKit base ints sig term termOk endAt endOf marks app sym sub segs segsHelp kinds termFacts same shifted shape kindsR kindsW varsOf ruleMath ruleSpec stepMath walkMath stepSpec ownL heldT
set_option maxRecDepth 100000
end walkSpec
end
section
namespace stepImpl
open Go.RowKit base ints sig term termOk endAt inside marks app sym sub segs segsHelp kinds termFacts matchMath whole takeMath take extended varsOf shape kindsR ruleMath ruleSpec ruleImpl stepMath walkMath stepSpec
set_option maxRecDepth 100000
theorem hasRule (a : Value) (V : Option Addr) (q cv : Nat) (r : Int) (w : World) (hq : q ≤ 1048576) :
  Calls Try.prog 84 #[.agg #[a, .slice V q cv], .int .i64 r] w (AnsB w (walkMath.inB r q)) := by
 obtain ⟨W, hW, rA, bel⟩ := box1 w 64 #[a, .slice V q cv]
 have HW := Lib.hid hW
 have R := Lib.hid rA
 have FF := Lib.hid (fun (b : Bool) (h : walkMath.inB r q = b) => (ansB (b := walkMath.inB r q) (a := b) h.symm bel))
 clear hW rA bel
 by_cases h0 : r < 0
 ·have F := Lib.hid (FF.out false (by unfold walkMath.inB; exact decide_eq_false (by omega)))
  go_enter Try.func84, Try.ntmps84
  go_wp2_with fail
  try rw [← HW.out]
  go_wp2
  go_ret
  exact F.out
 ·by_cases h1 : r < (q : Int)
  ·have F := Lib.hid (FF.out true (by unfold walkMath.inB; exact decide_eq_true (by omega)))
   have h0' : (0 : Int) ≤ r := by omega
   have K1 : (w.alloc (.cells #[a, .slice V q cv] 64)).cell? ⟨w.heap.size, 1, none⟩ = some (.slice V q cv) := by rw [← HW.out]; exact R.out.cell 1
   go_enter Try.func84, Try.ntmps84
   go_wp2
   rw [← HW.out]
   go_ret
   exact F.out
  ·have F := Lib.hid (FF.out false (by unfold walkMath.inB; exact decide_eq_false (by omega)))
   have h0' : (0 : Int) ≤ r := by omega
   have K1 : (w.alloc (.cells #[a, .slice V q cv] 64)).cell? ⟨w.heap.size, 1, none⟩ = some (.slice V q cv) := by rw [← HW.out]; exact R.out.cell 1
   go_enter Try.func84, Try.ntmps84
   go_wp2
   rw [← HW.out]
   go_ret
   exact F.out
end stepImpl
end
section
namespace walkImpl
open Go.RowKit base ints sig term termOk endAt endOf marks app sym sub segs segsHelp kinds termFacts same shifted shape kindsR kindsW varsOf ruleMath ruleSpec ruleImpl stepMath walkMath stepSpec stepImpl walkSpec
set_option maxRecDepth 100000
end walkImpl
end
section
open Go.Lib (hid)
open List (setIfInBounds_toArray set_cons_zero set_cons_succ getElem_toArray getElem_cons_zero getElem_cons_succ)
namespace peakImpl
open Go.RowKit heldT base ints sig term termOk endAt marks app sym pathSpec wayTo place segs segsHelp kinds termFacts same shape kindsR kindsW kindsP varsOf ruleMath ruleSpec ruleImpl stepMath walkMath stepSpec stepImpl walkSpec walkImpl peakMath peakSame
set_option maxRecDepth 100000
set_option maxHeartbeats 8000000 in
theorem mayOverlap (a v : Value) (d : Dat sSystem) (o x u : Int) (w : World) (h : Rd w w.heap.size sSystem [a, v] d) (hz : sz sSystem d ≤ 1048576) (hl : ∀ k, k < d.2.length → termOkB d.1 (d.2.getD k ([], [])).1 = true) :
  Calls Try.prog 66 #[.agg #[a, v], .int .i64 o, .int .i64 x, .int .i64 u] w (AnsB w (mayB d.2 o x u)) := by
 obtain ⟨A, n, cs, V, q, cv, rfl, rfl, hs, hc, hcv, hq, hn, hq1, hrs, hsg, hE⟩ := rd_sys h hz
 obtain ⟨W, hW, rA, bel⟩ := box1 w 64 #[.slice A n cs, .slice V q cv]
 have HW := hid hW
 have HQ := hid hq
 have BEL := hid bel
 have ZA : w.heap.size < W.heap.size := rA.lt
 have K0 : W.cell? ⟨w.heap.size, 0, none⟩ = some (.slice A n cs) := rA.cell 0
 have K1 : W.cell? ⟨w.heap.size, 1, none⟩ = some (.slice V q cv) := rA.cell 1
 have LH1 := hid (hasRule (.slice A n cs) V q cv o W.drew hq1)
 have LH2 := hid (fun (w1 : World) => hasRule (.slice A n cs) V q cv u w1 hq1)
 clear hW rA h hz hc hcv
 obtain ⟨b1, hb1⟩ : ∃ z, walkMath.inB o q = z := ⟨_, rfl⟩
 obtain ⟨b2, hb2⟩ : ∃ z, walkMath.inB u q = z := ⟨_, rfl⟩
 rw [hb1] at LH1
 simp only [hb2] at LH2
 cases b1 with
 | false =>
  have HF := hid (show mayB d.2 o x u = false from may_no1 (by rw [hq]; exact hb1))
  clear hb1 hb2 hl hs hq hrs hsg hE bel
  go_enter Try.func66, Try.ntmps66
  go_upto_region 1 with fail
  rw [← HW.out]
  refine AnyT.start (S := (fun w' => w'.cell? ⟨w.heap.size, 0, none⟩ = some (.slice A n cs) ∧ w'.cell? ⟨w.heap.size, 1, none⟩ = some (.slice V q cv))) (fun _ => false) (by kernel_rfl) ⟨K0, K1⟩ (fun hHeld => ?_)
  refine AnyT.take (i := 0) (v := ?_) rfl (by kernel_rfl) (by kernel_rfl) (by kernel_rfl) (by kernel_rfl) (fun _ _ _ h => h) (Or.inl ⟨by rfl, ?_⟩) (by assumption) ?_
  rotate_left 1
  ·(intro w0 hSw; (try dsimp only at hSw); go_simp; try with_reducible rfl)
  try simp only [Act.put, setIfInBounds_toArray, set_cons_zero, set_cons_succ, getElem_toArray, getElem_cons_zero, getElem_cons_succ]
  refine AnyT.takeA (i := 1) (v := ?_) rfl (by kernel_rfl) (by kernel_rfl) (by kernel_rfl) (fun _ _ _ h => h) (Or.inl ⟨by rfl, ?_⟩) ?_
  rotate_left 1
  ·(intro w0 _; go_simp; try with_reducible rfl)
  try simp only [Act.put, setIfInBounds_toArray, set_cons_zero, set_cons_succ, getElem_toArray, getElem_cons_zero, getElem_cons_succ]
  refine AnyT.call (i := 2) (by kernel_rfl) rfl (fun K hK => ?_)
  try simp only [Act.put, setIfInBounds_toArray, set_cons_zero, set_cons_succ, getElem_toArray, getElem_cons_zero, getElem_cons_succ]
  rw [if_pos (by rfl)]
  go_simp
  (go_at_call 84; refine LH1.out.mono ?_; rintro e v1 ⟨rfl, b1⟩; have Bv1 : Below W.heap.size W v1 := next_trans (Below.refl W.heap.size W).drew b1; have hv1_0 : v1.cell? ⟨w.heap.size, 0, none⟩ = some (.slice A n cs) := (Bv1.cell (p := ⟨w.heap.size, 0, none⟩) ZA).trans K0; have hv1_1 : v1.cell? ⟨w.heap.size, 1, none⟩ = some (.slice V q cv) := (Bv1.cell (p := ⟨w.heap.size, 1, none⟩) ZA).trans K1; go_wp2_with fail)
  refine hK.out _ _ (fun _ _ => ?_) (fun hKeep => ?_)
  ·exact ⟨hv1_0, hv1_1⟩
  replace hHeld := hKeep (by first | rfl | trivial) hHeld
  clear hK K hKeep
  try simp only [Act.put, setIfInBounds_toArray, set_cons_zero, set_cons_succ, getElem_toArray, getElem_cons_zero, getElem_cons_succ]
  refine AnyT.takeA (i := 3) (v := ?_) rfl (by kernel_rfl) (by kernel_rfl) (by kernel_rfl) (fun _ _ _ h => h) (Or.inl ⟨by rfl, ?_⟩) ?_
  rotate_left 1
  ·(intro w0 _; go_simp; try with_reducible rfl)
  try simp only [Act.put, setIfInBounds_toArray, set_cons_zero, set_cons_succ, getElem_toArray, getElem_cons_zero, getElem_cons_succ]
  refine AnyT.takeA (i := 4) (v := undef) rfl (by kernel_rfl) (by kernel_rfl) (by kernel_rfl) (fun _ _ _ h => h) (Or.inr ⟨by rfl, rfl⟩) ?_
  try simp only [Act.put, setIfInBounds_toArray, set_cons_zero, set_cons_succ, getElem_toArray, getElem_cons_zero, getElem_cons_succ]
  refine AnyT.takeA (i := 5) (v := undef) rfl (by kernel_rfl) (by kernel_rfl) (by kernel_rfl) (fun _ _ _ h => h) (Or.inr ⟨by rfl, rfl⟩) ?_
  try simp only [Act.put, setIfInBounds_toArray, set_cons_zero, set_cons_succ, getElem_toArray, getElem_cons_zero, getElem_cons_succ]
  refine AnyT.call (i := 6) (by kernel_rfl) rfl (fun K hK => ?_)
  try simp only [Act.put, setIfInBounds_toArray, set_cons_zero, set_cons_succ, getElem_toArray, getElem_cons_zero, getElem_cons_succ]
  rw [if_neg (by intro h; cases h)]
  refine hK.out _ _ (fun _ h => h) (fun _ => ?_)
  clear hK K
  try simp only [Act.put, setIfInBounds_toArray, set_cons_zero, set_cons_succ, getElem_toArray, getElem_cons_zero, getElem_cons_succ]
  refine AnyT.takeA (i := 7) (v := ?_) rfl (by kernel_rfl) (by kernel_rfl) (by kernel_rfl) (fun _ _ _ h => h) (Or.inl ⟨by rfl, ?_⟩) ?_
  rotate_left 1
  ·(intro w0 _; go_simp; try with_reducible rfl)
  try simp only [Act.put, setIfInBounds_toArray, set_cons_zero, set_cons_succ, getElem_toArray, getElem_cons_zero, getElem_cons_succ]
  refine AnyT.takeA (i := 8) (v := ?_) rfl (by kernel_rfl) (by kernel_rfl) (by kernel_rfl) (fun _ _ _ h => h) (Or.inl ⟨by rfl, ?_⟩) ?_
  rotate_left 1
  ·(intro w0 _; go_simp; try with_reducible rfl)
  try simp only [Act.put, setIfInBounds_toArray, set_cons_zero, set_cons_succ, getElem_toArray, getElem_cons_zero, getElem_cons_succ]
  refine AnyT.takeA (i := 9) (v := undef) rfl (by kernel_rfl) (by kernel_rfl) (by kernel_rfl) (fun _ _ _ h => h) (Or.inr ⟨by rfl, rfl⟩) ?_
  try simp only [Act.put, setIfInBounds_toArray, set_cons_zero, set_cons_succ, getElem_toArray, getElem_cons_zero, getElem_cons_succ]
  refine AnyT.takeA (i := 10) (v := undef) rfl (by kernel_rfl) (by kernel_rfl) (by kernel_rfl) (fun _ _ _ h => h) (Or.inr ⟨by rfl, rfl⟩) ?_
  try simp only [Act.put, setIfInBounds_toArray, set_cons_zero, set_cons_succ, getElem_toArray, getElem_cons_zero, getElem_cons_succ]
  refine AnyT.takeA (i := 11) (v := undef) rfl (by kernel_rfl) (by kernel_rfl) (by kernel_rfl) (fun _ _ _ h => h) (Or.inr ⟨by rfl, rfl⟩) ?_
  try simp only [Act.put, setIfInBounds_toArray, set_cons_zero, set_cons_succ, getElem_toArray, getElem_cons_zero, getElem_cons_succ]
  refine AnyT.takeA (i := 12) (v := undef) rfl (by kernel_rfl) (by kernel_rfl) (by kernel_rfl) (fun _ _ _ h => h) (Or.inr ⟨by rfl, rfl⟩) ?_
  try simp only [Act.put, setIfInBounds_toArray, set_cons_zero, set_cons_succ, getElem_toArray, getElem_cons_zero, getElem_cons_succ]
  refine AnyT.takeA (i := 13) (v := undef) rfl (by kernel_rfl) (by kernel_rfl) (by kernel_rfl) (fun _ _ _ h => h) (Or.inr ⟨by rfl, rfl⟩) ?_
  try simp only [Act.put, setIfInBounds_toArray, set_cons_zero, set_cons_succ, getElem_toArray, getElem_cons_zero, getElem_cons_succ]
  refine AnyT.takeA (i := 14) (v := undef) rfl (by kernel_rfl) (by kernel_rfl) (by kernel_rfl) (fun _ _ _ h => h) (Or.inr ⟨by rfl, rfl⟩) ?_
  try simp only [Act.put, setIfInBounds_toArray, set_cons_zero, set_cons_succ, getElem_toArray, getElem_cons_zero, getElem_cons_succ]
  refine AnyT.takeA (i := 15) (v := undef) rfl (by kernel_rfl) (by kernel_rfl) (by kernel_rfl) (fun _ _ _ h => h) (Or.inr ⟨by rfl, rfl⟩) ?_
  try simp only [Act.put, setIfInBounds_toArray, set_cons_zero, set_cons_succ, getElem_toArray, getElem_cons_zero, getElem_cons_succ]
  refine AnyT.takeA (i := 16) (v := ?_) rfl (by kernel_rfl) (by kernel_rfl) (by kernel_rfl) (fun _ _ _ h => h) (Or.inl ⟨by rfl, ?_⟩) ?_
  rotate_left 1
  ·(intro w0 _; go_simp; try with_reducible rfl)
  try simp only [Act.put, setIfInBounds_toArray, set_cons_zero, set_cons_succ, getElem_toArray, getElem_cons_zero, getElem_cons_succ]
  refine AnyT.takeA (i := 17) (v := ?_) rfl (by kernel_rfl) (by kernel_rfl) (by kernel_rfl) (fun _ _ _ h => h) (Or.inl ⟨by rfl, ?_⟩) ?_
  rotate_left 1
  ·(intro w0 _; go_simp; try with_reducible rfl)
  try simp only [Act.put, setIfInBounds_toArray, set_cons_zero, set_cons_succ, getElem_toArray, getElem_cons_zero, getElem_cons_succ]
  refine AnyT.takeA (i := 18) (v := undef) rfl (by kernel_rfl) (by kernel_rfl) (by kernel_rfl) (fun _ _ _ h => h) (Or.inr ⟨by rfl, rfl⟩) ?_
  try simp only [Act.put, setIfInBounds_toArray, set_cons_zero, set_cons_succ, getElem_toArray, getElem_cons_zero, getElem_cons_succ]
  refine AnyT.takeA (i := 19) (v := undef) rfl (by kernel_rfl) (by kernel_rfl) (by kernel_rfl) (fun _ _ _ h => h) (Or.inr ⟨by rfl, rfl⟩) ?_
  try simp only [Act.put, setIfInBounds_toArray, set_cons_zero, set_cons_succ, getElem_toArray, getElem_cons_zero, getElem_cons_succ]
  refine AnyT.takeA (i := 20) (v := undef) rfl (by kernel_rfl) (by kernel_rfl) (by kernel_rfl) (fun _ _ _ h => h) (Or.inr ⟨by rfl, rfl⟩) ?_
  try simp only [Act.put, setIfInBounds_toArray, set_cons_zero, set_cons_succ, getElem_toArray, getElem_cons_zero, getElem_cons_succ]
  refine AnyT.takeA (i := 21) (v := undef) rfl (by kernel_rfl) (by kernel_rfl) (by kernel_rfl) (fun _ _ _ h => h) (Or.inr ⟨by rfl, rfl⟩) ?_
  try simp only [Act.put, setIfInBounds_toArray, set_cons_zero, set_cons_succ, getElem_toArray, getElem_cons_zero, getElem_cons_succ]
  refine AnyT.takeA (i := 22) (v := undef) rfl (by kernel_rfl) (by kernel_rfl) (by kernel_rfl) (fun _ _ _ h => h) (Or.inr ⟨by rfl, rfl⟩) ?_
  try simp only [Act.put, setIfInBounds_toArray, set_cons_zero, set_cons_succ, getElem_toArray, getElem_cons_zero, getElem_cons_succ]
  refine AnyT.takeA (i := 23) (v := undef) rfl (by kernel_rfl) (by kernel_rfl) (by kernel_rfl) (fun _ _ _ h => h) (Or.inr ⟨by rfl, rfl⟩) ?_
  try simp only [Act.put, setIfInBounds_toArray, set_cons_zero, set_cons_succ, getElem_toArray, getElem_cons_zero, getElem_cons_succ]
  refine AnyT.takeA (i := 24) (v := undef) rfl (by kernel_rfl) (by kernel_rfl) (by kernel_rfl) (fun _ _ _ h => h) (Or.inr ⟨by rfl, rfl⟩) ?_
  try simp only [Act.put, setIfInBounds_toArray, set_cons_zero, set_cons_succ, getElem_toArray, getElem_cons_zero, getElem_cons_succ]
  refine AnyT.takeA (i := 25) (v := undef) rfl (by kernel_rfl) (by kernel_rfl) (by kernel_rfl) (fun _ _ _ h => h) (Or.inr ⟨by rfl, rfl⟩) ?_
  try simp only [Act.put, setIfInBounds_toArray, set_cons_zero, set_cons_succ, getElem_toArray, getElem_cons_zero, getElem_cons_succ]
  refine AnyT.takeA (i := 27) (v := undef) rfl (by kernel_rfl) (by kernel_rfl) (by kernel_rfl) (fun _ _ _ h => h) (Or.inr ⟨by rfl, rfl⟩) ?_
  try simp only [Act.put, setIfInBounds_toArray, set_cons_zero, set_cons_succ, getElem_toArray, getElem_cons_zero, getElem_cons_succ]
  refine AnyT.call (i := 26) (by kernel_rfl) rfl (fun K hK => ?_)
  try simp only [Act.put, setIfInBounds_toArray, set_cons_zero, set_cons_succ, getElem_toArray, getElem_cons_zero, getElem_cons_succ]
  rw [if_neg (by intro h; cases h)]
  refine hK.out _ _ (fun _ h => h) (fun _ => ?_)
  clear hK K
  try simp only [Act.put, setIfInBounds_toArray, set_cons_zero, set_cons_succ, getElem_toArray, getElem_cons_zero, getElem_cons_succ]
  refine AnyT.call (i := 28) (by kernel_rfl) rfl (fun K hK => ?_)
  try simp only [Act.put, setIfInBounds_toArray, set_cons_zero, set_cons_succ, getElem_toArray, getElem_cons_zero, getElem_cons_succ]
  rw [if_neg (by intro h; cases h)]
  refine hK.out _ _ (fun _ h => h) (fun _ => ?_)
  clear hK K
  try simp only [Act.put, setIfInBounds_toArray, set_cons_zero, set_cons_succ, getElem_toArray, getElem_cons_zero, getElem_cons_succ]
  refine AnyT.takeA (i := 29) (v := ?_) rfl (by kernel_rfl) (by kernel_rfl) (by kernel_rfl) (fun _ _ _ h => h) (Or.inl ⟨by rfl, ?_⟩) ?_
  rotate_left 1
  ·(intro w0 _; go_simp; try with_reducible rfl)
  try simp only [Act.put, setIfInBounds_toArray, set_cons_zero, set_cons_succ, getElem_toArray, getElem_cons_zero, getElem_cons_succ]
  refine AnyT.takeA (i := 30) (v := ?_) rfl (by kernel_rfl) (by kernel_rfl) (by kernel_rfl) (fun _ _ _ h => h) (Or.inl ⟨by rfl, ?_⟩) ?_
  rotate_left 1
  ·(intro w0 _; go_simp; try with_reducible rfl)
  try simp only [Act.put, setIfInBounds_toArray, set_cons_zero, set_cons_succ, getElem_toArray, getElem_cons_zero, getElem_cons_succ]
  refine AnyT.done (by kernel_rfl) ?_ _
  have F := hid (ansB (b := mayB d.2 o x u) (a := false) HF.out.symm (next_trans BEL.out Bv1))
  clear b1 Bv1 LH1 LH2
  go_wp2
  go_ret
  exact F.out
 | true =>
  cases b2 with
  | false =>
   have HF := hid (show mayB d.2 o x u = false from may_no2 (by rw [hq]; exact hb2))
   clear hb1 hb2 hl hs hq hrs hsg hE bel
   go_enter Try.func66, Try.ntmps66
   go_upto_region 1 with fail
   rw [← HW.out]
   refine AnyT.start (S := (fun w' => w'.cell? ⟨w.heap.size, 0, none⟩ = some (.slice A n cs) ∧ w'.cell? ⟨w.heap.size, 1, none⟩ = some (.slice V q cv))) (fun _ => false) (by kernel_rfl) ⟨K0, K1⟩ (fun hHeld => ?_)
   refine AnyT.take (i := 0) (v := ?_) rfl (by kernel_rfl) (by kernel_rfl) (by kernel_rfl) (by kernel_rfl) (fun _ _ _ h => h) (Or.inl ⟨by rfl, ?_⟩) (by assumption) ?_
   rotate_left 1
   ·(intro w0 hSw; (try dsimp only at hSw); go_simp; try with_reducible rfl)
   try simp only [Act.put, setIfInBounds_toArray, set_cons_zero, set_cons_succ, getElem_toArray, getElem_cons_zero, getElem_cons_succ]
   refine AnyT.takeA (i := 1) (v := ?_) rfl (by kernel_rfl) (by kernel_rfl) (by kernel_rfl) (fun _ _ _ h => h) (Or.inl ⟨by rfl, ?_⟩) ?_
   rotate_left 1
   ·(intro w0 _; go_simp; try with_reducible rfl)
   try simp only [Act.put, setIfInBounds_toArray, set_cons_zero, set_cons_succ, getElem_toArray, getElem_cons_zero, getElem_cons_succ]
   refine AnyT.call (i := 2) (by kernel_rfl) rfl (fun K hK => ?_)
   try simp only [Act.put, setIfInBounds_toArray, set_cons_zero, set_cons_succ, getElem_toArray, getElem_cons_zero, getElem_cons_succ]
   rw [if_pos (by rfl)]
   go_simp
   (go_at_call 84; refine LH1.out.mono ?_; rintro e v1 ⟨rfl, b1⟩; have Bv1 : Below W.heap.size W v1 := next_trans (Below.refl W.heap.size W).drew b1; have hv1_0 : v1.cell? ⟨w.heap.size, 0, none⟩ = some (.slice A n cs) := (Bv1.cell (p := ⟨w.heap.size, 0, none⟩) ZA).trans K0; have hv1_1 : v1.cell? ⟨w.heap.size, 1, none⟩ = some (.slice V q cv) := (Bv1.cell (p := ⟨w.heap.size, 1, none⟩) ZA).trans K1; go_wp2_with fail)
   refine hK.out _ _ (fun _ _ => ?_) (fun hKeep => ?_)
   ·exact ⟨hv1_0, hv1_1⟩
   replace hHeld := hKeep (by first | rfl | trivial) hHeld
   clear hK K hKeep
   try simp only [Act.put, setIfInBounds_toArray, set_cons_zero, set_cons_succ, getElem_toArray, getElem_cons_zero, getElem_cons_succ]
   refine AnyT.takeA (i := 3) (v := ?_) rfl (by kernel_rfl) (by kernel_rfl) (by kernel_rfl) (fun _ _ _ h => h) (Or.inl ⟨by rfl, ?_⟩) ?_
   rotate_left 1
   ·(intro w0 _; go_simp; try with_reducible rfl)
   try simp only [Act.put, setIfInBounds_toArray, set_cons_zero, set_cons_succ, getElem_toArray, getElem_cons_zero, getElem_cons_succ]
   refine AnyT.take (i := 4) (v := ?_) rfl (by kernel_rfl) (by kernel_rfl) (by kernel_rfl) (by kernel_rfl) (fun _ _ _ h => h) (Or.inl ⟨by rfl, ?_⟩) (by assumption) ?_
   rotate_left 1
   ·(intro w0 hSw; (try dsimp only at hSw); go_simp; try with_reducible rfl)
   try simp only [Act.put, setIfInBounds_toArray, set_cons_zero, set_cons_succ, getElem_toArray, getElem_cons_zero, getElem_cons_succ]
   refine AnyT.takeA (i := 5) (v := ?_) rfl (by kernel_rfl) (by kernel_rfl) (by kernel_rfl) (fun _ _ _ h => h) (Or.inl ⟨by rfl, ?_⟩) ?_
   rotate_left 1
   ·(intro w0 _; go_simp; try with_reducible rfl)
   try simp only [Act.put, setIfInBounds_toArray, set_cons_zero, set_cons_succ, getElem_toArray, getElem_cons_zero, getElem_cons_succ]
   refine AnyT.call (i := 6) (by kernel_rfl) rfl (fun K hK => ?_)
   try simp only [Act.put, setIfInBounds_toArray, set_cons_zero, set_cons_succ, getElem_toArray, getElem_cons_zero, getElem_cons_succ]
   rw [if_pos (by rfl)]
   go_simp
   (go_at_call 84; refine (LH2.out v1).mono ?_; rintro e v2 ⟨rfl, b2⟩; have Bv2 : Below W.heap.size W v2 := next_trans Bv1 b2; have hv2_0 : v2.cell? ⟨w.heap.size, 0, none⟩ = some (.slice A n cs) := (Bv2.cell (p := ⟨w.heap.size, 0, none⟩) ZA).trans K0; have hv2_1 : v2.cell? ⟨w.heap.size, 1, none⟩ = some (.slice V q cv) := (Bv2.cell (p := ⟨w.heap.size, 1, none⟩) ZA).trans K1; go_wp2_with fail)
   refine hK.out _ _ (fun _ _ => ?_) (fun hKeep => ?_)
   ·exact ⟨hv2_0, hv2_1⟩
   replace hHeld := hKeep (by first | rfl | trivial) hHeld
   clear hK K hKeep
   try simp only [Act.put, setIfInBounds_toArray, set_cons_zero, set_cons_succ, getElem_toArray, getElem_cons_zero, getElem_cons_succ]
   refine AnyT.takeA (i := 7) (v := ?_) rfl (by kernel_rfl) (by kernel_rfl) (by kernel_rfl) (fun _ _ _ h => h) (Or.inl ⟨by rfl, ?_⟩) ?_
   rotate_left 1
   ·(intro w0 _; go_simp; try with_reducible rfl)
   try simp only [Act.put, setIfInBounds_toArray, set_cons_zero, set_cons_succ, getElem_toArray, getElem_cons_zero, getElem_cons_succ]
   refine AnyT.takeA (i := 8) (v := ?_) rfl (by kernel_rfl) (by kernel_rfl) (by kernel_rfl) (fun _ _ _ h => h) (Or.inl ⟨by rfl, ?_⟩) ?_
   rotate_left 1
   ·(intro w0 _; go_simp; try with_reducible rfl)
   try simp only [Act.put, setIfInBounds_toArray, set_cons_zero, set_cons_succ, getElem_toArray, getElem_cons_zero, getElem_cons_succ]
   refine AnyT.takeA (i := 9) (v := undef) rfl (by kernel_rfl) (by kernel_rfl) (by kernel_rfl) (fun _ _ _ h => h) (Or.inr ⟨by rfl, rfl⟩) ?_
   try simp only [Act.put, setIfInBounds_toArray, set_cons_zero, set_cons_succ, getElem_toArray, getElem_cons_zero, getElem_cons_succ]
   refine AnyT.takeA (i := 10) (v := undef) rfl (by kernel_rfl) (by kernel_rfl) (by kernel_rfl) (fun _ _ _ h => h) (Or.inr ⟨by rfl, rfl⟩) ?_
   try simp only [Act.put, setIfInBounds_toArray, set_cons_zero, set_cons_succ, getElem_toArray, getElem_cons_zero, getElem_cons_succ]
   refine AnyT.takeA (i := 11) (v := undef) rfl (by kernel_rfl) (by kernel_rfl) (by kernel_rfl) (fun _ _ _ h => h) (Or.inr ⟨by rfl, rfl⟩) ?_
   try simp only [Act.put, setIfInBounds_toArray, set_cons_zero, set_cons_succ, getElem_toArray, getElem_cons_zero, getElem_cons_succ]
   refine AnyT.takeA (i := 12) (v := undef) rfl (by kernel_rfl) (by kernel_rfl) (by kernel_rfl) (fun _ _ _ h => h) (Or.inr ⟨by rfl, rfl⟩) ?_
   try simp only [Act.put, setIfInBounds_toArray, set_cons_zero, set_cons_succ, getElem_toArray, getElem_cons_zero, getElem_cons_succ]
   refine AnyT.takeA (i := 13) (v := undef) rfl (by kernel_rfl) (by kernel_rfl) (by kernel_rfl) (fun _ _ _ h => h) (Or.inr ⟨by rfl, rfl⟩) ?_
   try simp only [Act.put, setIfInBounds_toArray, set_cons_zero, set_cons_succ, getElem_toArray, getElem_cons_zero, getElem_cons_succ]
   refine AnyT.takeA (i := 14) (v := undef) rfl (by kernel_rfl) (by kernel_rfl) (by kernel_rfl) (fun _ _ _ h => h) (Or.inr ⟨by rfl, rfl⟩) ?_
   try simp only [Act.put, setIfInBounds_toArray, set_cons_zero, set_cons_succ, getElem_toArray, getElem_cons_zero, getElem_cons_succ]
   refine AnyT.takeA (i := 15) (v := undef) rfl (by kernel_rfl) (by kernel_rfl) (by kernel_rfl) (fun _ _ _ h => h) (Or.inr ⟨by rfl, rfl⟩) ?_
   try simp only [Act.put, setIfInBounds_toArray, set_cons_zero, set_cons_succ, getElem_toArray, getElem_cons_zero, getElem_cons_succ]
   refine AnyT.takeA (i := 16) (v := ?_) rfl (by kernel_rfl) (by kernel_rfl) (by kernel_rfl) (fun _ _ _ h => h) (Or.inl ⟨by rfl, ?_⟩) ?_
   rotate_left 1
   ·(intro w0 _; go_simp; try with_reducible rfl)
   try simp only [Act.put, setIfInBounds_toArray, set_cons_zero, set_cons_succ, getElem_toArray, getElem_cons_zero, getElem_cons_succ]
   refine AnyT.takeA (i := 17) (v := ?_) rfl (by kernel_rfl) (by kernel_rfl) (by kernel_rfl) (fun _ _ _ h => h) (Or.inl ⟨by rfl, ?_⟩) ?_
   rotate_left 1
   ·(intro w0 _; go_simp; try with_reducible rfl)
   try simp only [Act.put, setIfInBounds_toArray, set_cons_zero, set_cons_succ, getElem_toArray, getElem_cons_zero, getElem_cons_succ]
   refine AnyT.takeA (i := 18) (v := undef) rfl (by kernel_rfl) (by kernel_rfl) (by kernel_rfl) (fun _ _ _ h => h) (Or.inr ⟨by rfl, rfl⟩) ?_
   try simp only [Act.put, setIfInBounds_toArray, set_cons_zero, set_cons_succ, getElem_toArray, getElem_cons_zero, getElem_cons_succ]
   refine AnyT.takeA (i := 19) (v := undef) rfl (by kernel_rfl) (by kernel_rfl) (by kernel_rfl) (fun _ _ _ h => h) (Or.inr ⟨by rfl, rfl⟩) ?_
   try simp only [Act.put, setIfInBounds_toArray, set_cons_zero, set_cons_succ, getElem_toArray, getElem_cons_zero, getElem_cons_succ]
   refine AnyT.takeA (i := 20) (v := undef) rfl (by kernel_rfl) (by kernel_rfl) (by kernel_rfl) (fun _ _ _ h => h) (Or.inr ⟨by rfl, rfl⟩) ?_
   try simp only [Act.put, setIfInBounds_toArray, set_cons_zero, set_cons_succ, getElem_toArray, getElem_cons_zero, getElem_cons_succ]
   refine AnyT.takeA (i := 21) (v := undef) rfl (by kernel_rfl) (by kernel_rfl) (by kernel_rfl) (fun _ _ _ h => h) (Or.inr ⟨by rfl, rfl⟩) ?_
   try simp only [Act.put, setIfInBounds_toArray, set_cons_zero, set_cons_succ, getElem_toArray, getElem_cons_zero, getElem_cons_succ]
   refine AnyT.takeA (i := 22) (v := undef) rfl (by kernel_rfl) (by kernel_rfl) (by kernel_rfl) (fun _ _ _ h => h) (Or.inr ⟨by rfl, rfl⟩) ?_
   try simp only [Act.put, setIfInBounds_toArray, set_cons_zero, set_cons_succ, getElem_toArray, getElem_cons_zero, getElem_cons_succ]
   refine AnyT.takeA (i := 23) (v := undef) rfl (by kernel_rfl) (by kernel_rfl) (by kernel_rfl) (fun _ _ _ h => h) (Or.inr ⟨by rfl, rfl⟩) ?_
   try simp only [Act.put, setIfInBounds_toArray, set_cons_zero, set_cons_succ, getElem_toArray, getElem_cons_zero, getElem_cons_succ]
   refine AnyT.takeA (i := 24) (v := undef) rfl (by kernel_rfl) (by kernel_rfl) (by kernel_rfl) (fun _ _ _ h => h) (Or.inr ⟨by rfl, rfl⟩) ?_
   try simp only [Act.put, setIfInBounds_toArray, set_cons_zero, set_cons_succ, getElem_toArray, getElem_cons_zero, getElem_cons_succ]
   refine AnyT.takeA (i := 25) (v := undef) rfl (by kernel_rfl) (by kernel_rfl) (by kernel_rfl) (fun _ _ _ h => h) (Or.inr ⟨by rfl, rfl⟩) ?_
   try simp only [Act.put, setIfInBounds_toArray, set_cons_zero, set_cons_succ, getElem_toArray, getElem_cons_zero, getElem_cons_succ]
   refine AnyT.takeA (i := 27) (v := undef) rfl (by kernel_rfl) (by kernel_rfl) (by kernel_rfl) (fun _ _ _ h => h) (Or.inr ⟨by rfl, rfl⟩) ?_
   try simp only [Act.put, setIfInBounds_toArray, set_cons_zero, set_cons_succ, getElem_toArray, getElem_cons_zero, getElem_cons_succ]
   refine AnyT.call (i := 26) (by kernel_rfl) rfl (fun K hK => ?_)
   try simp only [Act.put, setIfInBounds_toArray, set_cons_zero, set_cons_succ, getElem_toArray, getElem_cons_zero, getElem_cons_succ]
   rw [if_neg (by intro h; cases h)]
   refine hK.out _ _ (fun _ h => h) (fun _ => ?_)
   clear hK K
   try simp only [Act.put, setIfInBounds_toArray, set_cons_zero, set_cons_succ, getElem_toArray, getElem_cons_zero, getElem_cons_succ]
   refine AnyT.call (i := 28) (by kernel_rfl) rfl (fun K hK => ?_)
   try simp only [Act.put, setIfInBounds_toArray, set_cons_zero, set_cons_succ, getElem_toArray, getElem_cons_zero, getElem_cons_succ]
   rw [if_neg (by intro h; cases h)]
   refine hK.out _ _ (fun _ h => h) (fun _ => ?_)
   clear hK K
   try simp only [Act.put, setIfInBounds_toArray, set_cons_zero, set_cons_succ, getElem_toArray, getElem_cons_zero, getElem_cons_succ]
   refine AnyT.takeA (i := 29) (v := ?_) rfl (by kernel_rfl) (by kernel_rfl) (by kernel_rfl) (fun _ _ _ h => h) (Or.inl ⟨by rfl, ?_⟩) ?_
   rotate_left 1
   ·(intro w0 _; go_simp; try with_reducible rfl)
   try simp only [Act.put, setIfInBounds_toArray, set_cons_zero, set_cons_succ, getElem_toArray, getElem_cons_zero, getElem_cons_succ]
   refine AnyT.takeA (i := 30) (v := ?_) rfl (by kernel_rfl) (by kernel_rfl) (by kernel_rfl) (fun _ _ _ h => h) (Or.inl ⟨by rfl, ?_⟩) ?_
   rotate_left 1
   ·(intro w0 _; go_simp; try with_reducible rfl)
   try simp only [Act.put, setIfInBounds_toArray, set_cons_zero, set_cons_succ, getElem_toArray, getElem_cons_zero, getElem_cons_succ]
   refine AnyT.done (by kernel_rfl) ?_ _
   have F := hid (ansB (b := mayB d.2 o x u) (a := false) HF.out.symm (next_trans BEL.out Bv2))
   clear b1 Bv1 b2 Bv2 LH1 LH2
   go_wp2
   go_ret
   exact F.out
  | true =>
   by_cases hax : x = 0 ∧ o = u
   ·obtain ⟨rfl, rfl⟩ := hax
    have HF := hid (show mayB d.2 o 0 o = false from may_no4 ⟨rfl, rfl⟩)
    clear hb1 hb2 hl hs hq hrs hsg hE bel
    go_enter Try.func66, Try.ntmps66
    go_upto_region 1 with fail
    rw [← HW.out]
    refine AnyT.start (S := (fun w' => w'.cell? ⟨w.heap.size, 0, none⟩ = some (.slice A n cs) ∧ w'.cell? ⟨w.heap.size, 1, none⟩ = some (.slice V q cv))) (fun _ => false) (by kernel_rfl) ⟨K0, K1⟩ (fun hHeld => ?_)
    refine AnyT.take (i := 0) (v := ?_) rfl (by kernel_rfl) (by kernel_rfl) (by kernel_rfl) (by kernel_rfl) (fun _ _ _ h => h) (Or.inl ⟨by rfl, ?_⟩) (by assumption) ?_
    rotate_left 1
    ·(intro w0 hSw; (try dsimp only at hSw); go_simp; try with_reducible rfl)
    try simp only [Act.put, setIfInBounds_toArray, set_cons_zero, set_cons_succ, getElem_toArray, getElem_cons_zero, getElem_cons_succ]
    refine AnyT.takeA (i := 1) (v := ?_) rfl (by kernel_rfl) (by kernel_rfl) (by kernel_rfl) (fun _ _ _ h => h) (Or.inl ⟨by rfl, ?_⟩) ?_
    rotate_left 1
    ·(intro w0 _; go_simp; try with_reducible rfl)
    try simp only [Act.put, setIfInBounds_toArray, set_cons_zero, set_cons_succ, getElem_toArray, getElem_cons_zero, getElem_cons_succ]
    refine AnyT.call (i := 2) (by kernel_rfl) rfl (fun K hK => ?_)
    try simp only [Act.put, setIfInBounds_toArray, set_cons_zero, set_cons_succ, getElem_toArray, getElem_cons_zero, getElem_cons_succ]
    rw [if_pos (by rfl)]
    go_simp
    (go_at_call 84; refine LH1.out.mono ?_; rintro e v1 ⟨rfl, b1⟩; have Bv1 : Below W.heap.size W v1 := next_trans (Below.refl W.heap.size W).drew b1; have hv1_0 : v1.cell? ⟨w.heap.size, 0, none⟩ = some (.slice A n cs) := (Bv1.cell (p := ⟨w.heap.size, 0, none⟩) ZA).trans K0; have hv1_1 : v1.cell? ⟨w.heap.size, 1, none⟩ = some (.slice V q cv) := (Bv1.cell (p := ⟨w.heap.size, 1, none⟩) ZA).trans K1; go_wp2_with fail)
    refine hK.out _ _ (fun _ _ => ?_) (fun hKeep => ?_)
    ·exact ⟨hv1_0, hv1_1⟩
    replace hHeld := hKeep (by first | rfl | trivial) hHeld
    clear hK K hKeep
    try simp only [Act.put, setIfInBounds_toArray, set_cons_zero, set_cons_succ, getElem_toArray, getElem_cons_zero, getElem_cons_succ]
    refine AnyT.takeA (i := 3) (v := ?_) rfl (by kernel_rfl) (by kernel_rfl) (by kernel_rfl) (fun _ _ _ h => h) (Or.inl ⟨by rfl, ?_⟩) ?_
    rotate_left 1
    ·(intro w0 _; go_simp; try with_reducible rfl)
    try simp only [Act.put, setIfInBounds_toArray, set_cons_zero, set_cons_succ, getElem_toArray, getElem_cons_zero, getElem_cons_succ]
    refine AnyT.take (i := 4) (v := ?_) rfl (by kernel_rfl) (by kernel_rfl) (by kernel_rfl) (by kernel_rfl) (fun _ _ _ h => h) (Or.inl ⟨by rfl, ?_⟩) (by assumption) ?_
    rotate_left 1
    ·(intro w0 hSw; (try dsimp only at hSw); go_simp; try with_reducible rfl)
    try simp only [Act.put, setIfInBounds_toArray, set_cons_zero, set_cons_succ, getElem_toArray, getElem_cons_zero, getElem_cons_succ]
    refine AnyT.takeA (i := 5) (v := ?_) rfl (by kernel_rfl) (by kernel_rfl) (by kernel_rfl) (fun _ _ _ h => h) (Or.inl ⟨by rfl, ?_⟩) ?_
    rotate_left 1
    ·(intro w0 _; go_simp; try with_reducible rfl)
    try simp only [Act.put, setIfInBounds_toArray, set_cons_zero, set_cons_succ, getElem_toArray, getElem_cons_zero, getElem_cons_succ]
    refine AnyT.call (i := 6) (by kernel_rfl) rfl (fun K hK => ?_)
    try simp only [Act.put, setIfInBounds_toArray, set_cons_zero, set_cons_succ, getElem_toArray, getElem_cons_zero, getElem_cons_succ]
    rw [if_pos (by rfl)]
    go_simp
    (go_at_call 84; refine (LH2.out v1).mono ?_; rintro e v2 ⟨rfl, b2⟩; have Bv2 : Below W.heap.size W v2 := next_trans Bv1 b2; have hv2_0 : v2.cell? ⟨w.heap.size, 0, none⟩ = some (.slice A n cs) := (Bv2.cell (p := ⟨w.heap.size, 0, none⟩) ZA).trans K0; have hv2_1 : v2.cell? ⟨w.heap.size, 1, none⟩ = some (.slice V q cv) := (Bv2.cell (p := ⟨w.heap.size, 1, none⟩) ZA).trans K1; go_wp2_with fail)
    refine hK.out _ _ (fun _ _ => ?_) (fun hKeep => ?_)
    ·exact ⟨hv2_0, hv2_1⟩
    replace hHeld := hKeep (by first | rfl | trivial) hHeld
    clear hK K hKeep
    try simp only [Act.put, setIfInBounds_toArray, set_cons_zero, set_cons_succ, getElem_toArray, getElem_cons_zero, getElem_cons_succ]
    refine AnyT.takeA (i := 7) (v := ?_) rfl (by kernel_rfl) (by kernel_rfl) (by kernel_rfl) (fun _ _ _ h => h) (Or.inl ⟨by rfl, ?_⟩) ?_
    rotate_left 1
    ·(intro w0 _; go_simp; try with_reducible rfl)
    try simp only [Act.put, setIfInBounds_toArray, set_cons_zero, set_cons_succ, getElem_toArray, getElem_cons_zero, getElem_cons_succ]
    refine AnyT.takeA (i := 8) (v := ?_) rfl (by kernel_rfl) (by kernel_rfl) (by kernel_rfl) (fun _ _ _ h => h) (Or.inl ⟨by rfl, ?_⟩) ?_
    rotate_left 1
    ·(intro w0 _; go_simp; try with_reducible rfl)
    try simp only [Act.put, setIfInBounds_toArray, set_cons_zero, set_cons_succ, getElem_toArray, getElem_cons_zero, getElem_cons_succ]
    refine AnyT.takeA (i := 9) (v := ?_) rfl (by kernel_rfl) (by kernel_rfl) (by kernel_rfl) (fun _ _ _ h => h) (Or.inl ⟨by rfl, ?_⟩) ?_
    rotate_left 1
    ·(intro w0 _; go_simp; try with_reducible rfl)
    try simp only [Act.put, setIfInBounds_toArray, set_cons_zero, set_cons_succ, getElem_toArray, getElem_cons_zero, getElem_cons_succ]
    refine AnyT.takeA (i := 10) (v := ?_) rfl (by kernel_rfl) (by kernel_rfl) (by kernel_rfl) (fun _ _ _ h => h) (Or.inl ⟨by rfl, ?_⟩) ?_
    rotate_left 1
    ·(intro w0 _; go_simp; try with_reducible rfl)
    try simp only [Act.put, setIfInBounds_toArray, set_cons_zero, set_cons_succ, getElem_toArray, getElem_cons_zero, getElem_cons_succ]
    refine AnyT.takeA (i := 11) (v := ?_) rfl (by kernel_rfl) (by kernel_rfl) (by kernel_rfl) (fun _ _ _ h => h) (Or.inl ⟨by rfl, ?_⟩) ?_
    rotate_left 1
    ·(intro w0 _; go_simp; try with_reducible rfl)
    try simp only [Act.put, setIfInBounds_toArray, set_cons_zero, set_cons_succ, getElem_toArray, getElem_cons_zero, getElem_cons_succ]
    refine AnyT.takeA (i := 12) (v := ?_) rfl (by kernel_rfl) (by kernel_rfl) (by kernel_rfl) (fun _ _ _ h => h) (Or.inl ⟨by rfl, ?_⟩) ?_
    rotate_left 1
    ·(intro w0 _; go_simp; try with_reducible rfl)
    try simp only [Act.put, setIfInBounds_toArray, set_cons_zero, set_cons_succ, getElem_toArray, getElem_cons_zero, getElem_cons_succ]
    refine AnyT.takeA (i := 13) (v := ?_) rfl (by kernel_rfl) (by kernel_rfl) (by kernel_rfl) (fun _ _ _ h => h) (Or.inl ⟨by rfl, ?_⟩) ?_
    rotate_left 1
    ·(intro w0 _; go_simp; try with_reducible rfl)
    try simp only [Act.put, setIfInBounds_toArray, set_cons_zero, set_cons_succ, getElem_toArray, getElem_cons_zero, getElem_cons_succ]
    refine AnyT.takeA (i := 14) (v := ?_) rfl (by kernel_rfl) (by kernel_rfl) (by kernel_rfl) (fun _ _ _ h => h) (Or.inl ⟨by rfl, ?_⟩) ?_
    rotate_left 1
    ·(intro w0 _; go_simp; try with_reducible rfl)
    try simp only [Act.put, setIfInBounds_toArray, set_cons_zero, set_cons_succ, getElem_toArray, getElem_cons_zero, getElem_cons_succ]
    refine AnyT.takeA (i := 15) (v := ?_) rfl (by kernel_rfl) (by kernel_rfl) (by kernel_rfl) (fun _ _ _ h => h) (Or.inl ⟨by rfl, ?_⟩) ?_
    rotate_left 1
    ·(intro w0 _; go_simp; try with_reducible rfl)
    try simp only [Act.put, setIfInBounds_toArray, set_cons_zero, set_cons_succ, getElem_toArray, getElem_cons_zero, getElem_cons_succ]
    refine AnyT.takeA (i := 16) (v := ?_) rfl (by kernel_rfl) (by kernel_rfl) (by kernel_rfl) (fun _ _ _ h => h) (Or.inl ⟨by rfl, ?_⟩) ?_
    rotate_left 1
    ·(intro w0 _; go_simp; try with_reducible rfl)
    try simp only [Act.put, setIfInBounds_toArray, set_cons_zero, set_cons_succ, getElem_toArray, getElem_cons_zero, getElem_cons_succ]
    refine AnyT.takeA (i := 17) (v := ?_) rfl (by kernel_rfl) (by kernel_rfl) (by kernel_rfl) (fun _ _ _ h => h) (Or.inl ⟨by rfl, ?_⟩) ?_
    rotate_left 1
    ·(intro w0 _; go_simp; try with_reducible rfl)
    try simp only [Act.put, setIfInBounds_toArray, set_cons_zero, set_cons_succ, getElem_toArray, getElem_cons_zero, getElem_cons_succ]
    refine AnyT.takeA (i := 18) (v := undef) rfl (by kernel_rfl) (by kernel_rfl) (by kernel_rfl) (fun _ _ _ h => h) (Or.inr ⟨by rfl, rfl⟩) ?_
    try simp only [Act.put, setIfInBounds_toArray, set_cons_zero, set_cons_succ, getElem_toArray, getElem_cons_zero, getElem_cons_succ]
    refine AnyT.takeA (i := 19) (v := undef) rfl (by kernel_rfl) (by kernel_rfl) (by kernel_rfl) (fun _ _ _ h => h) (Or.inr ⟨by rfl, rfl⟩) ?_
    try simp only [Act.put, setIfInBounds_toArray, set_cons_zero, set_cons_succ, getElem_toArray, getElem_cons_zero, getElem_cons_succ]
    refine AnyT.takeA (i := 20) (v := undef) rfl (by kernel_rfl) (by kernel_rfl) (by kernel_rfl) (fun _ _ _ h => h) (Or.inr ⟨by rfl, rfl⟩) ?_
    try simp only [Act.put, setIfInBounds_toArray, set_cons_zero, set_cons_succ, getElem_toArray, getElem_cons_zero, getElem_cons_succ]
    refine AnyT.takeA (i := 21) (v := undef) rfl (by kernel_rfl) (by kernel_rfl) (by kernel_rfl) (fun _ _ _ h => h) (Or.inr ⟨by rfl, rfl⟩) ?_
    try simp only [Act.put, setIfInBounds_toArray, set_cons_zero, set_cons_succ, getElem_toArray, getElem_cons_zero, getElem_cons_succ]
    refine AnyT.takeA (i := 22) (v := undef) rfl (by kernel_rfl) (by kernel_rfl) (by kernel_rfl) (fun _ _ _ h => h) (Or.inr ⟨by rfl, rfl⟩) ?_
    try simp only [Act.put, setIfInBounds_toArray, set_cons_zero, set_cons_succ, getElem_toArray, getElem_cons_zero, getElem_cons_succ]
    refine AnyT.takeA (i := 23) (v := undef) rfl (by kernel_rfl) (by kernel_rfl) (by kernel_rfl) (fun _ _ _ h => h) (Or.inr ⟨by rfl, rfl⟩) ?_
    try simp only [Act.put, setIfInBounds_toArray, set_cons_zero, set_cons_succ, getElem_toArray, getElem_cons_zero, getElem_cons_succ]
    refine AnyT.takeA (i := 24) (v := undef) rfl (by kernel_rfl) (by kernel_rfl) (by kernel_rfl) (fun _ _ _ h => h) (Or.inr ⟨by rfl, rfl⟩) ?_
    try simp only [Act.put, setIfInBounds_toArray, set_cons_zero, set_cons_succ, getElem_toArray, getElem_cons_zero, getElem_cons_succ]
    refine AnyT.takeA (i := 25) (v := undef) rfl (by kernel_rfl) (by kernel_rfl) (by kernel_rfl) (fun _ _ _ h => h) (Or.inr ⟨by rfl, rfl⟩) ?_
    try simp only [Act.put, setIfInBounds_toArray, set_cons_zero, set_cons_succ, getElem_toArray, getElem_cons_zero, getElem_cons_succ]
    refine AnyT.takeA (i := 27) (v := undef) rfl (by kernel_rfl) (by kernel_rfl) (by kernel_rfl) (fun _ _ _ h => h) (Or.inr ⟨by rfl, rfl⟩) ?_
    try simp only [Act.put, setIfInBounds_toArray, set_cons_zero, set_cons_succ, getElem_toArray, getElem_cons_zero, getElem_cons_succ]
    refine AnyT.call (i := 26) (by kernel_rfl) rfl (fun K hK => ?_)
    try simp only [Act.put, setIfInBounds_toArray, set_cons_zero, set_cons_succ, getElem_toArray, getElem_cons_zero, getElem_cons_succ]
    rw [if_neg (by intro h; cases h)]
    refine hK.out _ _ (fun _ h => h) (fun _ => ?_)
    clear hK K
    try simp only [Act.put, setIfInBounds_toArray, set_cons_zero, set_cons_succ, getElem_toArray, getElem_cons_zero, getElem_cons_succ]
    refine AnyT.call (i := 28) (by kernel_rfl) rfl (fun K hK => ?_)
    try simp only [Act.put, setIfInBounds_toArray, set_cons_zero, set_cons_succ, getElem_toArray, getElem_cons_zero, getElem_cons_succ]
    rw [if_neg (by intro h; cases h)]
    refine hK.out _ _ (fun _ h => h) (fun _ => ?_)
    clear hK K
    try simp only [Act.put, setIfInBounds_toArray, set_cons_zero, set_cons_succ, getElem_toArray, getElem_cons_zero, getElem_cons_succ]
    refine AnyT.takeA (i := 29) (v := ?_) rfl (by kernel_rfl) (by kernel_rfl) (by kernel_rfl) (fun _ _ _ h => h) (Or.inl ⟨by rfl, ?_⟩) ?_
    rotate_left 1
    ·(intro w0 _; go_simp; try with_reducible rfl)
    try simp only [Act.put, setIfInBounds_toArray, set_cons_zero, set_cons_succ, getElem_toArray, getElem_cons_zero, getElem_cons_succ]
    refine AnyT.takeA (i := 30) (v := ?_) rfl (by kernel_rfl) (by kernel_rfl) (by kernel_rfl) (fun _ _ _ h => h) (Or.inl ⟨by rfl, ?_⟩) ?_
    rotate_left 1
    ·(intro w0 _; go_simp; try with_reducible rfl)
    try simp only [Act.put, setIfInBounds_toArray, set_cons_zero, set_cons_succ, getElem_toArray, getElem_cons_zero, getElem_cons_succ]
    refine AnyT.done (by kernel_rfl) ?_ _
    have F := hid (ansB (b := mayB d.2 o 0 o) (a := false) HF.out.symm (next_trans BEL.out Bv2))
    clear b1 Bv1 b2 Bv2 LH1 LH2
    go_wp2
    go_ret
    exact F.out
   ·have hkk : 0 ≤ o ∧ o < (q : Int) := of_decide_eq_true hb1
    obtain ⟨k, rfl⟩ := Int.eq_ofNat_of_zero_le hkk.1
    have hkq : k < q := by omega
    have hkl : k < d.2.length := by rw [hq]; exact hkq
    obtain ⟨b, off, l, r, y, rfl, hb, ex, c0, -, hy⟩ := rd_at hrs bel hq hkq
    have hzy : sz sRule y ≤ 1048576 := by rw [← ex.out]; exact hE k hkq
    obtain ⟨L, ln, lc, L', ln', lc', rfl, rfl, sL, qL, -, -, hln, -⟩ := rd_rule hy hzy
    have tL : termOkB d.1 y.1 = true := by rw [← ex.out]; exact hl k hkl
    have HSY := hid (symI_len (sg := d.1) sL.1 hln)
    have LS := hid (fun (w1 : World) (bb : Below W.heap.size W w1) => implSym A L n cs ln lc d.1 y.1 w1 ((hs.next bel).next bb) ((sL.more bel.size).next bb) hn hln)
    have HV := hid (show mayB d.2 (k : Int) x u = decide (x ∈ symI d.1 y.1) by
     rw [sym_mem tL]
     unfold mayB
     rw [hq, hb1, hb2, decide_eq_false hax]
     unfold lhsI
     rw [Int.toNat_natCast, ex.out]
     simp)
    have K2 : W.cell? ⟨b, off + k * 2, none⟩ = some (.slice L ln lc) := c0
    have ZB : b < W.heap.size := by have := bel.size; omega
    have i0 : (0 : Int) ≤ (k : Int) := by omega
    have i1 : (k : Int) < (q : Int) := by omega
    clear hb1 hb2 hl hs hq hrs hsg hE bel hkk hy hzy sL qL tL ex c0 hkl
    by_cases hou : (k : Int) = u
    ·have hx0 : ¬ x = 0 := fun q => hax ⟨q, hou⟩
     subst hou
     clear hax
     go_enter Try.func66, Try.ntmps66
     go_upto_region 1 with fail
     rw [← HW.out]
     refine AnyT.start (S := (fun w' => w'.cell? ⟨w.heap.size, 0, none⟩ = some (.slice A n cs) ∧ w'.cell? ⟨w.heap.size, 1, none⟩ = some (.slice (some ⟨b, off, none⟩) q cv) ∧ w'.cell? ⟨b, off + k * 2, none⟩ = some (.slice L ln lc))) (fun _ => false) (by kernel_rfl) ⟨K0, K1, K2⟩ (fun hHeld => ?_)
     refine AnyT.take (i := 0) (v := ?_) rfl (by kernel_rfl) (by kernel_rfl) (by kernel_rfl) (by kernel_rfl) (fun _ _ _ h => h) (Or.inl ⟨by rfl, ?_⟩) (by assumption) ?_
     rotate_left 1
     ·(intro w0 hSw; (try dsimp only at hSw); go_simp; try with_reducible rfl)
     try simp only [Act.put, setIfInBounds_toArray, set_cons_zero, set_cons_succ, getElem_toArray, getElem_cons_zero, getElem_cons_succ]
     refine AnyT.takeA (i := 1) (v := ?_) rfl (by kernel_rfl) (by kernel_rfl) (by kernel_rfl) (fun _ _ _ h => h) (Or.inl ⟨by rfl, ?_⟩) ?_
     rotate_left 1
     ·(intro w0 _; go_simp; try with_reducible rfl)
     try simp only [Act.put, setIfInBounds_toArray, set_cons_zero, set_cons_succ, getElem_toArray, getElem_cons_zero, getElem_cons_succ]
     refine AnyT.call (i := 2) (by kernel_rfl) rfl (fun K hK => ?_)
     try simp only [Act.put, setIfInBounds_toArray, set_cons_zero, set_cons_succ, getElem_toArray, getElem_cons_zero, getElem_cons_succ]
     rw [if_pos (by rfl)]
     go_simp
     (go_at_call 84; refine LH1.out.mono ?_; rintro e v1 ⟨rfl, b1⟩; have Bv1 : Below W.heap.size W v1 := next_trans (Below.refl W.heap.size W).drew b1; have hv1_0 : v1.cell? ⟨w.heap.size, 0, none⟩ = some (.slice A n cs) := (Bv1.cell (p := ⟨w.heap.size, 0, none⟩) ZA).trans K0; have hv1_1 : v1.cell? ⟨w.heap.size, 1, none⟩ = some (.slice (some ⟨b, off, none⟩) q cv) := (Bv1.cell (p := ⟨w.heap.size, 1, none⟩) ZA).trans K1; have hv1_2 : v1.cell? ⟨b, off + k * 2, none⟩ = some (.slice L ln lc) := (Bv1.cell (p := ⟨b, off + k * 2, none⟩) ZB).trans K2; go_wp2_with fail)
     refine hK.out _ _ (fun _ _ => ?_) (fun hKeep => ?_)
     ·exact ⟨hv1_0, hv1_1, hv1_2⟩
     replace hHeld := hKeep (by first | rfl | trivial) hHeld
     clear hK K hKeep
     try simp only [Act.put, setIfInBounds_toArray, set_cons_zero, set_cons_succ, getElem_toArray, getElem_cons_zero, getElem_cons_succ]
     refine AnyT.takeA (i := 3) (v := ?_) rfl (by kernel_rfl) (by kernel_rfl) (by kernel_rfl) (fun _ _ _ h => h) (Or.inl ⟨by rfl, ?_⟩) ?_
     rotate_left 1
     ·(intro w0 _; go_simp; try with_reducible rfl)
     try simp only [Act.put, setIfInBounds_toArray, set_cons_zero, set_cons_succ, getElem_toArray, getElem_cons_zero, getElem_cons_succ]
     refine AnyT.take (i := 4) (v := ?_) rfl (by kernel_rfl) (by kernel_rfl) (by kernel_rfl) (by kernel_rfl) (fun _ _ _ h => h) (Or.inl ⟨by rfl, ?_⟩) (by assumption) ?_
     rotate_left 1
     ·(intro w0 hSw; (try dsimp only at hSw); go_simp; try with_reducible rfl)
     try simp only [Act.put, setIfInBounds_toArray, set_cons_zero, set_cons_succ, getElem_toArray, getElem_cons_zero, getElem_cons_succ]
     refine AnyT.takeA (i := 5) (v := ?_) rfl (by kernel_rfl) (by kernel_rfl) (by kernel_rfl) (fun _ _ _ h => h) (Or.inl ⟨by rfl, ?_⟩) ?_
     rotate_left 1
     ·(intro w0 _; go_simp; try with_reducible rfl)
     try simp only [Act.put, setIfInBounds_toArray, set_cons_zero, set_cons_succ, getElem_toArray, getElem_cons_zero, getElem_cons_succ]
     refine AnyT.call (i := 6) (by kernel_rfl) rfl (fun K hK => ?_)
     try simp only [Act.put, setIfInBounds_toArray, set_cons_zero, set_cons_succ, getElem_toArray, getElem_cons_zero, getElem_cons_succ]
     rw [if_pos (by rfl)]
     go_simp
     (go_at_call 84; refine (LH2.out v1).mono ?_; rintro e v2 ⟨rfl, b2⟩; have Bv2 : Below W.heap.size W v2 := next_trans Bv1 b2; have hv2_0 : v2.cell? ⟨w.heap.size, 0, none⟩ = some (.slice A n cs) := (Bv2.cell (p := ⟨w.heap.size, 0, none⟩) ZA).trans K0; have hv2_1 : v2.cell? ⟨w.heap.size, 1, none⟩ = some (.slice (some ⟨b, off, none⟩) q cv) := (Bv2.cell (p := ⟨w.heap.size, 1, none⟩) ZA).trans K1; have hv2_2 : v2.cell? ⟨b, off + k * 2, none⟩ = some (.slice L ln lc) := (Bv2.cell (p := ⟨b, off + k * 2, none⟩) ZB).trans K2; go_wp2_with fail)
     refine hK.out _ _ (fun _ _ => ?_) (fun hKeep => ?_)
     ·exact ⟨hv2_0, hv2_1, hv2_2⟩
     replace hHeld := hKeep (by first | rfl | trivial) hHeld
     clear hK K hKeep
     try simp only [Act.put, setIfInBounds_toArray, set_cons_zero, set_cons_succ, getElem_toArray, getElem_cons_zero, getElem_cons_succ]
     refine AnyT.takeA (i := 7) (v := ?_) rfl (by kernel_rfl) (by kernel_rfl) (by kernel_rfl) (fun _ _ _ h => h) (Or.inl ⟨by rfl, ?_⟩) ?_
     rotate_left 1
     ·(intro w0 _; go_simp; try with_reducible rfl)
     try simp only [Act.put, setIfInBounds_toArray, set_cons_zero, set_cons_succ, getElem_toArray, getElem_cons_zero, getElem_cons_succ]
     refine AnyT.takeA (i := 8) (v := ?_) rfl (by kernel_rfl) (by kernel_rfl) (by kernel_rfl) (fun _ _ _ h => h) (Or.inl ⟨by rfl, ?_⟩) ?_
     rotate_left 1
     ·(intro w0 _; go_simp; try with_reducible rfl)
     try simp only [Act.put, setIfInBounds_toArray, set_cons_zero, set_cons_succ, getElem_toArray, getElem_cons_zero, getElem_cons_succ]
     refine AnyT.takeA (i := 9) (v := ?_) rfl (by kernel_rfl) (by kernel_rfl) (by kernel_rfl) (fun _ _ _ h => h) (Or.inl ⟨by rfl, ?_⟩) ?_
     rotate_left 1
     ·(intro w0 _; go_simp; try with_reducible rfl)
     try simp only [Act.put, setIfInBounds_toArray, set_cons_zero, set_cons_succ, getElem_toArray, getElem_cons_zero, getElem_cons_succ]
     refine AnyT.takeA (i := 10) (v := ?_) rfl (by kernel_rfl) (by kernel_rfl) (by kernel_rfl) (fun _ _ _ h => h) (Or.inl ⟨by rfl, ?_⟩) ?_
     rotate_left 1
     ·(intro w0 _; go_simp; try with_reducible rfl)
     try simp only [Act.put, setIfInBounds_toArray, set_cons_zero, set_cons_succ, getElem_toArray, getElem_cons_zero, getElem_cons_succ]
     refine AnyT.takeA (i := 11) (v := .bool false) rfl (by kernel_rfl) (by kernel_rfl) (by kernel_rfl) (fun _ _ _ h => h) (Or.inl ⟨by rfl, fun w0 _ => (by (try go_simp); (try simp))⟩) ?_
     try simp only [Act.put, setIfInBounds_toArray, set_cons_zero, set_cons_succ, getElem_toArray, getElem_cons_zero, getElem_cons_succ]
     refine AnyT.takeA (i := 12) (v := ?_) rfl (by kernel_rfl) (by kernel_rfl) (by kernel_rfl) (fun _ _ _ h => h) (Or.inl ⟨by rfl, ?_⟩) ?_
     rotate_left 1
     ·(intro w0 _; go_simp; try with_reducible rfl)
     try simp only [Act.put, setIfInBounds_toArray, set_cons_zero, set_cons_succ, getElem_toArray, getElem_cons_zero, getElem_cons_succ]
     refine AnyT.takeA (i := 13) (v := ?_) rfl (by kernel_rfl) (by kernel_rfl) (by kernel_rfl) (fun _ _ _ h => h) (Or.inl ⟨by rfl, ?_⟩) ?_
     rotate_left 1
     ·(intro w0 _; go_simp; try with_reducible rfl)
     try simp only [Act.put, setIfInBounds_toArray, set_cons_zero, set_cons_succ, getElem_toArray, getElem_cons_zero, getElem_cons_succ]
     refine AnyT.takeA (i := 14) (v := .bool true) rfl (by kernel_rfl) (by kernel_rfl) (by kernel_rfl) (fun _ _ _ h => h) (Or.inl ⟨by rfl, fun w0 _ => (by (try go_simp); (try simp [hx0]))⟩) ?_
     try simp only [Act.put, setIfInBounds_toArray, set_cons_zero, set_cons_succ, getElem_toArray, getElem_cons_zero, getElem_cons_succ]
     refine AnyT.takeA (i := 15) (v := ?_) rfl (by kernel_rfl) (by kernel_rfl) (by kernel_rfl) (fun _ _ _ h => h) (Or.inl ⟨by rfl, ?_⟩) ?_
     rotate_left 1
     ·(intro w0 _; go_simp; try with_reducible rfl)
     try simp only [Act.put, setIfInBounds_toArray, set_cons_zero, set_cons_succ, getElem_toArray, getElem_cons_zero, getElem_cons_succ]
     refine AnyT.takeA (i := 16) (v := ?_) rfl (by kernel_rfl) (by kernel_rfl) (by kernel_rfl) (fun _ _ _ h => h) (Or.inl ⟨by rfl, ?_⟩) ?_
     rotate_left 1
     ·(intro w0 _; go_simp; try with_reducible rfl)
     try simp only [Act.put, setIfInBounds_toArray, set_cons_zero, set_cons_succ, getElem_toArray, getElem_cons_zero, getElem_cons_succ]
     refine AnyT.takeA (i := 17) (v := ?_) rfl (by kernel_rfl) (by kernel_rfl) (by kernel_rfl) (fun _ _ _ h => h) (Or.inl ⟨by rfl, ?_⟩) ?_
     rotate_left 1
     ·(intro w0 _; go_simp; try with_reducible rfl)
     try simp only [Act.put, setIfInBounds_toArray, set_cons_zero, set_cons_succ, getElem_toArray, getElem_cons_zero, getElem_cons_succ]
     refine AnyT.takeA (i := 18) (v := ?_) rfl (by kernel_rfl) (by kernel_rfl) (by kernel_rfl) (fun _ _ _ h => h) (Or.inl ⟨by rfl, ?_⟩) ?_
     rotate_left 1
     ·(intro w0 _; go_simp; try with_reducible rfl)
     try simp only [Act.put, setIfInBounds_toArray, set_cons_zero, set_cons_succ, getElem_toArray, getElem_cons_zero, getElem_cons_succ]
     refine AnyT.take (i := 19) (v := ?_) rfl (by kernel_rfl) (by kernel_rfl) (by kernel_rfl) (by kernel_rfl) (fun _ _ _ h => h) (Or.inl ⟨by rfl, ?_⟩) (by assumption) ?_
     rotate_left 1
     ·(intro w0 hSw; (try dsimp only at hSw); go_simp; try with_reducible rfl)
     try simp only [Act.put, setIfInBounds_toArray, set_cons_zero, set_cons_succ, getElem_toArray, getElem_cons_zero, getElem_cons_succ]
     refine AnyT.takeA (i := 20) (v := ?_) rfl (by kernel_rfl) (by kernel_rfl) (by kernel_rfl) (fun _ _ _ h => h) (Or.inl ⟨by rfl, ?_⟩) ?_
     rotate_left 1
     ·(intro w0 _; go_simp; try with_reducible rfl)
     try simp only [Act.put, setIfInBounds_toArray, set_cons_zero, set_cons_succ, getElem_toArray, getElem_cons_zero, getElem_cons_succ]
     refine AnyT.take (i := 21) (v := ?_) rfl (by kernel_rfl) (by kernel_rfl) (by kernel_rfl) (by kernel_rfl) (fun _ _ _ h => h) (Or.inl ⟨by rfl, ?_⟩) (by assumption) ?_
     rotate_left 1
     ·(intro w0 hSw; (try dsimp only at hSw); go_simp; try with_reducible rfl)
     try simp only [Act.put, setIfInBounds_toArray, set_cons_zero, set_cons_succ, getElem_toArray, getElem_cons_zero, getElem_cons_succ]
     refine AnyT.takeA (i := 22) (v := ?_) rfl (by kernel_rfl) (by kernel_rfl) (by kernel_rfl) (fun _ _ _ h => h) (Or.inl ⟨by rfl, ?_⟩) ?_
     rotate_left 1
     ·(intro w0 _; go_simp; try with_reducible rfl)
     try simp only [Act.put, setIfInBounds_toArray, set_cons_zero, set_cons_succ, getElem_toArray, getElem_cons_zero, getElem_cons_succ]
     refine AnyT.takeA (i := 23) (v := ?_) rfl (by kernel_rfl) (by kernel_rfl) (by kernel_rfl) (fun _ _ _ h => h) (Or.inl ⟨by rfl, ?_⟩) ?_
     rotate_left 1
     ·(intro w0 _; go_simp; try with_reducible rfl)
     try simp only [Act.put, setIfInBounds_toArray, set_cons_zero, set_cons_succ, getElem_toArray, getElem_cons_zero, getElem_cons_succ]
     refine AnyT.takeA (i := 24) (v := ?_) rfl (by kernel_rfl) (by kernel_rfl) (by kernel_rfl) (fun _ _ _ h => h) (Or.inl ⟨by rfl, ?_⟩) ?_
     rotate_left 1
     ·(intro w0 _; go_simp; try with_reducible rfl)
     try simp only [Act.put, setIfInBounds_toArray, set_cons_zero, set_cons_succ, getElem_toArray, getElem_cons_zero, getElem_cons_succ]
     refine AnyT.take (i := 25) (v := ?_) rfl (by kernel_rfl) (by kernel_rfl) (by kernel_rfl) (by kernel_rfl) (fun _ _ _ h => h) (Or.inl ⟨by rfl, ?_⟩) (by assumption) ?_
     rotate_left 1
     ·(intro w0 hSw; (try dsimp only at hSw); go_simp; try with_reducible rfl)
     try simp only [Act.put, setIfInBounds_toArray, set_cons_zero, set_cons_succ, getElem_toArray, getElem_cons_zero, getElem_cons_succ]
     refine AnyT.takeA (i := 27) (v := ?_) rfl (by kernel_rfl) (by kernel_rfl) (by kernel_rfl) (fun _ _ _ h => h) (Or.inl ⟨by rfl, ?_⟩) ?_
     rotate_left 1
     ·(intro w0 _; go_simp; try with_reducible rfl)
     try simp only [Act.put, setIfInBounds_toArray, set_cons_zero, set_cons_succ, getElem_toArray, getElem_cons_zero, getElem_cons_succ]
     refine AnyT.call (i := 26) (by kernel_rfl) rfl (fun K hK => ?_)
     try simp only [Act.put, setIfInBounds_toArray, set_cons_zero, set_cons_succ, getElem_toArray, getElem_cons_zero, getElem_cons_succ]
     rw [if_pos (by rfl)]
     go_simp
     (go_at_call 85; refine (LS.out v2 Bv2).mono ?_; rintro e v3 ⟨P, pn, pc, rfl, oP, b3⟩; have Bv3 : Below W.heap.size W v3 := next_trans Bv2 b3; have hv3_0 : v3.cell? ⟨w.heap.size, 0, none⟩ = some (.slice A n cs) := (Bv3.cell (p := ⟨w.heap.size, 0, none⟩) ZA).trans K0; have hv3_1 : v3.cell? ⟨w.heap.size, 1, none⟩ = some (.slice (some ⟨b, off, none⟩) q cv) := (Bv3.cell (p := ⟨w.heap.size, 1, none⟩) ZA).trans K1; have hv3_2 : v3.cell? ⟨b, off + k * 2, none⟩ = some (.slice L ln lc) := (Bv3.cell (p := ⟨b, off + k * 2, none⟩) ZB).trans K2; go_wp2_with fail)
     refine hK.out _ _ (fun _ _ => ?_) (fun hKeep => ?_)
     ·exact ⟨hv3_0, hv3_1, hv3_2⟩
     replace hHeld := hKeep (by first | rfl | trivial) hHeld
     clear hK K hKeep
     try simp only [Act.put, setIfInBounds_toArray, set_cons_zero, set_cons_succ, getElem_toArray, getElem_cons_zero, getElem_cons_succ]
     refine AnyT.call (i := 28) (by kernel_rfl) rfl (fun K hK => ?_)
     try simp only [Act.put, setIfInBounds_toArray, set_cons_zero, set_cons_succ, getElem_toArray, getElem_cons_zero, getElem_cons_succ]
     rw [if_pos (by rfl)]
     go_simp
     (go_at_call 82; refine (containsI P pn pc _ x v3 (Own.seg oP) (by have q1 := Own.len oP; have q2 := HSY.out; omega)).mono ?_; rintro e v4 ⟨rfl, rfl⟩; go_wp2_with fail)
     refine hK.out _ _ (fun _ _ => ?_) (fun hKeep => ?_)
     ·exact ⟨hv3_0, hv3_1, hv3_2⟩
     replace hHeld := hKeep (by first | rfl | trivial) hHeld
     clear hK K hKeep
     try simp only [Act.put, setIfInBounds_toArray, set_cons_zero, set_cons_succ, getElem_toArray, getElem_cons_zero, getElem_cons_succ]
     refine AnyT.takeA (i := 29) (v := ?_) rfl (by kernel_rfl) (by kernel_rfl) (by kernel_rfl) (fun _ _ _ h => h) (Or.inl ⟨by rfl, ?_⟩) ?_
     rotate_left 1
     ·(intro w0 _; go_simp; try with_reducible rfl)
     try simp only [Act.put, setIfInBounds_toArray, set_cons_zero, set_cons_succ, getElem_toArray, getElem_cons_zero, getElem_cons_succ]
     refine AnyT.takeA (i := 30) (v := ?_) rfl (by kernel_rfl) (by kernel_rfl) (by kernel_rfl) (fun _ _ _ h => h) (Or.inl ⟨by rfl, ?_⟩) ?_
     rotate_left 1
     ·(intro w0 _; go_simp; try with_reducible rfl)
     try simp only [Act.put, setIfInBounds_toArray, set_cons_zero, set_cons_succ, getElem_toArray, getElem_cons_zero, getElem_cons_succ]
     refine AnyT.done (by kernel_rfl) ?_ _
     have F := hid (ansB (b := mayB d.2 (k : Int) x (k : Int)) (a := decide (x ∈ symI d.1 y.1)) HV.out.symm (next_trans BEL.out Bv3))
     clear b1 Bv1 b2 Bv2 b3 Bv3 oP LH1 LH2 LS
     generalize decide (x ∈ symI d.1 y.1) = bz at *
     go_wp2
     go_ret
     exact F.out
    ·clear hax
     go_enter Try.func66, Try.ntmps66
     go_upto_region 1 with fail
     rw [← HW.out]
     refine AnyT.start (S := (fun w' => w'.cell? ⟨w.heap.size, 0, none⟩ = some (.slice A n cs) ∧ w'.cell? ⟨w.heap.size, 1, none⟩ = some (.slice (some ⟨b, off, none⟩) q cv) ∧ w'.cell? ⟨b, off + k * 2, none⟩ = some (.slice L ln lc))) (fun _ => false) (by kernel_rfl) ⟨K0, K1, K2⟩ (fun hHeld => ?_)
     refine AnyT.take (i := 0) (v := ?_) rfl (by kernel_rfl) (by kernel_rfl) (by kernel_rfl) (by kernel_rfl) (fun _ _ _ h => h) (Or.inl ⟨by rfl, ?_⟩) (by assumption) ?_
     rotate_left 1
     ·(intro w0 hSw; (try dsimp only at hSw); go_simp; try with_reducible rfl)
     try simp only [Act.put, setIfInBounds_toArray, set_cons_zero, set_cons_succ, getElem_toArray, getElem_cons_zero, getElem_cons_succ]
     refine AnyT.takeA (i := 1) (v := ?_) rfl (by kernel_rfl) (by kernel_rfl) (by kernel_rfl) (fun _ _ _ h => h) (Or.inl ⟨by rfl, ?_⟩) ?_
     rotate_left 1
     ·(intro w0 _; go_simp; try with_reducible rfl)
     try simp only [Act.put, setIfInBounds_toArray, set_cons_zero, set_cons_succ, getElem_toArray, getElem_cons_zero, getElem_cons_succ]
     refine AnyT.call (i := 2) (by kernel_rfl) rfl (fun K hK => ?_)
     try simp only [Act.put, setIfInBounds_toArray, set_cons_zero, set_cons_succ, getElem_toArray, getElem_cons_zero, getElem_cons_succ]
     rw [if_pos (by rfl)]
     go_simp
     (go_at_call 84; refine LH1.out.mono ?_; rintro e v1 ⟨rfl, b1⟩; have Bv1 : Below W.heap.size W v1 := next_trans (Below.refl W.heap.size W).drew b1; have hv1_0 : v1.cell? ⟨w.heap.size, 0, none⟩ = some (.slice A n cs) := (Bv1.cell (p := ⟨w.heap.size, 0, none⟩) ZA).trans K0; have hv1_1 : v1.cell? ⟨w.heap.size, 1, none⟩ = some (.slice (some ⟨b, off, none⟩) q cv) := (Bv1.cell (p := ⟨w.heap.size, 1, none⟩) ZA).trans K1; have hv1_2 : v1.cell? ⟨b, off + k * 2, none⟩ = some (.slice L ln lc) := (Bv1.cell (p := ⟨b, off + k * 2, none⟩) ZB).trans K2; go_wp2_with fail)
     refine hK.out _ _ (fun _ _ => ?_) (fun hKeep => ?_)
     ·exact ⟨hv1_0, hv1_1, hv1_2⟩
     replace hHeld := hKeep (by first | rfl | trivial) hHeld
     clear hK K hKeep
     try simp only [Act.put, setIfInBounds_toArray, set_cons_zero, set_cons_succ, getElem_toArray, getElem_cons_zero, getElem_cons_succ]
     refine AnyT.takeA (i := 3) (v := ?_) rfl (by kernel_rfl) (by kernel_rfl) (by kernel_rfl) (fun _ _ _ h => h) (Or.inl ⟨by rfl, ?_⟩) ?_
     rotate_left 1
     ·(intro w0 _; go_simp; try with_reducible rfl)
     try simp only [Act.put, setIfInBounds_toArray, set_cons_zero, set_cons_succ, getElem_toArray, getElem_cons_zero, getElem_cons_succ]
     refine AnyT.take (i := 4) (v := ?_) rfl (by kernel_rfl) (by kernel_rfl) (by kernel_rfl) (by kernel_rfl) (fun _ _ _ h => h) (Or.inl ⟨by rfl, ?_⟩) (by assumption) ?_
     rotate_left 1
     ·(intro w0 hSw; (try dsimp only at hSw); go_simp; try with_reducible rfl)
     try simp only [Act.put, setIfInBounds_toArray, set_cons_zero, set_cons_succ, getElem_toArray, getElem_cons_zero, getElem_cons_succ]
     refine AnyT.takeA (i := 5) (v := ?_) rfl (by kernel_rfl) (by kernel_rfl) (by kernel_rfl) (fun _ _ _ h => h) (Or.inl ⟨by rfl, ?_⟩) ?_
     rotate_left 1
     ·(intro w0 _; go_simp; try with_reducible rfl)
     try simp only [Act.put, setIfInBounds_toArray, set_cons_zero, set_cons_succ, getElem_toArray, getElem_cons_zero, getElem_cons_succ]
     refine AnyT.call (i := 6) (by kernel_rfl) rfl (fun K hK => ?_)
     try simp only [Act.put, setIfInBounds_toArray, set_cons_zero, set_cons_succ, getElem_toArray, getElem_cons_zero, getElem_cons_succ]
     rw [if_pos (by rfl)]
     go_simp
     (go_at_call 84; refine (LH2.out v1).mono ?_; rintro e v2 ⟨rfl, b2⟩; have Bv2 : Below W.heap.size W v2 := next_trans Bv1 b2; have hv2_0 : v2.cell? ⟨w.heap.size, 0, none⟩ = some (.slice A n cs) := (Bv2.cell (p := ⟨w.heap.size, 0, none⟩) ZA).trans K0; have hv2_1 : v2.cell? ⟨w.heap.size, 1, none⟩ = some (.slice (some ⟨b, off, none⟩) q cv) := (Bv2.cell (p := ⟨w.heap.size, 1, none⟩) ZA).trans K1; have hv2_2 : v2.cell? ⟨b, off + k * 2, none⟩ = some (.slice L ln lc) := (Bv2.cell (p := ⟨b, off + k * 2, none⟩) ZB).trans K2; go_wp2_with fail)
     refine hK.out _ _ (fun _ _ => ?_) (fun hKeep => ?_)
     ·exact ⟨hv2_0, hv2_1, hv2_2⟩
     replace hHeld := hKeep (by first | rfl | trivial) hHeld
     clear hK K hKeep
     try simp only [Act.put, setIfInBounds_toArray, set_cons_zero, set_cons_succ, getElem_toArray, getElem_cons_zero, getElem_cons_succ]
     refine AnyT.takeA (i := 7) (v := ?_) rfl (by kernel_rfl) (by kernel_rfl) (by kernel_rfl) (fun _ _ _ h => h) (Or.inl ⟨by rfl, ?_⟩) ?_
     rotate_left 1
     ·(intro w0 _; go_simp; try with_reducible rfl)
     try simp only [Act.put, setIfInBounds_toArray, set_cons_zero, set_cons_succ, getElem_toArray, getElem_cons_zero, getElem_cons_succ]
     refine AnyT.takeA (i := 8) (v := ?_) rfl (by kernel_rfl) (by kernel_rfl) (by kernel_rfl) (fun _ _ _ h => h) (Or.inl ⟨by rfl, ?_⟩) ?_
     rotate_left 1
     ·(intro w0 _; go_simp; try with_reducible rfl)
     try simp only [Act.put, setIfInBounds_toArray, set_cons_zero, set_cons_succ, getElem_toArray, getElem_cons_zero, getElem_cons_succ]
     refine AnyT.takeA (i := 9) (v := ?_) rfl (by kernel_rfl) (by kernel_rfl) (by kernel_rfl) (fun _ _ _ h => h) (Or.inl ⟨by rfl, ?_⟩) ?_
     rotate_left 1
     ·(intro w0 _; go_simp; try with_reducible rfl)
     try simp only [Act.put, setIfInBounds_toArray, set_cons_zero, set_cons_succ, getElem_toArray, getElem_cons_zero, getElem_cons_succ]
     refine AnyT.takeA (i := 10) (v := ?_) rfl (by kernel_rfl) (by kernel_rfl) (by kernel_rfl) (fun _ _ _ h => h) (Or.inl ⟨by rfl, ?_⟩) ?_
     rotate_left 1
     ·(intro w0 _; go_simp; try with_reducible rfl)
     try simp only [Act.put, setIfInBounds_toArray, set_cons_zero, set_cons_succ, getElem_toArray, getElem_cons_zero, getElem_cons_succ]
     refine AnyT.takeA (i := 11) (v := .bool true) rfl (by kernel_rfl) (by kernel_rfl) (by kernel_rfl) (fun _ _ _ h => h) (Or.inl ⟨by rfl, fun w0 _ => (by (try go_simp); (try simp [hou]))⟩) ?_
     try simp only [Act.put, setIfInBounds_toArray, set_cons_zero, set_cons_succ, getElem_toArray, getElem_cons_zero, getElem_cons_succ]
     refine AnyT.takeA (i := 12) (v := ?_) rfl (by kernel_rfl) (by kernel_rfl) (by kernel_rfl) (fun _ _ _ h => h) (Or.inl ⟨by rfl, ?_⟩) ?_
     rotate_left 1
     ·(intro w0 _; go_simp; try with_reducible rfl)
     try simp only [Act.put, setIfInBounds_toArray, set_cons_zero, set_cons_succ, getElem_toArray, getElem_cons_zero, getElem_cons_succ]
     refine AnyT.takeA (i := 13) (v := undef) rfl (by kernel_rfl) (by kernel_rfl) (by kernel_rfl) (fun _ _ _ h => h) (Or.inr ⟨by rfl, rfl⟩) ?_
     try simp only [Act.put, setIfInBounds_toArray, set_cons_zero, set_cons_succ, getElem_toArray, getElem_cons_zero, getElem_cons_succ]
     refine AnyT.takeA (i := 14) (v := undef) rfl (by kernel_rfl) (by kernel_rfl) (by kernel_rfl) (fun _ _ _ h => h) (Or.inr ⟨by rfl, rfl⟩) ?_
     try simp only [Act.put, setIfInBounds_toArray, set_cons_zero, set_cons_succ, getElem_toArray, getElem_cons_zero, getElem_cons_succ]
     refine AnyT.takeA (i := 15) (v := ?_) rfl (by kernel_rfl) (by kernel_rfl) (by kernel_rfl) (fun _ _ _ h => h) (Or.inl ⟨by rfl, ?_⟩) ?_
     rotate_left 1
     ·(intro w0 _; go_simp; try with_reducible rfl)
     try simp only [Act.put, setIfInBounds_toArray, set_cons_zero, set_cons_succ, getElem_toArray, getElem_cons_zero, getElem_cons_succ]
     refine AnyT.takeA (i := 16) (v := ?_) rfl (by kernel_rfl) (by kernel_rfl) (by kernel_rfl) (fun _ _ _ h => h) (Or.inl ⟨by rfl, ?_⟩) ?_
     rotate_left 1
     ·(intro w0 _; go_simp; try with_reducible rfl)
     try simp only [Act.put, setIfInBounds_toArray, set_cons_zero, set_cons_succ, getElem_toArray, getElem_cons_zero, getElem_cons_succ]
     refine AnyT.takeA (i := 17) (v := ?_) rfl (by kernel_rfl) (by kernel_rfl) (by kernel_rfl) (fun _ _ _ h => h) (Or.inl ⟨by rfl, ?_⟩) ?_
     rotate_left 1
     ·(intro w0 _; go_simp; try with_reducible rfl)
     try simp only [Act.put, setIfInBounds_toArray, set_cons_zero, set_cons_succ, getElem_toArray, getElem_cons_zero, getElem_cons_succ]
     refine AnyT.takeA (i := 18) (v := ?_) rfl (by kernel_rfl) (by kernel_rfl) (by kernel_rfl) (fun _ _ _ h => h) (Or.inl ⟨by rfl, ?_⟩) ?_
     rotate_left 1
     ·(intro w0 _; go_simp; try with_reducible rfl)
     try simp only [Act.put, setIfInBounds_toArray, set_cons_zero, set_cons_succ, getElem_toArray, getElem_cons_zero, getElem_cons_succ]
     refine AnyT.take (i := 19) (v := ?_) rfl (by kernel_rfl) (by kernel_rfl) (by kernel_rfl) (by kernel_rfl) (fun _ _ _ h => h) (Or.inl ⟨by rfl, ?_⟩) (by assumption) ?_
     rotate_left 1
     ·(intro w0 hSw; (try dsimp only at hSw); go_simp; try with_reducible rfl)
     try simp only [Act.put, setIfInBounds_toArray, set_cons_zero, set_cons_succ, getElem_toArray, getElem_cons_zero, getElem_cons_succ]
     refine AnyT.takeA (i := 20) (v := ?_) rfl (by kernel_rfl) (by kernel_rfl) (by kernel_rfl) (fun _ _ _ h => h) (Or.inl ⟨by rfl, ?_⟩) ?_
     rotate_left 1
     ·(intro w0 _; go_simp; try with_reducible rfl)
     try simp only [Act.put, setIfInBounds_toArray, set_cons_zero, set_cons_succ, getElem_toArray, getElem_cons_zero, getElem_cons_succ]
     refine AnyT.take (i := 21) (v := ?_) rfl (by kernel_rfl) (by kernel_rfl) (by kernel_rfl) (by kernel_rfl) (fun _ _ _ h => h) (Or.inl ⟨by rfl, ?_⟩) (by assumption) ?_
     rotate_left 1
     ·(intro w0 hSw; (try dsimp only at hSw); go_simp; try with_reducible rfl)
     try simp only [Act.put, setIfInBounds_toArray, set_cons_zero, set_cons_succ, getElem_toArray, getElem_cons_zero, getElem_cons_succ]
     refine AnyT.takeA (i := 22) (v := ?_) rfl (by kernel_rfl) (by kernel_rfl) (by kernel_rfl) (fun _ _ _ h => h) (Or.inl ⟨by rfl, ?_⟩) ?_
     rotate_left 1
     ·(intro w0 _; go_simp; try with_reducible rfl)
     try simp only [Act.put, setIfInBounds_toArray, set_cons_zero, set_cons_succ, getElem_toArray, getElem_cons_zero, getElem_cons_succ]
     refine AnyT.takeA (i := 23) (v := ?_) rfl (by kernel_rfl) (by kernel_rfl) (by kernel_rfl) (fun _ _ _ h => h) (Or.inl ⟨by rfl, ?_⟩) ?_
     rotate_left 1
     ·(intro w0 _; go_simp; try with_reducible rfl)
     try simp only [Act.put, setIfInBounds_toArray, set_cons_zero, set_cons_succ, getElem_toArray, getElem_cons_zero, getElem_cons_succ]
     refine AnyT.takeA (i := 24) (v := ?_) rfl (by kernel_rfl) (by kernel_rfl) (by kernel_rfl) (fun _ _ _ h => h) (Or.inl ⟨by rfl, ?_⟩) ?_
     rotate_left 1
     ·(intro w0 _; go_simp; try with_reducible rfl)
     try simp only [Act.put, setIfInBounds_toArray, set_cons_zero, set_cons_succ, getElem_toArray, getElem_cons_zero, getElem_cons_succ]
     refine AnyT.take (i := 25) (v := ?_) rfl (by kernel_rfl) (by kernel_rfl) (by kernel_rfl) (by kernel_rfl) (fun _ _ _ h => h) (Or.inl ⟨by rfl, ?_⟩) (by assumption) ?_
     rotate_left 1
     ·(intro w0 hSw; (try dsimp only at hSw); go_simp; try with_reducible rfl)
     try simp only [Act.put, setIfInBounds_toArray, set_cons_zero, set_cons_succ, getElem_toArray, getElem_cons_zero, getElem_cons_succ]
     refine AnyT.takeA (i := 27) (v := ?_) rfl (by kernel_rfl) (by kernel_rfl) (by kernel_rfl) (fun _ _ _ h => h) (Or.inl ⟨by rfl, ?_⟩) ?_
     rotate_left 1
     ·(intro w0 _; go_simp; try with_reducible rfl)
     try simp only [Act.put, setIfInBounds_toArray, set_cons_zero, set_cons_succ, getElem_toArray, getElem_cons_zero, getElem_cons_succ]
     refine AnyT.call (i := 26) (by kernel_rfl) rfl (fun K hK => ?_)
     try simp only [Act.put, setIfInBounds_toArray, set_cons_zero, set_cons_succ, getElem_toArray, getElem_cons_zero, getElem_cons_succ]
     rw [if_pos (by rfl)]
     go_simp
     (go_at_call 85; refine (LS.out v2 Bv2).mono ?_; rintro e v3 ⟨P, pn, pc, rfl, oP, b3⟩; have Bv3 : Below W.heap.size W v3 := next_trans Bv2 b3; have hv3_0 : v3.cell? ⟨w.heap.size, 0, none⟩ = some (.slice A n cs) := (Bv3.cell (p := ⟨w.heap.size, 0, none⟩) ZA).trans K0; have hv3_1 : v3.cell? ⟨w.heap.size, 1, none⟩ = some (.slice (some ⟨b, off, none⟩) q cv) := (Bv3.cell (p := ⟨w.heap.size, 1, none⟩) ZA).trans K1; have hv3_2 : v3.cell? ⟨b, off + k * 2, none⟩ = some (.slice L ln lc) := (Bv3.cell (p := ⟨b, off + k * 2, none⟩) ZB).trans K2; go_wp2_with fail)
     refine hK.out _ _ (fun _ _ => ?_) (fun hKeep => ?_)
     ·exact ⟨hv3_0, hv3_1, hv3_2⟩
     replace hHeld := hKeep (by first | rfl | trivial) hHeld
     clear hK K hKeep
     try simp only [Act.put, setIfInBounds_toArray, set_cons_zero, set_cons_succ, getElem_toArray, getElem_cons_zero, getElem_cons_succ]
     refine AnyT.call (i := 28) (by kernel_rfl) rfl (fun K hK => ?_)
     try simp only [Act.put, setIfInBounds_toArray, set_cons_zero, set_cons_succ, getElem_toArray, getElem_cons_zero, getElem_cons_succ]
     rw [if_pos (by rfl)]
     go_simp
     (go_at_call 82; refine (containsI P pn pc _ x v3 (Own.seg oP) (by have q1 := Own.len oP; have q2 := HSY.out; omega)).mono ?_; rintro e v4 ⟨rfl, rfl⟩; go_wp2_with fail)
     refine hK.out _ _ (fun _ _ => ?_) (fun hKeep => ?_)
     ·exact ⟨hv3_0, hv3_1, hv3_2⟩
     replace hHeld := hKeep (by first | rfl | trivial) hHeld
     clear hK K hKeep
     try simp only [Act.put, setIfInBounds_toArray, set_cons_zero, set_cons_succ, getElem_toArray, getElem_cons_zero, getElem_cons_succ]
     refine AnyT.takeA (i := 29) (v := ?_) rfl (by kernel_rfl) (by kernel_rfl) (by kernel_rfl) (fun _ _ _ h => h) (Or.inl ⟨by rfl, ?_⟩) ?_
     rotate_left 1
     ·(intro w0 _; go_simp; try with_reducible rfl)
     try simp only [Act.put, setIfInBounds_toArray, set_cons_zero, set_cons_succ, getElem_toArray, getElem_cons_zero, getElem_cons_succ]
     refine AnyT.takeA (i := 30) (v := ?_) rfl (by kernel_rfl) (by kernel_rfl) (by kernel_rfl) (fun _ _ _ h => h) (Or.inl ⟨by rfl, ?_⟩) ?_
     rotate_left 1
     ·(intro w0 _; go_simp; try with_reducible rfl)
     try simp only [Act.put, setIfInBounds_toArray, set_cons_zero, set_cons_succ, getElem_toArray, getElem_cons_zero, getElem_cons_succ]
     refine AnyT.done (by kernel_rfl) ?_ _
     have F := hid (ansB (b := mayB d.2 (k : Int) x u) (a := decide (x ∈ symI d.1 y.1)) HV.out.symm (next_trans BEL.out Bv3))
     clear b1 Bv1 b2 Bv2 b3 Bv3 oP LH1 LH2 LS
     generalize decide (x ∈ symI d.1 y.1) = bz at *
     go_wp2
     go_ret
     exact F.out
end peakImpl
end
section
namespace ufMath
open sig term termOk termFacts fillMath renMath matchMath unifMath forest triMath
open Classical in
noncomputable def wL (n : Nat) (nm : Nat → Int) (nd : Nat → List Int) (ch : Nat → List Nat) (rt : Nat → Nat) (D : List Nat) (j : Nat) : List Int :=
 if h : ∃ i, i < n ∧ nm i < 0 ∧ nd i = [-1 - (j : Int)] then rnd nm ch rt D (Classical.choose h) else vt j
section
variable {sg : List Int} {n : Nat} {nm : Nat → Int} {nd : Nat → List Int} {ch : Nat → List Nat} {Inn : Nat → Prop} {a u : Nat} {lk : List Nat} {rt rk : Nat → Nat} {D : List Nat}
theorem Whole.wL (h : Whole sg n nm nd ch Inn a u lk rt rk D) : ∀ i x, i < n → nm i < 0 → nd i = [x] → ufMath.wL n nm nd ch rt D (vr x) = rnd nm ch rt D i := by
 intro i x hi h0 e
 obtain ⟨x', hx', e'⟩ := h.gr.var i hi h0
 rw [e] at e'
 injection e' with e' _
 subst e'
 have hex : ∃ i, i < n ∧ nm i < 0 ∧ nd i = [-1 - ((vr x : Nat) : Int)] := ⟨i, hi, h0, by rw [at_vr hx']; exact e⟩
 unfold ufMath.wL
 rw [dif_pos hex]
 obtain ⟨h1, h2, h3⟩ := Classical.choose_spec hex
 exact rnd_same (h.lk.vars _ _ h1 hi h2 (by rw [h3, e, at_vr hx']))
theorem Whole.sb (h : Whole sg n nm nd ch Inn a u lk rt rk D) : Sb sg (ufMath.wL n nm nd ch rt D) := by
 intro j
 unfold ufMath.wL
 split
 ·rename_i hex
  obtain ⟨h1, h2, h3⟩ := Classical.choose_spec hex
  refine h.fo ?_
  by_cases h0 : nm (rt (Classical.choose hex)) < 0
  ·exact .inr h0
  ·exact .inl (h.hasD h1 (by omega) (.inl h2))
 ·exact Fo.vt j
theorem Whole.unis (h : Whole sg n nm nd ch Inn a u lk rt rk D) : Unis sg (nd a) (nd u) (ufMath.wL n nm nd ch rt D) := by
 refine ⟨h.sb, ?_⟩
 rw [h.nodes h.wL _ a h.gr.ia.2 h.gr.ia.1 (Nat.le_refl _), h.nodes h.wL _ u h.gr.iu.2 h.gr.iu.1 (Nat.le_refl _)]
 exact rnd_same h.eq
theorem whole_un (h : Whole sg n nm nd ch Inn a u lk rt rk D) : ∃ θ, Unis sg (nd a) (nd u) θ := ⟨_, h.unis⟩
end
end ufMath
end
section
open Go.Lib (hid)
namespace ovAt
open Go.RowKit base ints sig term termOk termFacts sub args sym varsOf marks app appAt segs kinds shape kindsR drawX fillMath matchMath unifMath forest triMath nodes ufMath stk bnd Go.Proofs.Ytfmjhfodjhkmlaa.look pathSpec ruleMath ruleSpec peakMath peakImpl trySpec ovImpl linkImpl finMath doneMap finImpl ovStart ovAdd
set_option maxRecDepth 100000
theorem ov_of {w : World} {p N : Nat} {A X K : Option Addr} {n c xn xc kc : Nat} {v : Value} {o a u : Int} {sg nums : List Int} {lk : List Nat} (hr : Row w p 73 #[.slice A n c, v, .int .i64 o, .int .i64 a, .int .i64 u, .slice X xn xc, .slice K xn kc]) (hX : Own w (p + 1) (.slice X xn xc) nums) (hK : Own w (p + 1) (.slice K xn kc) (castL lk)) (hs : Apart2 X K) (h1 : 1 ≤ xn)
  (hA : Seg w N A n sg) (kA : Cap A n c) (hN : N ≤ p) : ∃ lb, K = some ⟨lb, 0, none⟩ ∧ p < lb ∧ Ov w (Qb w.heap.size p lb) p lb A n c v o a u X xn xc kc sg nums lk := by
 have hl := Own.len hK
 rw [castL_len] at hl
 rcases Own.form hK with ⟨e, -⟩ | ⟨g, c', cur, e, hg, hrow, hsz, hcs⟩
 ·injection e with _ e _
  omega
 ·injection e with e1 e2 e3
  subst e1 e3
  have hpl := hr.lt
  refine ⟨g, rfl, hg, ⟨hr, ?_, ?_, ⟨cur, hrow, hl.symm, fun i hi => ?_⟩, by omega, fun b hb => ⟨hb.2.2, hb.2.1, hb.1⟩⟩⟩
  ·exact rdq_of hA kA fun b hb => ⟨by omega, by omega, by omega⟩
  ·refine rdq_own hX fun b hb1 hb2 hb3 => ⟨hb2, fun e => ?_, by omega⟩
   exact hs b hb3 (by rw [e]; rfl)
  ·rw [hcs i (by rw [castL_len]; omega)]
   unfold castL
   simp [List.getD_eq_getElem?_getD, show i < lk.length by omega]
structure Made (w : World) (lo : Nat) (A : Option Addr) (n c : Nat) (v : Value) (sg : List Int) (rs : List Rl) (o a u p : Nat) : Prop where
 ge : lo ≤ p
 ex : ∃ (lb xc lc : Nat) (X : Option Addr) (N : Nat) (lk : List Nat) (rt rk : Nat → Nat) (D : List Nat), Ov w (Qb N p lb) p lb A n c v (o : Int) (a : Int) (u : Int) X ((lh rs o).length + (lh rs u).length) xc lc sg (lh rs o ++ lh rs u) lk ∧
  Whole sg ((lh rs o).length + (lh rs u).length) (fun i => (lh rs o ++ lh rs u).getD i 0) (nodes.nd sg (lh rs o ++ lh rs u) (lh rs o ++ shiftL 24 (lh rs u))) (chN sg (lh rs o ++ lh rs u)) (inn sg (lh rs o) a) a (lh rs o).length lk rt rk D
def AnsOv (w : World) (A : Option Addr) (n c : Nat) (v : Value) (sg : List Int) (rs : List Rl) (o x u : Int) (e : Ending) (w' : World) : Prop :=
 Below w.heap.size w w' ∧ ((metB sg rs o x u = false ∧ e = .returned (.tuple #[.pointer none, .bool false])) ∨ (metB sg rs o x u = true ∧ ∃ p, e = .returned (.tuple #[.pointer (some ⟨p, 0, none⟩), .bool true]) ∧ Made w' w.heap.size A n c v sg rs o.toNat x.toNat u.toNat p))
theorem ct_le (n : Nat) (rt : Nat → Nat) (F : Int → Option Bool) : Ct n rt F ≤ n := by
 unfold Ct
 have := List.countP_le_length (l := List.range n) (p := fun i => decide (rt i = i) && (F (i : Int)).isNone)
 simpa using this
theorem good_nil (n : Nat) (nm : Nat → Int) (ch : Nat → List Nat) (rt : Nat → Nat) : ufMath.Good n nm ch rt [] := fun j hj => absurd hj (Nat.not_lt_zero _)
theorem underStart (p : Nat) (A V : Option Addr) (n c q cv : Nat) (o : Nat) (T3 T4 T5 T6 : Value) (rs : List Rl) (B : Nat) (w : World) (hr : Row w p 73 #[.slice A n c, .slice V q cv, .int .i64 (o : Int), T3, T4, T5, T6]) (h : Rd w B sRuleS [.slice V q cv] rs) (hl : rs.length = q) (ho : o < q) (hq : q ≤ 1048576) (hsz : sz sRule (rs.getD o ([], [])) ≤ 1048576) :
  Calls Try.prog 69 #[.pointer (some ⟨p, 0, none⟩)] w fun e w' => e = .returned (.int .i64 ((lh rs o).length : Int)) ∧ Below w.heap.size w w' := by
 obtain ⟨b, off, l, r, x, rfl, hb, hx, cL, cR, rd⟩ := rd_at h (Below.refl _ _) hl ho
 obtain ⟨LA, ln, lc, RA, rn, rc, rfl, rfl, sL, kL, -, -, hln, -⟩ := rd_rule rd (by rw [hx.out] at hsz; exact hsz)
 have e : (lh rs o).length = ln := by unfold lh; rw [hx.out]; exact sL.1
 have q1 : w.cell? ⟨p, 1, none⟩ = some (.slice (some ⟨b, off, none⟩) q cv) := hr.cell 1
 have q2 : w.cell? ⟨p, 2, none⟩ = some (.int .i64 (o : Int)) := hr.cell 2
 have j1 : (0 : Int) ≤ (o : Int) := by omega
 have j2 : (o : Int) < (q : Int) := by omega
 rw [e]
 clear hr h rd sL kL cR hx e hsz
 go_enter Try.func69, Try.ntmps69
 go_wp2
 go_quiet (fail)
 go_wp2
 go_ret
 exact ⟨rfl, below_drewN (Below.refl _ _) _⟩
set_option maxHeartbeats 4000000 in
theorem overlapAt (A V : Option Addr) (n c q cv : Nat) (d : Dat sSystem) (o x u : Int) (w : World) (h : Rd w w.heap.size sSystem [.slice A n c, .slice V q cv] d) (hz : sz sSystem d ≤ 1048576) (hok : ∀ k, k < d.2.length → ruleOkB d.1 (d.2.getD k ([], [])) = true) :
  Calls Try.prog 43 #[.agg #[.slice A n c, .slice V q cv], .int .i64 o, .int .i64 x, .int .i64 u] w (AnsOv w A n c (.slice V q cv) d.1 d.2 o x u) := by
 have hterm : ∀ k, k < d.2.length → termOkB d.1 (lh d.2 k) = true := fun k hk => (rule_parts (hok k hk)).1
 obtain ⟨W0, hW0⟩ : ∃ W0, W0 = w.alloc (.cells #[.slice A n c, .slice V q cv] 64) := ⟨_, rfl⟩
 have b0 : Below w.heap.size w W0 := by rw [hW0]; exact (Below.refl _ _).alloc (Nat.le_refl _) _
 have r0 : Row W0 w.heap.size 64 #[.slice A n c, .slice V q cv] := by rw [hW0]; exact Row.new _ _ _
 have z0 : W0.heap.size = w.heap.size + 1 := by rw [hW0]; simp
 have LM := hid (mayOverlap (.slice A n c) (.slice V q cv) d o x u W0 ((h.below b0).more b0.size) hz hterm)
 have k00 : W0.cell? ⟨w.heap.size, 0, none⟩ = some (.slice A n c) := r0.cell 0
 have k01 : W0.cell? ⟨w.heap.size, 1, none⟩ = some (.slice V q cv) := r0.cell 1
 have HW0 := hid hW0
 cases hm : mayB d.2 o x u with
 | false =>
  rw [hm] at LM
  have FM : metB d.1 d.2 o x u = false := by unfold metB; rw [hm]; rfl
  have HF := hid FM
  have HB0 := hid b0
  rw [hW0] at k00 k01
  clear hterm hok h hz hm FM hW0 r0 b0
  go_enter Try.func43, Try.ntmps43
  go_wp2_with fail
  rw [← HW0.out]
  refine LM.out.mono ?_
  rintro e w1 ⟨rfl, bb⟩
  have F := hid (show AnsOv w A n c (.slice V q cv) d.1 d.2 o x u (.returned (.tuple #[.pointer none, .bool false])) w1 from ⟨next_trans HB0.out bb, .inl ⟨HF.out, rfl⟩⟩)
  clear bb
  go_wp2
  go_ret2
  exact F.out
 | true =>
  obtain ⟨⟨ho1, hu1⟩, hs1, -⟩ := may_parts hm
  unfold walkMath.inB at ho1 hu1
  unfold symAt at hs1
  have ho2 := of_decide_eq_true ho1
  have hu2 := of_decide_eq_true hu1
  have hs2 := of_decide_eq_true hs1
  clear ho1 hu1 hs1
  obtain ⟨o, rfl⟩ : ∃ z : Nat, o = (z : Int) := ⟨o.toNat, by omega⟩
  obtain ⟨u, rfl⟩ : ∃ z : Nat, u = (z : Int) := ⟨u.toNat, by omega⟩
  obtain ⟨a, rfl⟩ : ∃ z : Nat, x = (z : Int) := ⟨x.toNat, by omega⟩
  have eo : lhsI d.2 (o : Int) = lh d.2 o := by unfold lhsI lh; rw [Int.toNat_natCast]
  rw [eo] at hs2
  have ha : a < (lh d.2 o).length := by omega
  have ho : o < d.2.length := by omega
  have hu : u < d.2.length := by omega
  clear hs2 ho2 hu2 eo
  rw [hm] at LM
  have tLo := hterm o ho
  have tLu := hterm u hu
  have scO := (term_parts tLo).2.2
  have scU := (term_parts tLu).2.2
  have hars := (sig_arities (term_parts tLo).1).1
  have hvLo : ∀ z ∈ lh d.2 o, -24 ≤ z := fun z hz => (term_mem tLo hz).1
  have hlo60 := term_len tLo
  have hlu60 := term_len tLu
  have HMET := hid (show ∀ b, unB d.1 d.2 o a u = b → metB d.1 d.2 (o : Int) (a : Int) (u : Int) = b from fun b hb => by
   unfold metB
   rw [hm, Int.toNat_natCast, Int.toNat_natCast, Int.toNat_natCast, hb]
   rfl)
  obtain ⟨A1, n1, c1, A2, n2, c2, ea, ev, hA, kA, kV, hlen, hn, hn2, hr, hsg, hrs⟩ := rd_sys h hz
  injection ea with e1 e2 e3
  subst e1 e2 e3
  injection ev with e1 e2 e3
  subst e1 e2 e3
  have hr9 := hr
  obtain ⟨bV, oV, lo, ro, xo, rfl, hbV, hxo, cLo, cRo, rdo⟩ := rd_at hr (Below.refl _ _) hlen (show o < q by omega)
  obtain ⟨bV2, oV2, lu, ru, xu, eV2, -, hxu, cLu, cRu, rdu⟩ := rd_at hr (Below.refl _ _) hlen (show u < q by omega)
  injection eV2 with eV2
  injection eV2 with eb eo
  subst eb eo
  have hsz9 := hrs o (by omega)
  obtain ⟨LA, ln, lc, RA, rn, rc, rfl, rfl, sLo, kLo, sRo, kRo, hln, hrn⟩ := rd_rule rdo (by have := hrs o (by omega); rw [hxo.out] at this; exact this)
  obtain ⟨MA, mn, mc, NA, nn, nc', rfl, rfl, sLu, kLu, sRu, kRu, hmn, hnn⟩ := rd_rule rdu (by have := hrs u (by omega); rw [hxu.out] at this; exact this)
  have eLo : xo.1 = lh d.2 o := by unfold lh; rw [hxo.out]
  have eLu : xu.1 = lh d.2 u := by unfold lh; rw [hxu.out]
  rw [eLo] at sLo
  rw [eLu] at sLu
  have lLo := sLo.1
  have lLu := sLu.1
  have j1 : (0 : Int) ≤ (o : Int) := by omega
  have j2 : (o : Int) < (q : Int) := by omega
  have j3 : (0 : Int) ≤ (u : Int) := by omega
  have j4 : (u : Int) < (q : Int) := by omega
  have HR9 := hid hr9
  have HRS := hid hsz9
  have HLEN := hid hlen
  have HSC := hid (And.intro scO (And.intro scU hvLo))
  have HARS := hid hars
  have HTLU := hid tLu
  have HTLO := hid tLo
  have HSLO := hid (And.intro sLo sLu)
  have HA := hid (And.intro hA kA)
  have HB0 := hid b0
  have HR0 := hid r0
  have HLL := hid (And.intro lLo lLu)
  have HHA := hid ha
  have hln60 : 1 ≤ ln ∧ ln ≤ 60 := by omega
  have hmn60 : 1 ≤ mn ∧ mn ≤ 60 := by omega
  have q3 : W0.cell? ⟨bV, oV + o * 2, none⟩ = some (.slice LA ln lc) := (b0.cell (p := ⟨bV, oV + o * 2, none⟩) hbV).trans cLo
  have q4 : W0.cell? ⟨bV, oV + u * 2, none⟩ = some (.slice MA mn mc) := (b0.cell (p := ⟨bV, oV + u * 2, none⟩) hbV).trans cLu
  have e00 := k00
  have e01 := k01
  rw [hW0] at e00 e01
  clear hterm hok h hz hm hr hsg hrs rdo rdu sRo sRu kRo kRu cLo cRo cLu cRu hxo hxu eLo eLu r0 b0 hW0 scO scU hvLo hars tLo tLu hA sLo sLu hr9 hsz9 hlen lLo lLu ha kLo kLu
  go_enter Try.func43, Try.ntmps43
  go_wp2_with fail
  rw [← HW0.out]
  refine LM.out.mono ?_
  rintro e w1 ⟨rfl, bb⟩
  clear e00 e01
  have z1 := bb.size
  have k10 : w1.cell? ⟨w.heap.size, 0, none⟩ = some (.slice A n c) := (bb.cell (p := ⟨w.heap.size, 0, none⟩) (by rw [z0]; exact Nat.lt_succ_self _)).trans k00
  have k11 : w1.cell? ⟨w.heap.size, 1, none⟩ = some (.slice (some ⟨bV, oV, none⟩) q cv) := (bb.cell (p := ⟨w.heap.size, 1, none⟩) (by rw [z0]; exact Nat.lt_succ_self _)).trans k01
  have hbV0 : bV < W0.heap.size := by rw [z0]; omega
  have k13 := (bb.cell (p := ⟨bV, oV + o * 2, none⟩) hbV0).trans q3
  have k14 := (bb.cell (p := ⟨bV, oV + u * 2, none⟩) hbV0).trans q4
  obtain ⟨p, hp⟩ : ∃ p, p = w1.heap.size := ⟨_, rfl⟩
  have hb1z := HB0.out.size
  obtain ⟨W2, hW2⟩ : ∃ W2, W2 = w1.alloc (.cells #[.slice A n c, .slice (some ⟨bV, oV, none⟩) q cv, .int .i64 (o : Int), .int .i64 (a : Int), .int .i64 (u : Int), .slice none 0 0, .slice none 0 0] 73) := ⟨_, rfl⟩
  have r2 : Row W2 p 73 #[.slice A n c, .slice (some ⟨bV, oV, none⟩) q cv, .int .i64 (o : Int), .int .i64 (a : Int), .int .i64 (u : Int), .slice none 0 0, .slice none 0 0] := by rw [hW2, hp]; exact Row.new _ _ _
  have b12 : Below p w1 W2 := by rw [hW2, hp]; exact (Below.refl _ _).alloc (Nat.le_refl _) _
  have hBp : w.heap.size < p := by rw [hp]; omega
  have bw2 : Below w.heap.size w W2 := (next_trans HB0.out bb).trans (b12.mono (by omega))
  have g1 : W2.cell? ⟨w.heap.size, 1, none⟩ = some (.slice (some ⟨bV, oV, none⟩) q cv) := (b12.cell (p := ⟨w.heap.size, 1, none⟩) hBp).trans k11
  have g3 := (b12.cell (p := ⟨bV, oV + o * 2, none⟩) (show bV < p by omega)).trans k13
  have g4 := (b12.cell (p := ⟨bV, oV + u * 2, none⟩) (show bV < p by omega)).trans k14
  have L1 := hid (ovAdd p _ _ _ _ _ none none LA 0 0 0 ln lc [] [] (lh d.2 o) W2 r2 (Own.nil _ _) (Own.nil _ _) (fun k hk => by cases hk) ((HSLO.out.1.below bw2).more (by omega)) (by omega) (by omega) hln60.1)
  have f1 := g1
  have f3 := g3
  rw [hW2] at f1 f3
  have HP := hid hp
  have HW2 := hid hW2
  clear q3 q4 r2 hW2 k00 k01 hp z1 bb b12 k13 k14 z0
  go_wp2_with fail
  rw [← HW2.out, ← HP.out]
  refine L1.out.mono ?_
  rintro e w3 ⟨⟨v, rfl⟩, X, xc, K, kc, r3, x3, K3, s3, b3⟩
  clear f1 f3 L1 k10 k11
  have h1 := (b3.cell (p := ⟨w.heap.size, 1, none⟩) hBp).trans g1
  have h3 := (b3.cell (p := ⟨bV, oV + o * 2, none⟩) (show bV < p by omega)).trans g3
  have h4 := (b3.cell (p := ⟨bV, oV + u * 2, none⟩) (show bV < p by omega)).trans g4
  have bw3 : Below w.heap.size w w3 := bw2.trans (b3.mono (by omega))
  have L2 := hid (ovAdd p _ _ _ _ _ X K MA (0 + ln) xc kc mn mc _ _ (lh d.2 u) w3 r3 x3 K3 s3 ((HSLO.out.2.below bw3).more (by omega)) (by omega) (by omega) hmn60.1)
  clear r3 x3 K3 s3 b3 bw2
  go_wp2_with fail
  refine L2.out.mono ?_
  rintro e w4 ⟨⟨v, rfl⟩, X2, xc2, K2, kc2, r4, x4, K4, s4, b4⟩
  have bw4 : Below w.heap.size w w4 := bw3.trans (b4.mono (by omega))
  have hp4 := r4.lt
  obtain ⟨eo, eu⟩ := HLL.out
  rw [show 0 + ln + mn = (lh d.2 o).length + (lh d.2 u).length by omega] at r4 x4 K4
  have x4' : Own w4 (p + 1) (.slice X2 ((lh d.2 o).length + (lh d.2 u).length) xc2) (lh d.2 o ++ lh d.2 u) := x4
  have e9 : [] ++ castL (lkT 0 (lh d.2 o) ln) ++ castL (lkT (0 + ln) (lh d.2 u) mn) = castL (lk0 (lh d.2 o) (lh d.2 u)) := by rw [List.nil_append, ← castL_app, Nat.zero_add, ← lkT_all, eo, eu]
  have K4' : Own w4 (p + 1) (.slice K2 ((lh d.2 o).length + (lh d.2 u).length) kc2) (castL (lk0 (lh d.2 o) (lh d.2 u))) := by rw [← e9]; exact K4
  have LU := hid (underStart p A (some ⟨bV, oV, none⟩) n c q cv o _ _ _ _ d.2 w.heap.size w4 r4 (HR9.out.below bw4) HLEN.out (by omega) (by omega) HRS.out)
  obtain ⟨lb, rfl, hlb, O4⟩ := ov_of r4 x4' K4' s4 (by omega) (HA.out.1.below bw4) HA.out.2 (Nat.le_of_lt hBp)
  obtain ⟨scO, scU, hvLo⟩ := HSC.out
  have hN := gr0 (lu := lh d.2 u) scO scU hvLo HHA.out
  have HN := hid hN
  have HNO := hid (show (∀ θ, ¬ Unis d.1 (nodes.nd d.1 (lh d.2 o ++ lh d.2 u) (lh d.2 o ++ shiftL 24 (lh d.2 u)) a) (nodes.nd d.1 (lh d.2 o ++ lh d.2 u) (lh d.2 o ++ shiftL 24 (lh d.2 u)) (lh d.2 o).length) θ) → metB d.1 d.2 (o : Int) (a : Int) (u : Int) = false from fun h => HMET.out false (unB_no (by rw [nd_lo scO HHA.out, nd_lu scU] at h; exact h)))
  have HYES := hid (show (∃ θ, Unis d.1 (nodes.nd d.1 (lh d.2 o ++ lh d.2 u) (lh d.2 o ++ shiftL 24 (lh d.2 u)) a) (nodes.nd d.1 (lh d.2 o ++ lh d.2 u) (lh d.2 o ++ shiftL 24 (lh d.2 u)) (lh d.2 o).length) θ) → metB d.1 d.2 (o : Int) (a : Int) (u : Int) = true from fun h => HMET.out true (by
   obtain ⟨θ, h⟩ := h
   rw [nd_lo scO HHA.out, nd_lu scU] at h
   exact unB_yes h))
  have LK := hid (fun (w5 : World) (b5 : Below w4.heap.size w4 w5) => link (Qb w4.heap.size p lb) p lb A n c (.slice (some ⟨bV, oV, none⟩) q cv) (o : Int) (a : Int) (u : Int) X2 ((lh d.2 o).length + (lh d.2 u).length) xc2 kc2 d.1 (lh d.2 o ++ lh d.2 u) (lh d.2 o ++ shiftL 24 (lh d.2 u)) (inn d.1 (lh d.2 o) a) a (lh d.2 o).length hN HARS.out (by omega) (by omega) (roots (lk0 (lh d.2 o) (lh d.2 u))) _ _ _ (fun _ _ => False) a (lh d.2 o).length w5 (Nat.le_refl _) (O4.next b5) (lk0_ok scO scU hvLo a) (snd0 scO scU a _) (clo0 _) hN.gr.ia.2 hN.gr.iu.2 ⟨a, hN.gr.ia.2, hN.gr.ia.1, rfl⟩ ⟨_, hN.gr.iu.2, hN.gr.iu.1, rfl⟩ (fun θ hθ => hθ.2))
  have HSC2 := hid (And.intro scO (And.intro scU hvLo))
  have zz4 := b4.size
  clear r4 x4 K4 x4' K4' s4 b4 bw3 L2 O4 hN scO scU hvLo h1 h3 h4 g1 g3 g4 HSC eo eu e9
  go_wp2_with fail
  refine LU.out.mono ?_
  rintro e w5 ⟨rfl, b5⟩
  have LK5 := hid (LK.out w5 b5)
  have z5 := b5.size
  have bw5 : Below w.heap.size w w5 := next_trans bw4 b5
  clear LK LU b5
  go_wp2_with fail
  refine LK5.out.mono ?_
  rintro e w6 ⟨ok, lk', rfl, O6, g6, hyes, hno⟩
  have bw6 : Below w.heap.size w w6 := bw5.grown g6 (by have := bw5.size; omega) (fun k hk => by injection hk; omega)
  clear LK5
  cases ok with
  | false =>
   have F := hid (show AnsOv w A n c (.slice (some ⟨bV, oV, none⟩) q cv) d.1 d.2 (o : Int) (a : Int) (u : Int) (.returned (.tuple #[.pointer none, .bool false])) w6 from ⟨bw6, .inl ⟨HNO.out (hno rfl), rfl⟩⟩)
   clear O6 g6 hyes hno bw6 bw5 bw4
   go_wp2
   go_ret2
   exact F.out
  | true =>
   obtain ⟨rt', rk', hL', hS', hC', he', -, -⟩ := hyes rfl
   clear hno hyes
   have z6 := g6.size
   have hlb6 := O6.lt.2
   obtain ⟨W7, hW7⟩ : ∃ W7, W7 = w6.alloc (.map #[] 0) := ⟨_, rfl⟩
   have b7 : Below w6.heap.size w6 W7 := by rw [hW7]; exact (Below.refl _ _).alloc (Nat.le_refl _) _
   have z7 : W7.heap.size = w6.heap.size + 1 := by rw [hW7]; simp
   have D7 : Dn W7 w6.heap.size 0 (fun _ => none) := by rw [hW7]; exact dn_made w6
   have O7 := O6.next b7
   have hct := ct_le ((lh d.2 o).length + (lh d.2 u).length) rt' (fun _ => none)
   have LF := hid (isFinite (Qb w4.heap.size p lb) p lb A n c (.slice (some ⟨bV, oV, none⟩) q cv) (o : Int) (a : Int) (u : Int) X2 ((lh d.2 o).length + (lh d.2 u).length) xc2 kc2 d.1 (lh d.2 o ++ lh d.2 u) (lh d.2 o ++ shiftL 24 (lh d.2 u)) (inn d.1 (lh d.2 o) a) a (lh d.2 o).length HN.out HARS.out (by omega) (by omega) lk' rt' rk' hL' hS' w6.heap.size (by omega) (by omega) (fun z hz => by have := hz.1; omega)
    (Ct ((lh d.2 o).length + (lh d.2 u).length) rt' (fun _ => none) + 1) [] [] (fun _ => none) 0 a W7 (Nat.lt_succ_self _) O7 D7 (by omega) Mk.start (good_nil _ _ _ _) HN.out.gr.ia.2 ⟨a, HN.out.gr.ia.2, HN.out.gr.ia.1, rfl⟩ (fun r hr => by cases hr))
   have HW7 := hid hW7
   have HFN := hid (And.intro hL' (And.intro hS' (And.intro hC' he')))
   have HO7 := hid O7
   have bw7 : Below w.heap.size w W7 := next_trans bw6 b7
   clear O6 g6 bw6 bw5 bw4 hL' hS' hC' he' O7 D7 hct b7 hW7
   have hmm := @run_makeMap Try.prog
   go_wp2_with fail
   rw [← HW7.out]
   refine LF.out.mono ?_
   rintro e w8 ⟨ok2, rfl, g8, h8y, h8n⟩
   have bw8 : Below w.heap.size w w8 := bw7.grown g8 (by have := bw7.size; omega) (fun k hk => by injection hk; omega)
   cases ok2 with
   | false =>
    have F := hid (show AnsOv w A n c (.slice (some ⟨bV, oV, none⟩) q cv) d.1 d.2 (o : Int) (a : Int) (u : Int) (.returned (.tuple #[.pointer none, .bool false])) w8 from ⟨bw8, .inl ⟨HNO.out (h8n rfl), rfl⟩⟩)
    clear bw7 bw8 g8 h8y h8n LF
    go_wp2
    go_ret2
    exact F.out
   | true =>
    obtain ⟨E, nn', F', -, -, -, -, hG, hrD⟩ := h8y rfl
    obtain ⟨hL', hS', hC', he'⟩ := HFN.out
    obtain ⟨scO, scU, hvLo⟩ := HSC2.out
    have hWh := whole_of scO scU hvLo HHA.out hL' hS' hC' he' hG hrD
    have hun : metB d.1 d.2 (o : Int) (a : Int) (u : Int) = true := HYES.out (whole_un hWh)
    have F := hid (show AnsOv w A n c (.slice (some ⟨bV, oV, none⟩) q cv) d.1 d.2 (o : Int) (a : Int) (u : Int) (.returned (.tuple #[.pointer (some ⟨p, 0, none⟩), .bool true])) w8 from
     ⟨bw8, .inr ⟨hun, p, rfl, ⟨Nat.le_of_lt hBp, lb, xc2, kc2, X2, w4.heap.size, lk', rt', rk', _, Ov.grown HO7.out g8 (by omega) (by omega) (fun z hz => by have := hz.1; omega), hWh⟩⟩⟩)
    clear bw7 bw8 g8 h8y h8n LF hL' hS' hC' he' scO scU hvLo hWh hun hG hrD
    go_wp2
    go_ret2
    exact F.out
end ovAt
end
section
open Go.Lib (hid)
namespace overSpec
open Go.RowKit base ints sig term termOk termFacts sub sym varsOf marks app appAt segs kinds shape kindsR drawX fillMath matchMath Go.Proofs.Ytfmjhfodjhkmlaa.look ruleMath ruleSpec peakMath peakSpec trySpec
set_option maxRecDepth 100000
noncomputable def ovN (sg : List Int) (rs : List Rl) (o u k : Nat) : List Int := ((List.range k).filter fun a : Nat => metB sg rs (o : Int) (a : Int) (u : Int)).map fun a : Nat => (a : Int)
noncomputable def ovI (sg : List Int) (rs : List Rl) (x y : Int) : List Int := if sysOkB sg rs = true ∧ walkMath.inB x rs.length = true ∧ walkMath.inB y rs.length = true then ovN sg rs x.toNat y.toNat (lh rs x.toNat).length else []
variable {sg : List Int} {rs : List Rl}
theorem ov_yes {o u k : Nat} (h : metB sg rs o k u = true) : ovN sg rs o u (k + 1) = ovN sg rs o u k ++ [(k : Int)] := by
 unfold ovN
 rw [List.range_succ, List.filter_append, List.map_append]
 simp [h]
theorem ov_no {o u k : Nat} (h : metB sg rs o k u = false) : ovN sg rs o u (k + 1) = ovN sg rs o u k := by
 unfold ovN
 rw [List.range_succ, List.filter_append, List.map_append]
 simp [h]
theorem ov_len (o u k : Nat) : (ovN sg rs o u k).length ≤ k := by
 unfold ovN
 rw [List.length_map]
 exact Nat.le_trans (List.length_filter_le _ _) (by simp)
theorem ovI_len (x y : Int) : (ovI sg rs x y).length ≤ 60 := by
 unfold ovI
 split
 ·rename_i h
  refine Nat.le_trans (ov_len _ _ _) ?_
  have hx : 0 ≤ x ∧ x < (rs.length : Int) := of_decide_eq_true h.2.1
  exact (term_len (lh_ok h.1 (o := x.toNat) (by omega))).2
 ·simp
def HeadOv (w : World) (S : Array Value) (sg : List Int) (rs : List Rl) (o u m : Nat) (out i : Value) (wr : World) : Prop :=
 ∃ (k on oc : Nat) (O : Option Addr), k ≤ m ∧ i = .int .i64 (k : Int) ∧ out = .slice O on oc ∧ Own wr (w.heap.size + 1) (.slice O on oc) (ovN sg rs o u k) ∧ Row wr w.heap.size 33 S ∧ Below w.heap.size w wr
set_option maxHeartbeats 1000000 in
theorem specOverlaps (a v : Value) (d : Dat sSystem) (x y : Int) (w : World) (h : Rd w w.heap.size sSystem [a, v] d) (hz : sz sSystem d ≤ 1048576) :
  Calls Try.prog 8 #[.agg #[a, v], .int .i64 x, .int .i64 y] w (AnsList w (ovI d.1 d.2 x y)) := by
 obtain ⟨A, n, c, V, q, cv, rfl, rfl, hA, kA, kV, hlen, hn, hn2, hr, hsg, hrs⟩ := rd_sys h hz
 obtain ⟨W, hW⟩ : ∃ W, W = (w.alloc (.cells #[.slice A n c, .slice V q cv] 33)).alloc (.cells #[] 2) := ⟨_, rfl⟩
 have z1 : (w.alloc (.cells #[.slice A n c, .slice V q cv] 33)).heap.size = w.heap.size + 1 := by simp
 have bW : Below w.heap.size w W := by rw [hW]; exact ((Below.refl _ _).alloc (Nat.le_refl _) _).alloc (by simp) _
 have rX : Row W w.heap.size 33 #[.slice A n c, .slice V q cv] := by rw [hW]; exact (Row.new _ _ _).alloc _
 have oW : Own W (w.heap.size + 1) (.slice (some ⟨w.heap.size + 1, 0, none⟩) 0 0) [] := by
  have h1 := own_empty (w.alloc (.cells #[.slice A n c, .slice V q cv] 33)) (w.heap.size + 1) (by rw [z1]; exact Nat.le_refl _)
  rw [z1, ← hW] at h1
  exact h1
 have g0 : W.cell? ⟨w.heap.size, 0, none⟩ = some (.slice A n c) := rX.cell 0
 have g1 : W.cell? ⟨w.heap.size, 1, none⟩ = some (.slice V q cv) := rX.cell 1
 have k0 := g0; have k1 := g1
 rw [hW] at k0 k1
 have LS := hid (specSystemOk _ _ d W (h.next bW) hz)
 have LR := hid (fun (r : Int) (w1 : World) => specRule (.slice A n c) V q cv r w1 hn2)
 have H := hid h
 have HW := hid hW
 have HX := hid rX
 have HB := hid bW
 have HLEN := hid hlen
 have off : ∀ (w1 : World), Below W.heap.size W w1 → ovI d.1 d.2 x y = [] → AnsList w (ovI d.1 d.2 x y) (.returned (.slice (some ⟨w.heap.size + 1, 0, none⟩) 0 0)) w1 := fun w1 bb e => by
  rw [e]
  exact ⟨_, 0, 0, rfl, Own.lower (Own.next oW bb) (Nat.le_succ _), next_trans bW bb⟩
 have OFF := hid off
 have OW := hid oW
 clear off h hA kA kV hW rX bW hsg oW
 cases ok : sysOkB d.1 d.2 with
 | false =>
  have HS := hid ok
  have e := hid (show ovI d.1 d.2 x y = [] from by unfold ovI; rw [if_neg (fun h => by rw [ok] at h; exact absurd h.1 (by simp))])
  clear ok hr hrs hlen
  go_enter Try.func8, Try.ntmps8
  go_wp2_with fail
  rw [← HW.out]
  refine LS.out.mono ?_
  rintro e1 w1 ⟨he, bb⟩
  rw [HS.out] at he
  subst he
  have F := hid (OFF.out w1 bb e.out)
  clear bb
  go_wp2
  go_ret
  exact F.out
 | true =>
  have HS := hid ok
  cases hx : walkMath.inB x q with
  | false =>
   have HX1 := hid hx
   have e := hid (show ovI d.1 d.2 x y = [] from by unfold ovI; rw [if_neg (fun h => by rw [hlen, hx] at h; exact absurd h.2.1 (by simp))])
   clear ok hr hrs hlen hx
   go_enter Try.func8, Try.ntmps8
   go_wp2_with fail
   rw [← HW.out]
   refine LS.out.mono ?_
   rintro e1 w1 ⟨he, bb⟩
   rw [HS.out] at he
   subst he
   have m0 : w1.cell? ⟨w.heap.size, 0, none⟩ = some (.slice A n c) := (HX.out.next bb).cell 0
   have m1 : w1.cell? ⟨w.heap.size, 1, none⟩ = some (.slice V q cv) := (HX.out.next bb).cell 1
   have R1 := hid (LR.out x w1)
   go_wp2_with fail
   refine R1.out.mono ?_
   rintro e2 w2 ⟨he, b2⟩
   rw [HX1.out] at he
   subst he
   have F := hid (OFF.out w2 (next_trans bb b2) e.out)
   clear bb b2
   go_wp2
   go_ret
   exact F.out
  | true =>
   have HX1 := hid hx
   cases hy : walkMath.inB y q with
   | false =>
    have HY1 := hid hy
    have e := hid (show ovI d.1 d.2 x y = [] from by unfold ovI; rw [if_neg (fun h => by rw [hlen, hy] at h; exact absurd h.2.2 (by simp))])
    clear ok hr hrs hlen hx hy
    go_enter Try.func8, Try.ntmps8
    go_wp2_with fail
    rw [← HW.out]
    refine LS.out.mono ?_
    rintro e1 w1 ⟨he, bb⟩
    rw [HS.out] at he
    subst he
    have m0 : w1.cell? ⟨w.heap.size, 0, none⟩ = some (.slice A n c) := (HX.out.next bb).cell 0
    have m1 : w1.cell? ⟨w.heap.size, 1, none⟩ = some (.slice V q cv) := (HX.out.next bb).cell 1
    have R1 := hid (LR.out x w1)
    go_wp2_with fail
    refine R1.out.mono ?_
    rintro e2 w2 ⟨he, b2⟩
    rw [HX1.out] at he
    subst he
    have n0 : w2.cell? ⟨w.heap.size, 0, none⟩ = some (.slice A n c) := ((HX.out.next bb).next b2).cell 0
    have n1 : w2.cell? ⟨w.heap.size, 1, none⟩ = some (.slice V q cv) := ((HX.out.next bb).next b2).cell 1
    have R2 := hid (LR.out y w2)
    go_wp2_with fail
    refine R2.out.mono ?_
    rintro e3 w3 ⟨he, b3⟩
    rw [HY1.out] at he
    subst he
    have F := hid (OFF.out w3 (next_trans (next_trans bb b2) b3) e.out)
    clear bb b2 b3
    go_wp2
    go_ret
    exact F.out
   | true =>
    have HY1 := hid hy
    have hx9 : 0 ≤ x ∧ x < (q : Int) := of_decide_eq_true hx
    have hy9 : 0 ≤ y ∧ y < (q : Int) := of_decide_eq_true hy
    obtain ⟨o, rfl⟩ := Int.eq_ofNat_of_zero_le hx9.1
    obtain ⟨u, rfl⟩ := Int.eq_ofNat_of_zero_le hy9.1
    have hoq : o < q := by omega
    have huq : u < q := by omega
    have e := hid (show ovI d.1 d.2 o u = ovN d.1 d.2 o u (lh d.2 o).length from by unfold ovI; rw [if_pos ⟨ok, by rw [hlen]; exact hx, by rw [hlen]; exact hy⟩, Int.toNat_natCast, Int.toNat_natCast])
    obtain ⟨bV, oV, lo, ro, xo, rfl, hbV, hxo, cLo, cRo, rdo⟩ := rd_at hr (Below.refl _ _) hlen hoq
    obtain ⟨LA, ln, lc, RA, rn, rc, rfl, rfl, sLo, kLo, sRo, kRo, hln, hrn⟩ := rd_rule rdo (by have := hrs o (by omega); rw [hxo.out] at this; exact this)
    have eLo : xo.1 = lh d.2 o := by unfold lh; rw [hxo.out]
    rw [eLo] at sLo
    have HLL := hid sLo.1
    have hl60 : ln ≤ 60 := by have := (term_len (lh_ok ok (o := o) (by rw [hlen]; exact hoq))).2; rw [sLo.1] at this; exact this
    have LM := hid (fun (X : Int) (w1 : World) (bb : Below w.heap.size w w1) => l11Meets A (some ⟨bV, oV, none⟩) n c q cv d o u X w1 (H.out.next bb) hz ok (by rw [hlen]; exact hoq) (by rw [hlen]; exact huq))
    have j1 : (0 : Int) ≤ (o : Int) := by omega
    have j2 : (o : Int) < (q : Int) := by omega
    clear ok hr hrs hlen hx hy rdo sRo kRo cRo hxo eLo sLo hx9 hy9
    go_enter Try.func8, Try.ntmps8
    go_wp2_with fail
    rw [← HW.out]
    refine LS.out.mono ?_
    rintro e1 w1 ⟨he, bb⟩
    rw [HS.out] at he
    subst he
    have m0 : w1.cell? ⟨w.heap.size, 0, none⟩ = some (.slice A n c) := (HX.out.next bb).cell 0
    have m1 : w1.cell? ⟨w.heap.size, 1, none⟩ = some (.slice (some ⟨bV, oV, none⟩) q cv) := (HX.out.next bb).cell 1
    have R1 := hid (LR.out o w1)
    go_wp2_with fail
    refine R1.out.mono ?_
    rintro e2 w2 ⟨he, b2⟩
    rw [HX1.out] at he
    subst he
    have n0 : w2.cell? ⟨w.heap.size, 0, none⟩ = some (.slice A n c) := ((HX.out.next bb).next b2).cell 0
    have n1 : w2.cell? ⟨w.heap.size, 1, none⟩ = some (.slice (some ⟨bV, oV, none⟩) q cv) := ((HX.out.next bb).next b2).cell 1
    have R2 := hid (LR.out u w2)
    go_wp2_with fail
    refine R2.out.mono ?_
    rintro e3 w3 ⟨he, b3⟩
    rw [HY1.out] at he
    subst he
    have b13 := next_trans (next_trans bb b2) b3
    have S0 := hid (show HeadOv w #[.slice A n c, .slice (some ⟨bV, oV, none⟩) q cv] d.1 d.2 o u ln (.slice (some ⟨w.heap.size + 1, 0, none⟩) 0 0) (.int .i64 0) w3 from ⟨0, 0, 0, _, Nat.zero_le _, rfl, rfl, Own.next OW.out b13, HX.out.next b13, next_trans HB.out b13⟩)
    clear bb b2 b3 b13 m0 m1 n0 n1 R1 R2 LR LS OFF OW HX HB k0 k1
    go_wp2_with fail
    go_loopw [7, 8] (fun out i wr => HeadOv w #[.slice A n c, .slice (some ⟨bV, oV, none⟩) q cv] d.1 d.2 o u ln out i wr) (fun _ i _ => ln - (intOf i).toNat)
    case atStart => exact S0.out
    case round =>
     clear S0
     obtain ⟨k, on, oc, O, hk, rfl, rfl, hO, rX, hb⟩ := hrel
     have a0 : wr.cell? ⟨w.heap.size, 0, none⟩ = some (.slice A n c) := rX.cell 0
     have a1 : wr.cell? ⟨w.heap.size, 1, none⟩ = some (.slice (some ⟨bV, oV, none⟩) q cv) := rX.cell 1
     have a2 : wr.cell? ⟨bV, oV + o * 2, none⟩ = some (.slice LA ln lc) := (hb.cell (p := ⟨bV, oV + o * 2, none⟩) hbV).trans cLo
     by_cases hlt : k < ln
     ·have i1 : (k : Int) < (ln : Int) := by omega
      have LM1 := hid (LM.out k wr hb)
      have hon : on ≤ 60 := by rw [Own.len hO]; exact Nat.le_trans (ov_len o u k) (by omega)
      go_wp2_with fail
      refine LM1.out.mono ?_
      rintro e4 w4 ⟨he, b4⟩
      have hO4 := Own.next hO b4
      have rX4 := rX.next b4
      have hb4 := next_trans hb b4
      have z4 := rX4.lt
      clear hO rX hb b4 a0 a1 a2 LM1
      cases hm : metB d.1 d.2 o k u with
      | false =>
       rw [hm] at he
       subst he
       have F := hid (show HeadOv w #[.slice A n c, .slice (some ⟨bV, oV, none⟩) q cv] d.1 d.2 o u ln (.slice O on oc) (.int .i64 ((k : Int) + 1)) w4 from ⟨k + 1, on, oc, O, hlt, by simp, rfl, by rw [ov_no hm]; exact hO4, rX4, hb4⟩)
       clear hm hO4 rX4 hb4
       go_wp2
       go_roundw
       case rel => exact F.out
       case measure => simp [intOf]; omega
      | true =>
       rw [hm] at he
       subst he
       have R := hid (fun (w5 : World) (O' : Option Addr) (oc' : Nat) (ho : Own w5 (w.heap.size + 1) (.slice O' (on + 1) oc') (ovN d.1 d.2 o u k ++ [(k : Int)])) (b5 : Below (w.heap.size + 1) (w4.alloc (.cells #[.int .i64 (k : Int)] 2)) w5) =>
        (show HeadOv w #[.slice A n c, .slice (some ⟨bV, oV, none⟩) q cv] d.1 d.2 o u ln (.slice O' (on + 1) oc') (.int .i64 ((k : Int) + 1)) w5 from ⟨k + 1, on + 1, oc', O', hlt, by simp, rfl, by rw [ov_yes hm]; exact ho, (rX4.alloc _).below b5 (Nat.lt_succ_self _), (hb4.alloc hb4.size _).trans (b5.mono (Nat.le_succ _))⟩))
       clear hm
       go_wp2_with (at_builtin; refine app1 rfl _ _ rfl (w.heap.size + 1) O on oc _ rfl (Own.alloc hO4 _) w4.heap.size 1 (k : Int) rfl ((Row.new _ _ _).cell 0) (by omega) (by simp; omega) ?_; intro O' oc' w5 ho5 b5; have G := hid (R.out w5 O' oc' ho5 b5); clear ho5 b5 R hO4 rX4 hb4)
       go_roundw
       case rel => exact G.out
       case measure => simp [intOf]; omega
     ·have hkn : k = ln := by omega
      have i1 : ¬ (k : Int) < (ln : Int) := by omega
      have F := hid (show AnsList w (ovI d.1 d.2 o u) (.returned (.slice O on oc)) wr from ⟨O, on, oc, rfl, by rw [e.out, HLL.out, ← hkn]; exact Own.lower hO (Nat.le_succ _), hb⟩)
      clear hO rX hb hkn
      go_wp2
      go_ret
      exact F.out
end overSpec
end
section
namespace ovsMath
open sig ruleMath trySpec overSpec
section
variable (met : Nat → Nat → Nat → Bool) (wB : Nat → Nat → Bool) (len : Nat → Nat) (n : Nat)
def rowV (o a k : Nat) : List (Nat × Nat × Nat) := (List.range k).filterMap fun u => if (wB o u && met o a u) = true then some (o, a, u) else none
def colV (o k : Nat) : List (Nat × Nat × Nat) := (List.range k).flatMap fun a => rowV met wB o a n
def allV (k : Nat) : List (Nat × Nat × Nat) := (List.range k).flatMap fun o => colV met wB n o (len o)
end
section
variable {met : Nat → Nat → Nat → Bool} {wB : Nat → Nat → Bool} {len : Nat → Nat} {n : Nat}
theorem row_yes {o a u : Nat} (h1 : wB o u = true) (h2 : met o a u = true) : rowV met wB o a (u + 1) = rowV met wB o a u ++ [(o, a, u)] := by
 unfold rowV
 rw [List.range_succ, List.filterMap_append]
 simp [h1, h2]
theorem row_no {o a u : Nat} (h : (wB o u && met o a u) = false) : rowV met wB o a (u + 1) = rowV met wB o a u := by
 unfold rowV
 rw [List.range_succ, List.filterMap_append]
 simp only [List.filterMap_cons, h, Bool.false_eq_true, if_false, List.filterMap_nil, List.append_nil]
theorem col_succ (o a : Nat) : colV met wB n o (a + 1) = colV met wB n o a ++ rowV met wB o a n := by simp [colV, List.range_succ]
theorem all_succ (o : Nat) : allV met wB len n (o + 1) = allV met wB len n o ++ colV met wB n o (len o) := by simp [allV, List.range_succ]
theorem pre_of_le {α : Type} {f : Nat → List α} (h : ∀ k, f k <+: f (k + 1)) : ∀ {x y : Nat}, x ≤ y → f x <+: f y := by
 intro x y hxy
 obtain ⟨d, rfl⟩ : ∃ d, y = x + d := ⟨y - x, by omega⟩
 clear hxy
 induction d with
 | zero => exact List.prefix_refl _
 | succ d ih => exact ih.trans (h (x + d))
theorem row_pre {o a k q : Nat} (h : k ≤ q) : rowV met wB o a k <+: rowV met wB o a q := by
 refine pre_of_le (f := rowV met wB o a) (fun j => ?_) h
 cases hb : wB o j && met o a j with
 | false => rw [row_no hb]; exact List.prefix_refl _
 | true =>
  rw [Bool.and_eq_true] at hb
  rw [row_yes hb.1 hb.2]
  exact List.prefix_append _ _
theorem col_pre {o k q : Nat} (h : k ≤ q) : colV met wB n o k <+: colV met wB n o q :=
 pre_of_le (f := colV met wB n o) (fun j => by rw [col_succ]; exact List.prefix_append _ _) h
theorem all_pre {k q : Nat} (h : k ≤ q) : allV met wB len n k <+: allV met wB len n q :=
 pre_of_le (f := allV met wB len n) (fun j => by rw [all_succ]; exact List.prefix_append _ _) h
theorem part_pre {o a u r : Nat} (ho : o < r) (ha : a < len o) (hu : u ≤ n) : allV met wB len n o ++ (colV met wB n o a ++ rowV met wB o a u) <+: allV met wB len n r := by
 have h1 : rowV met wB o a u <+: rowV met wB o a n := row_pre hu
 have h2 : colV met wB n o a ++ rowV met wB o a n <+: colV met wB n o (len o) := by
  rw [← col_succ]
  exact col_pre ha
 have h3 : allV met wB len n o ++ colV met wB n o (len o) <+: allV met wB len n r := by
  rw [← all_succ]
  exact all_pre ho
 exact ((List.prefix_append_right_inj _).2 (((List.prefix_append_right_inj _).2 h1).trans h2)).trans h3
theorem mem_all {o a u r : Nat} (h : (o, a, u) ∈ allV met wB len n r) : (o < r ∧ a < len o ∧ u < n) ∧ wB o u = true ∧ met o a u = true := by
 unfold allV at h
 obtain ⟨o', ho', h⟩ := List.mem_flatMap.1 h
 unfold colV at h
 obtain ⟨a', ha', h⟩ := List.mem_flatMap.1 h
 unfold rowV at h
 obtain ⟨u', hu', h⟩ := List.mem_filterMap.1 h
 split at h
 ·rename_i hb
  injection h with h
  injection h with e1 h
  injection h with e2 e3
  subst e1 e2 e3
  rw [Bool.and_eq_true] at hb
  exact ⟨⟨List.mem_range.1 ho', List.mem_range.1 ha', List.mem_range.1 hu'⟩, hb⟩
 ·cases h
end
def pairB (x y : Int) (o u : Nat) : Bool := decide ((o : Int) = x ∧ (u : Int) = y)
section
variable {met : Nat → Nat → Nat → Bool} {len : Nat → Nat} {n X Y : Nat}
theorem row_pair (o a : Nat) : ∀ k, (rowV met (pairB X Y) o a k).map (fun t => (t.2.1 : Int)) = if o = X ∧ Y < k ∧ met o a Y = true then [(a : Int)] else []
 | 0 => by simp [rowV]
 | k + 1 => by
  have ih := row_pair o a k
  by_cases hb : (pairB X Y o k && met o a k) = true
  ·rw [Bool.and_eq_true] at hb
   have h1 := hb.1
   unfold pairB at h1
   have h2 := of_decide_eq_true h1
   have eo : o = X := by omega
   have ek : k = Y := by omega
   subst eo ek
   rw [row_yes hb.1 hb.2, List.map_append, ih, if_neg (by omega), if_pos ⟨rfl, by omega, hb.2⟩]
   rfl
  ·rw [row_no (by simpa using hb), ih]
   by_cases h : o = X ∧ Y < k ∧ met o a Y = true
   ·rw [if_pos h, if_pos ⟨h.1, by omega, h.2.2⟩]
   ·rw [if_neg h, if_neg fun h' => ?_]
    by_cases e : Y < k
    ·exact h ⟨h'.1, e, h'.2.2⟩
    ·have : k = Y := by omega
     subst this
     refine hb ?_
     rw [Bool.and_eq_true]
     refine ⟨?_, h'.2.2⟩
     unfold pairB
     exact decide_eq_true ⟨by rw [h'.1], rfl⟩
theorem col_pair (o : Nat) : ∀ k, (colV met (pairB X Y) n o k).map (fun t => (t.2.1 : Int)) = if o = X ∧ Y < n then ((List.range k).filter fun a => met X a Y).map (fun a : Nat => (a : Int)) else []
 | 0 => by simp [colV]
 | k + 1 => by
  rw [col_succ, List.map_append, col_pair o k, row_pair]
  by_cases h : o = X ∧ Y < n
  ·obtain ⟨rfl, h2⟩ := h
   have e1 : (if o = o ∧ Y < n ∧ met o k Y = true then [(k : Int)] else []) = (([k] : List Nat).filter fun a => met o a Y).map (fun a : Nat => (a : Int)) := by
    by_cases hm : met o k Y = true
    ·rw [if_pos ⟨rfl, h2, hm⟩]
     simp [hm]
    ·rw [if_neg fun h => hm h.2.2]
     simp [hm]
   have e3 : o = o ∧ Y < n := ⟨rfl, h2⟩
   rw [e1, if_pos e3, if_pos e3, List.range_succ, List.filter_append, List.map_append]
  ·have e2 : ¬ (o = X ∧ Y < n ∧ met o k Y = true) := fun h' => h ⟨h'.1, h'.2.1⟩
   rw [if_neg h, if_neg h, if_neg e2]
   rfl
theorem all_pair : ∀ r, (allV met (pairB X Y) len n r).map (fun t => (t.2.1 : Int)) = if X < r ∧ Y < n then ((List.range (len X)).filter fun a => met X a Y).map (fun a : Nat => (a : Int)) else []
 | 0 => by simp [allV]
 | r + 1 => by
  rw [all_succ, List.map_append, all_pair r, col_pair]
  by_cases h : X < r ∧ Y < n
  ·rw [if_pos h, if_neg (by omega), if_pos ⟨by omega, h.2⟩, List.append_nil]
  ·rw [if_neg h]
   by_cases h2 : r = X ∧ Y < n
   ·obtain ⟨rfl, h3⟩ := h2
    rw [if_pos ⟨rfl, h3⟩, if_pos ⟨by omega, h3⟩]
    rfl
   ·rw [if_neg h2, if_neg (by omega)]
    rfl
theorem none_pair {x y : Int} (h : ¬ (0 ≤ x ∧ 0 ≤ y)) : ∀ r, allV met (pairB x y) len n r = [] := by
 intro r
 cases hl : allV met (pairB x y) len n r with
 | nil => rfl
 | cons t l =>
  obtain ⟨o, a, u⟩ := t
  have := (mem_all (met := met) (wB := pairB x y) (len := len) (n := n) (r := r) (o := o) (a := a) (u := u) (by rw [hl]; exact List.mem_cons_self ..)).2.1
  unfold pairB at this
  have := of_decide_eq_true this
  omega
end
noncomputable def ovs (sg : List Int) (rs : List Rl) (wB : Nat → Nat → Bool) : List (Nat × Nat × Nat) := allV (fun o a u => metB sg rs (o : Int) (a : Int) (u : Int)) wB (fun o => (lh rs o).length) rs.length rs.length
theorem ovs_pair {sg : List Int} {rs : List Rl} {x y : Int} (hok : sysOkB sg rs = true) : (ovs sg rs (pairB x y)).map (fun t => (t.2.1 : Int)) = ovI sg rs x y := by
 unfold ovs ovI
 by_cases h : walkMath.inB x rs.length = true ∧ walkMath.inB y rs.length = true
 ·rw [if_pos ⟨hok, h⟩]
  have h1 := of_decide_eq_true h.1
  have h2 := of_decide_eq_true h.2
  obtain ⟨X, rfl⟩ : ∃ X : Nat, x = (X : Int) := ⟨x.toNat, by omega⟩
  obtain ⟨Y, rfl⟩ : ∃ Y : Nat, y = (Y : Int) := ⟨y.toNat, by omega⟩
  rw [all_pair, if_pos (by omega)]
  unfold ovN
  simp only [Int.toNat_natCast]
 ·rw [if_neg fun h' => h h'.2]
  by_cases h0 : 0 ≤ x ∧ 0 ≤ y
  ·obtain ⟨X, rfl⟩ : ∃ X : Nat, x = (X : Int) := ⟨x.toNat, by omega⟩
   obtain ⟨Y, rfl⟩ : ∃ Y : Nat, y = (Y : Int) := ⟨y.toNat, by omega⟩
   rw [all_pair, if_neg fun h' => h ⟨decide_eq_true (by omega), decide_eq_true (by omega)⟩]
  ·rw [none_pair h0]
   rfl
end ovsMath
end
section
namespace peakImpl
open Go.RowKit heldT base ints sig term termOk endAt marks app sym pathSpec wayTo place segs segsHelp kinds termFacts same shape kindsR kindsW kindsP varsOf ruleMath ruleSpec ruleImpl stepMath walkMath stepSpec stepImpl walkSpec walkImpl peakMath peakSame
set_option maxRecDepth 100000
theorem rd_zero (w : World) (B : Nat) : Rd w B sSystem [.slice none 0 0, .slice none 0 0] (([], []) : Dat sSystem) :=
 ⟨[.slice none 0 0], [.slice none 0 0], rfl, ⟨none, 0, 0, rfl, ⟨Nat.le_refl _, by omega, fun _ => rfl⟩, rfl, fun h => absurd h (by omega)⟩, ⟨none, 0, 0, rfl, ⟨Nat.le_refl _, by omega, fun _ => rfl⟩, rfl, fun h => absurd h (by omega)⟩⟩
end peakImpl
end
end Go.Proofs.Ytfmjhfodjhkmlaa
