/-
  MERGED: my texts Place, PeakMath, KindsP, PeakSame, StepsMath, Dice, DrawSig, DrawTerm, DrawAny, DrawX, OwnL, StepSpecB, PeakSpec, WalkSpec, WalkSpecB, StepImplC, WalkImpl, one behind the other, as they are. By an AI agent.
-/
import Derived.Test.YtlaloakegajheaaGreatMFnExactPeakUnder5
import Derived.Deep.RegionHeld3
import Derived.Deep.AppendLies
import Derived.Deep.RegionLaw
namespace Go.Proofs.YtlaloakegajheaaGreat
section
open Go.Lib (hid)
namespace place
open Go.RowKit base ints sig term arity endOf cursor termOk endAt inside marks app appAt sym args posMath pathSpec wayTo
set_option maxRecDepth 100000
def placeI (sg t path : List Int) : Int := if termOkB sg t = true then walkI sg t 0 path else -1
def GivesI (w : World) (v : Int) (e : Ending) (w' : World) : Prop := e = .returned (.int .i64 v) ∧ Below w.heap.size w w'
theorem drop_step {path : List Int} {i : Nat} (h : i < path.length) : path.drop i = path.getD i 0 :: path.drop (i + 1) := drop_cons h
def HeadPl (w : World) (A : Option Addr) (n c : Nat) (sg : List Int) (A' : Option Addr) (m : Nat) (t : List Int) (Ap : Option Addr) (pn : Nat) (path : List Int) (R : Int) (g : Nat) (p i : Value) (wr : World) : Prop :=
 ∃ (q k : Nat), p = .int .i64 q ∧ i = .int .i64 k ∧ k + g = pn ∧ q < t.length ∧ walkI sg t q (path.drop k) = R ∧ Fr w wr A n c sg A' m t ∧ Seg wr w.heap.size Ap pn path
set_option maxHeartbeats 1000000 in
theorem specPlaceOf (A A' Ap : Option Addr) (n c m c' pn pc : Nat) (sg t path : List Int) (w : World) (h : Seg w w.heap.size A n sg) (h' : Seg w w.heap.size A' m t) (hp : Seg w w.heap.size Ap pn path) (hn : n ≤ 1048576) (hm : m ≤ 1048576) (hpn : pn ≤ 1048576) :
  Calls Tryz.prog 22 #[.agg #[.slice A n c], .slice A' m c', .slice Ap pn pc] w (GivesI w (placeI sg t path)) := by
 obtain ⟨W, hW⟩ : ∃ W, W = w.alloc (.cells #[.slice A n c] 29) := ⟨_, rfl⟩
 have f : Fr w W A n c sg A' m t := by rw [hW]; exact Fr.start h h'
 replace hp : Seg W w.heap.size Ap pn path := hp.below f.b
 have HW := hid hW
 have HL := hid h'.1
 have HLP := hid hp.1
 have L := hid (specTermOk A A' n c m c' sg t W f.s1 f.t1 hn hm)
 clear hW h h'
 cases hok : termOkB sg t with
 | false =>
  have HS := hid hok
  have HR := hid (show placeI sg t path = -1 by unfold placeI; rw [if_neg (by rw [hok]; simp)])
  clear hok hp
  go_enter Tryz.func22, Tryz.ntmps22
  go_wp2_with fail
  rw [← HW.out]
  refine L.out.mono ?_
  rintro e w1 ⟨he, bb⟩
  rw [HS.out] at he
  subst he
  have F := hid (show GivesI w (placeI sg t path) (.returned (.int .i64 (-1))) w1 from ⟨by rw [HR.out], (f.next bb).b⟩)
  clear f L bb
  go_wp2
  go_ret
  exact F.out
 | true =>
  have HS := hid hok
  have HR := hid (show placeI sg t path = walkI sg t 0 path by unfold placeI; rw [if_pos hok])
  have h60 := (termOk_parts hok).2.1
  have h1 := (root_len hok)
  have hpos : 0 < t.length := by
   by_cases e : 0 < t.length
   ·exact e
   ·have h3 := (termOk_parts hok).2.2
    have h2 := scan_pos (q := 0) h3
    omega
  obtain ⟨R, hR⟩ : ∃ R, walkI sg t 0 path = R := ⟨_, rfl⟩
  rw [hR] at HR
  have hars := (sig_arities (termOk_parts hok).1).1
  go_enter Tryz.func22, Tryz.ntmps22
  go_wp2_with fail
  rw [← HW.out]
  refine L.out.mono ?_
  rintro e w1 ⟨he, bb⟩
  rw [HS.out] at he
  subst he
  have bw : Below w.heap.size W w1 := bb.mono (Nat.le_of_lt f.size)
  have S0 : HeadPl w A n c sg A' m t Ap pn path R pn (.int .i64 0) (.int .i64 0) w1 := ⟨0, 0, rfl, rfl, by omega, hpos, hR, f.next bb, hp.below bw⟩
  have HS0 := hid S0
  clear S0 f bb bw hp L hR h1 hpos hok h60
  go_wp2_with fail
  go_loopg [7, 8] pn (fun g p i wr => HeadPl w A n c sg A' m t Ap pn path R g p i wr)
  case atStart => exact HS0.out
  case round =>
   obtain ⟨q, k, rfl, rfl, hk, hq, hwk, f, hp⟩ := hrel
   clear HS0
   have HK := hid hk
   have HWK := hid hwk
   have HQ := hid hq
   have hpnB := hpn
   clear hk hwk
   by_cases hlt : k < pn
   ·obtain ⟨b, off, s, rfl, hbb, hs, es⟩ := hp.spot hlt
    have hok := HS.out
    obtain ⟨t1, t2, t3⟩ := term_at hok hq
    have LA := hid (l1Args A A' n c m c' sg t q (len1 sg t q) wr f.s1 f.t1 hn hm hars (by rw [← HL.out]; exact hq) t1 (by rw [← HL.out]; exact t3))
    have hL3 : (argsL sg t q).length = arN sg t q := argsL_arN
    have hars3 : arN sg t q ≤ 3 := by have := ar_bd hars (t.getD q 0); unfold arN; omega
    have hz0 : ar sg (t.getD q 0) = (arN sg t q : Int) := by have := (head_scan hok hq).1; unfold arN; omega
    have HSTEP := hid (show path.drop k = s :: path.drop (k + 1) by rw [drop_step (by rw [HLP.out]; exact hlt), es.out])
    have HG : Hid (∀ j : Nat, j < arN sg t q → (argsL sg t q).getD j 0 = (argP sg t j (q + 1) : Int) ∧ argP sg t j (q + 1) < t.length) := hid (fun j hj => ⟨argsL_get hj, (arg_at hok hq hj).2.2⟩)
    obtain ⟨Ls, hLs⟩ : ∃ L, argsL sg t q = L := ⟨_, rfl⟩
    rw [hLs] at LA HG hL3
    obtain ⟨z, hz⟩ : ∃ z, arN sg t q = z := ⟨_, rfl⟩
    rw [hz] at hL3 hars3 HG hz0
    have HZ := hid hz
    have HZ0 := hid hz0
    have HL3 := hid hL3
    have cA := f.cell
    have hbs := f.size
    clear hok t1 t2 t3 hLs hz hz0 hL3 es hq
    go_wp2_with fail
    refine LA.out.mono ?_
    rintro e w2 ⟨A2, n2, c2, rfl, o2, bb⟩
    obtain rfl : n2 = z := by rw [Own.len o2, HL3.out]
    have hs2 : w2.cell? ⟨b, off + k, none⟩ = some (.int .i64 s) := (bb.cell (p := ⟨b, off + k, none⟩) (by show b < wr.heap.size; omega)).trans hs
    replace f := f.next bb
    replace hp := hp.below (bb.mono (Nat.le_of_lt hbs))
    clear LA bb cA hs hbs
    by_cases hin : 0 ≤ s ∧ s ≤ (n2 : Int) - 1
    ·obtain ⟨j, rfl⟩ := Int.eq_ofNat_of_zero_le hin.1
     have hjz : j < n2 := by omega
     obtain ⟨b2, off2, rfl, hb2, hc2⟩ := own_cell o2 (show j < n2 by omega)
     obtain ⟨g1, g2⟩ := HG.out j hjz
     rw [g1] at hc2
     have hjn : (j : Int) < (n2 : Int) := by omega
     have hIN := hid hin
     have S : HeadPl w A n c sg A' m t (some ⟨b, off, none⟩) pn path R (gk - 1) (.int .i64 (argP sg t j (q + 1) : Nat)) (.int .i64 ((k : Int) + 1)) w2 :=
      ⟨argP sg t j (q + 1), k + 1, rfl, by simp, by have := HK.out; omega, g2, by rw [← HWK.out, HSTEP.out, walk_step (by rw [HZ.out]; exact hjz)], f, hp⟩
     have HSS := hid S
     have hgk := hid (show gk - 1 < gk by have := HK.out; omega)
     generalize argP sg t j (q + 1) = y at *
     clear S f hp o2 g1 g2 hin
     go_wp2_with fail
     refine (inYes _ _ _ _ hIN.out).mono ?_
     rintro e w3 ⟨rfl, rfl⟩
     go_wp2
     go_roundg (gk - 1)
     case measure => exact hgk.out
     case rel => exact HSS.out
    ·have F := hid (show GivesI w (placeI sg t path) (.returned (.int .i64 (-1))) w2 from ⟨by rw [HR.out, ← HWK.out, HSTEP.out, walk_no (by rw [HZ0.out]; omega)], f.b⟩)
     have hIN := hid hin
     clear f hp o2 hin
     go_wp2_with fail
     refine (inNo _ _ _ _ hIN.out).mono ?_
     rintro e w3 ⟨rfl, rfl⟩
     go_wp2
     go_ret
     exact F.out
   ·have hkp : k = pn := by have := HK.out; omega
    have F := hid (show GivesI w (placeI sg t path) (.returned (.int .i64 (q : Int))) wr from ⟨by rw [HR.out, ← HWK.out, List.drop_eq_nil_of_le (by rw [HLP.out]; omega)]; rfl, f.b⟩)
    clear f hp hkp hq
    go_wp2
    go_ret
    exact F.out
def HeadPi (w : World) (P : Nat) (A : Option Addr) (n c : Nat) (A' : Option Addr) (m c' : Nat) (sg t : List Int) (Ap : Option Addr) (pn : Nat) (path : List Int) (R : Int) (g : Nat) (i : Value) (wr : World) : Prop :=
 ∃ (q k : Nat), i = .int .i64 k ∧ k + g = pn ∧ q < t.length ∧ walkI sg t q (path.drop k) = R ∧ Cur wr P A n c A' m c' sg t q ∧ Seg wr P Ap pn path ∧ Below w.heap.size w wr ∧ w.heap.size ≤ P
set_option maxHeartbeats 1000000 in
theorem implPlaceOf (A A' Ap : Option Addr) (n c m c' pn pc : Nat) (sg t path : List Int) (w : World) (h : Seg w w.heap.size A n sg) (h' : Seg w w.heap.size A' m t) (hp : Seg w w.heap.size Ap pn path) (hn : n ≤ 1048576) (hm : m ≤ 1048576) (hpn : pn ≤ 1048576) :
  Calls Tryz.prog 76 #[.agg #[.slice A n c], .slice A' m c', .slice Ap pn pc] w (GivesI w (placeI sg t path)) := by
 obtain ⟨W, hW⟩ : ∃ W, W = w.alloc (.cells #[.slice A n c] 29) := ⟨_, rfl⟩
 have f : Fr w W A n c sg A' m t := by rw [hW]; exact Fr.start h h'
 replace hp : Seg W W.heap.size Ap pn path := (hp.below f.b).more (Nat.le_of_lt f.size)
 have HW := hid hW
 have HL := hid h'.1
 have HLP := hid hp.1
 have L := hid (cursorAt A A' n c m c' sg t 0 W f.s1 f.t1 hn hm)
 have bel := f.b
 have hWs := f.size
 clear hW h h' f
 go_enter Tryz.func76, Tryz.ntmps76
 go_wp2_with fail
 go_step3
 go_wp2_with fail
 rw [← HW.out]
 refine L.out.mono ?_
 rintro e w1 ⟨bb, ⟨ht, P, rfl, hP, hc⟩ | ⟨ht, rfl⟩⟩
 ·obtain ⟨hok, -, hpos⟩ := there_parts ht
  have HS := hid hok
  obtain ⟨R, hR⟩ : ∃ R, walkI sg t 0 path = R := ⟨_, rfl⟩
  have HR := hid (show placeI sg t path = R by unfold placeI; rw [if_pos hok, hR])
  have hars := hc.ars
  have S0 : HeadPi w P A n c A' m c' sg t Ap pn path R pn (.int .i64 0) w1 := ⟨0, 0, rfl, by omega, by omega, hR, hc, (hp.below bb).more hP, next_trans bel bb, by omega⟩
  have HS0 := hid S0
  clear S0 bb hp hc hR ht hok hpos bel L hWs hP
  go_wp2
  go_step3
  go_wp2
  go_loopg [18] pn (fun g i wr => HeadPi w P A n c A' m c' sg t Ap pn path R g i wr)
  case atStart => exact HS0.out
  case round =>
   obtain ⟨q, k, rfl, hk, hq, hwk, hc, hp, hb, hwP⟩ := hrel
   obtain ⟨G, hG⟩ : ∃ G, G = gk := ⟨_, rfl⟩
   subst hG
   clear HS0
   have HK := hid hk
   have HWK := hid hwk
   clear hk hwk
   by_cases hlt : k < pn
   ·obtain ⟨b, off, s, rfl, hbb, hs, es⟩ := hp.spot hlt
    have hok := HS.out
    have hneg := (head_scan hok hq).1
    have hzb := ar_bd hars (t.getD q 0)
    obtain ⟨z, hz⟩ : ∃ z, arN sg t q = z := ⟨_, rfl⟩
    have hz0 : ar sg (t.getD q 0) = (z : Int) := by rw [← hz]; unfold arN; omega
    have HSTEP := hid (show path.drop k = s :: path.drop (k + 1) by rw [drop_step (by rw [HLP.out]; exact hlt), es.out])
    have HX : Hid (∀ j : Nat, j < z → scan sg 1 (t.drop (argP sg t j (q + 1))) = some (len1 sg t (argP sg t j (q + 1))) ∧ argP sg t (j + 1) (q + 1) = argP sg t j (q + 1) + len1 sg t (argP sg t j (q + 1)) ∧ argP sg t j (q + 1) < t.length) := hid (fun j hj => by
     obtain ⟨b1, b2, b3⟩ := arg_at hok hq (show j < arN sg t q by omega)
     exact ⟨(term_at hok b3).1, argP_succ _ _, b3⟩)
    have HZ := hid hz
    have HZ0 := hid hz0
    have hz3 : z ≤ 3 := by omega
    have HQL := hid hq
    have HA0 : Hid (argP sg t 0 (q + 1) = q + 1) := hid rfl
    clear hok hneg hzb hz hz0 es hq
    go_wp2_with fail
    refine (next P A n c A' m c' sg t q _ hc).mono ?_
    rintro e w2 ⟨hg, ⟨-, he, hc2⟩ | ⟨hk', -, -⟩⟩
    case inr => have := HQL.out; have := HL.out; omega
    rw [HZ0.out] at he
    subst he
    have hPw := hc.row.lt
    have hp2 := Seg.far hp hg (Nat.le_of_lt hPw) (fun j hj => by injection hj; omega)
    have hb2 := hb.grown hg (Nat.le_trans hwP (Nat.le_of_lt hPw)) (fun j hj => by injection hj; omega)
    clear hp hc hb hg hs hPw
    have HS1 := hid (show Cur w2 P A n c A' m c' sg t (argP sg t 0 (q + 1)) ∧ Seg w2 P (some ⟨b, off, none⟩) pn path ∧ Below w.heap.size w w2 from ⟨by rw [HA0.out]; exact hc2, hp2, hb2⟩)
    clear hc2 hp2 hb2
    go_wp2_with fail
    go_loopg [24] z (fun g i wr => ∃ j : Nat, i = .int .i64 j ∧ j + g = z ∧ (∀ j' : Nat, j' < j → (j' : Int) ≠ s) ∧ Cur wr P A n c A' m c' sg t (argP sg t j (q + 1)) ∧ Seg wr P (some ⟨b, off, none⟩) pn path ∧ Below w.heap.size w wr)
    case atStart => exact ⟨0, rfl, by omega, fun j' hj' => absurd hj' (Nat.not_lt_zero _), HS1.out⟩
    case round =>
     obtain ⟨j, rfl, hj, hne, hc, hp, hb⟩ := hrel
     clear HS1
     have HNE := hid hne
     have HJ := hid hj
     clear hne hj
     by_cases hjz : j < z
     ·obtain ⟨x1, x2, x3⟩ := HX.out j hjz
      have X2 := hid x2
      have X1 := hid x1
      have X3 := hid x3
      clear x1 x2 x3
      by_cases hjs : (j : Int) = s
      ·have S : HeadPi w P A n c A' m c' sg t (some ⟨b, off, none⟩) pn path R (G - 1) (.int .i64 ((k : Int) + 1)) wr :=
        ⟨argP sg t j (q + 1), k + 1, by simp, by have := HK.out; omega, X3.out, by rw [← HWK.out, HSTEP.out, ← hjs, walk_step (by rw [HZ.out]; exact hjz)], hc, hp, hb, hwP⟩
       have HSS := hid S
       have hgk := hid (show G - 1 < G by have := HK.out; omega)
       subst hjs
       clear S hc hp hb
       go_wp2
       go_roundg (G - 1)
       case measure => exact hgk.out
       case rel => exact HSS.out
      ·obtain ⟨r, hr⟩ : ∃ r, argP sg t j (q + 1) = r := ⟨_, rfl⟩
       rw [hr] at hc X1 X2
       have hd : ((j : Int) == s) = false := by simp [hjs]
       have HJS := hid hjs
       clear hjs hr
       go_wp2_with fail
       refine (pass P A n c A' m c' sg t r _ hc).mono ?_
       rintro e w5 ⟨hg5, ⟨j', hj', rfl, hc5⟩ | ⟨hj', -, -⟩⟩
       case inr => rw [X1.out] at hj'; cases hj'
       have hj2 : len1 sg t r = j' := len1_eq hj'
       have hPw := hc.row.lt
       have S := hid (show Cur w5 P A n c A' m c' sg t (argP sg t (j + 1) (q + 1)) ∧ Seg w5 P (some ⟨b, off, none⟩) pn path ∧ Below w.heap.size w w5 from ⟨by rw [X2.out, hj2]; exact hc5, Seg.far hp hg5 (Nat.le_of_lt hPw) (fun j hj => by injection hj; omega), hb.grown hg5 (Nat.le_trans hwP (Nat.le_of_lt hPw)) (fun j hj => by injection hj; omega)⟩)
       have hgk := hid (show gk - 1 < gk ∧ j + 1 + (gk - 1) = z by have := HJ.out; omega)
       clear hc hp hb hg5 hj' hc5 hj2 hPw
       go_wp2
       go_roundg (gk - 1)
       case measure => exact hgk.out.1
       case rel => exact ⟨j + 1, by simp, hgk.out.2, fun j' hj' => by
        by_cases e : j' = j
        ·subst e; exact HJS.out
        ·exact HNE.out j' (by omega), S.out⟩
     ·have F := hid (show GivesI w (placeI sg t path) (.returned (.int .i64 (-1))) wr from ⟨by
       rw [HR.out, ← HWK.out, HSTEP.out, walk_no]
       rintro ⟨e1, e2⟩
       rw [HZ0.out] at e2
       obtain ⟨jj, rfl⟩ := Int.eq_ofNat_of_zero_le e1
       exact HNE.out jj (by omega) rfl, hb⟩)
      clear hc hp hb
      go_wp2
      try rw [Exit.noGoto_ret]
      go_ret
      exact F.out
   ·have hkp : k = pn := by have := HK.out; omega
    have F := hid (show GivesI w (placeI sg t path) (.returned (.int .i64 (q : Int))) wr from ⟨by rw [HR.out, ← HWK.out, List.drop_eq_nil_of_le (by rw [HLP.out]; omega)]; rfl, hb⟩)
    have cp : wr.cell? ⟨P, 2, none⟩ = some (.int .i64 (q : Int)) := hc.row.cell 2
    clear hc hp hb hkp hq
    go_wp2
    try rw [Exit.noGoto_ret]
    go_ret
    exact F.out
 ·have hno : placeI sg t path = -1 := by
   unfold placeI
   cases hok : termOkB sg t with
   | false => rw [if_neg (by simp)]
   | true =>
    exfalso
    have h3 := (termOk_parts hok).2.2
    have h2 := scan_pos (q := 0) h3
    rw [there_yes hok (by omega) (by omega)] at ht
    cases ht
  have F := hid (show GivesI w (placeI sg t path) (.returned (.int .i64 (-1))) w1 from ⟨by rw [hno], next_trans bel bb⟩)
  clear bb L bel hp
  go_wp2
  try rw [Exit.noGoto_ret]
  go_ret
  exact F.out
end place
end
section
namespace peakMath
open Go.RowKit base ints sig term termOk endAt sym pathSpec place substOk filled ruleMath stepMath walkMath
abbrev Pk := List Int × List Int × List Int × Int × Int × Int
noncomputable def pathI (sg t : List Int) (x : Int) : List Int := Classical.choose (path_ex sg t x)
theorem pathI_is (sg t : List Int) (x : Int) : PathIs sg t x (pathI sg t x) := Classical.choose_spec (path_ex sg t x)
theorem pathI_len (sg t : List Int) (x : Int) : (pathI sg t x).length ≤ 60 := (pathI_is sg t x).len
def lhsI (rs : List Rl) (r : Int) : List Int := (rs.getD r.toNat ([], [])).1
def symAt (t : List Int) (a : Int) : Bool := decide (0 ≤ a ∧ a < (t.length : Int) ∧ 0 ≤ t.getD a.toNat 0)
def mayB (rs : List Rl) (o a u : Int) : Bool := walkMath.inB o rs.length && (walkMath.inB u rs.length && (symAt (lhsI rs o) a && !decide (a = 0 ∧ o = u)))
noncomputable def placeP (sg : List Int) (rs : List Rl) (t : List Int) (o a : Int) : Int := placeI sg t (pathI sg (lhsI rs o) a)
noncomputable def peakB (sg : List Int) (rs : List Rl) (p : Pk) : Bool :=
 sysOkB sg rs && (mayB rs p.2.2.2.2.2 p.2.2.2.1 p.2.2.2.2.1 &&
  (decide (stepAtO sg rs p.1 0 p.2.2.2.2.2 = some p.2.2.1) && decide (stepAtO sg rs p.1 (placeP sg rs p.1 p.2.2.2.2.2 p.2.2.2.1) p.2.2.2.2.1 = some p.2.1)))
theorem sym_mem {sg t : List Int} {a : Int} (h : termOkB sg t = true) : decide (a ∈ symI sg t) = symAt t a := by
 have e : (a ∈ symI sg t) ↔ (0 ≤ a ∧ a < (t.length : Int) ∧ 0 ≤ t.getD a.toNat 0) := by
  unfold symI
  rw [if_pos h]
  unfold symP
  simp only [List.mem_map, List.mem_filter, List.mem_range, decide_eq_true_eq]
  constructor
  ·rintro ⟨j, ⟨h1, h2⟩, rfl⟩
   refine ⟨by omega, by omega, ?_⟩
   rw [Int.toNat_natCast]
   exact h2
  ·rintro ⟨h1, h2, h3⟩
   exact ⟨a.toNat, ⟨by omega, h3⟩, by omega⟩
 unfold symAt
 exact decide_eq_decide.2 e
section
variable {sg : List Int} {rs : List Rl} {p : Pk}
theorem may_no1 {o a u : Int} (h : walkMath.inB o rs.length = false) : mayB rs o a u = false := by unfold mayB; rw [h]; rfl
theorem may_no2 {o a u : Int} (h : walkMath.inB u rs.length = false) : mayB rs o a u = false := by unfold mayB; rw [h]; simp
theorem may_no3 {o a u : Int} (h : symAt (lhsI rs o) a = false) : mayB rs o a u = false := by unfold mayB; rw [h]; simp
theorem may_no4 {o a u : Int} (h : a = 0 ∧ o = u) : mayB rs o a u = false := by unfold mayB; rw [decide_eq_true h]; simp
theorem may_yes {o a u : Int} (h1 : walkMath.inB o rs.length = true) (h2 : walkMath.inB u rs.length = true) (h3 : symAt (lhsI rs o) a = true) (h4 : ¬ (a = 0 ∧ o = u)) : mayB rs o a u = true := by unfold mayB; rw [h1, h2, h3, decide_eq_false h4]; rfl
theorem may_parts {o a u : Int} (h : mayB rs o a u = true) : (walkMath.inB o rs.length = true ∧ walkMath.inB u rs.length = true) ∧ symAt (lhsI rs o) a = true ∧ ¬ (a = 0 ∧ o = u) := by
 unfold mayB at h
 simp only [Bool.and_eq_true, Bool.not_eq_true', decide_eq_false_iff_not] at h
 exact ⟨⟨h.1, h.2.1⟩, h.2.2.1, h.2.2.2⟩
theorem peak_sys (h : sysOkB sg rs = false) : peakB sg rs p = false := by unfold peakB; rw [h]; rfl
theorem peak_may (h : mayB rs p.2.2.2.2.2 p.2.2.2.1 p.2.2.2.2.1 = false) : peakB sg rs p = false := by unfold peakB; rw [h]; simp
theorem peak_right (h : ¬ stepAtO sg rs p.1 0 p.2.2.2.2.2 = some p.2.2.1) : peakB sg rs p = false := by unfold peakB; rw [decide_eq_false h]; simp
theorem peak_yes (h1 : sysOkB sg rs = true) (h2 : mayB rs p.2.2.2.2.2 p.2.2.2.1 p.2.2.2.2.1 = true) (h3 : stepAtO sg rs p.1 0 p.2.2.2.2.2 = some p.2.2.1) : peakB sg rs p = decide (stepAtO sg rs p.1 (placeP sg rs p.1 p.2.2.2.2.2 p.2.2.2.1) p.2.2.2.2.1 = some p.2.1) := by
 unfold peakB; rw [h1, h2, decide_eq_true h3]; rfl
end
noncomputable def underB (sg : List Int) (rs : List Rl) (p : Pk) (ss : List (List Int)) : Bool := peakB sg rs p && (filledB sg ss p.1 && (filledB sg ss p.2.1 && filledB sg ss p.2.2.1))
open Classical in
noncomputable def underP (sg : List Int) (rs : List Rl) (p : Pk) (ss : List (List Int)) : Pk := if underB sg rs p ss = true then (filledL sg ss p.1, filledL sg ss p.2.1, filledL sg ss p.2.2.1, p.2.2.2) else ([], [], [], 0, 0, 0)
section
variable {sg : List Int} {rs : List Rl} {p : Pk} {ss : List (List Int)}
theorem under_off (h : underB sg rs p ss = false) : underP sg rs p ss = ([], [], [], 0, 0, 0) ∧ underB sg rs p ss = false := ⟨by unfold underP; rw [if_neg (by rw [h]; simp)], h⟩
theorem under_no0 (h : peakB sg rs p = false) : underB sg rs p ss = false := by unfold underB; rw [h]; rfl
theorem under_no1 (h : filledB sg ss p.1 = false) : underB sg rs p ss = false := by unfold underB; rw [h]; simp
theorem under_no2 (h : filledB sg ss p.2.1 = false) : underB sg rs p ss = false := by unfold underB; rw [h]; simp
theorem under_no3 (h : filledB sg ss p.2.2.1 = false) : underB sg rs p ss = false := by unfold underB; rw [h]; simp
theorem under_yes (h0 : peakB sg rs p = true) (h1 : filledB sg ss p.1 = true) (h2 : filledB sg ss p.2.1 = true) (h3 : filledB sg ss p.2.2.1 = true) : underP sg rs p ss = (filledL sg ss p.1, filledL sg ss p.2.1, filledL sg ss p.2.2.1, p.2.2.2) ∧ underB sg rs p ss = true := by
 have e : underB sg rs p ss = true := by unfold underB; rw [h0, h1, h2, h3]; rfl
 exact ⟨by unfold underP; rw [if_pos e], e⟩
theorem under_len : (underP sg rs p ss).1.length ≤ 60 ∧ (underP sg rs p ss).2.1.length ≤ 60 ∧ (underP sg rs p ss).2.2.1.length ≤ 60 := by
 unfold underP
 split
 ·exact ⟨filled_len _ _ _, filled_len _ _ _, filled_len _ _ _⟩
 ·simp
end
end peakMath
end
section
open Go.Lib (hid)
namespace kindsP
open Go.RowKit base ints sig cursor marks app sym appAt segs segsHelp segsMark kinds shape
set_option maxRecDepth 100000
abbrev sPeak : Sh := .cat sI (.cat sI (.cat sI (.cat .num (.cat .num .num))))
theorem parts_Peak {w : World} {B : Nat} {v0 v1 v2 : Value} {d : Dat sPeak} (h : Rd w B sPeak [v0, v1, v2, .int .i64 d.2.2.2.1, .int .i64 d.2.2.2.2.1, .int .i64 d.2.2.2.2.2] d) : Rd w B sI [v0] d.1 ∧ Rd w B sI [v1] d.2.1 ∧ Rd w B sI [v2] d.2.2.1 ∧ Rd w B .num [.int .i64 d.2.2.2.1] d.2.2.2.1 ∧ Rd w B .num [.int .i64 d.2.2.2.2.1] d.2.2.2.2.1 ∧ Rd w B .num [.int .i64 d.2.2.2.2.2] d.2.2.2.2.2 := by
 obtain ⟨p0, q0⟩ := Rd.split (ca := [v0]) (cb := [v1, v2, .int .i64 d.2.2.2.1, .int .i64 d.2.2.2.2.1, .int .i64 d.2.2.2.2.2]) h rfl
 obtain ⟨p1, q1⟩ := Rd.split (ca := [v1]) (cb := [v2, .int .i64 d.2.2.2.1, .int .i64 d.2.2.2.2.1, .int .i64 d.2.2.2.2.2]) q0 rfl
 obtain ⟨p2, q2⟩ := Rd.split (ca := [v2]) (cb := [.int .i64 d.2.2.2.1, .int .i64 d.2.2.2.2.1, .int .i64 d.2.2.2.2.2]) q1 rfl
 obtain ⟨p3, q3⟩ := Rd.split (ca := [.int .i64 d.2.2.2.1]) (cb := [.int .i64 d.2.2.2.2.1, .int .i64 d.2.2.2.2.2]) q2 rfl
 obtain ⟨p4, q4⟩ := Rd.split (ca := [.int .i64 d.2.2.2.2.1]) (cb := [.int .i64 d.2.2.2.2.2]) q3 rfl
 exact ⟨p0, p1, p2, p3, p4, q4⟩
theorem join_Peak {w : World} {lo hi : Nat} {v0 v1 v2 : Value} {d : Dat sPeak} {m0 m1 m2 m3 m4 m5 m6 : Nat} (o0 : Owned w m0 m1 sI [v0] d.1) (o1 : Owned w m1 m2 sI [v1] d.2.1) (o2 : Owned w m2 m3 sI [v2] d.2.2.1) (o3 : Owned w m3 m4 .num [.int .i64 d.2.2.2.1] d.2.2.2.1) (o4 : Owned w m4 m5 .num [.int .i64 d.2.2.2.2.1] d.2.2.2.2.1) (o5 : Owned w m5 m6 .num [.int .i64 d.2.2.2.2.2] d.2.2.2.2.2) (l0 : m0 ≤ m1) (l1 : m1 ≤ m2) (l2 : m2 ≤ m3) (l3 : m3 ≤ m4) (l4 : m4 ≤ m5) (l5 : m5 ≤ m6) (hl : lo ≤ m0) (hh : m6 ≤ hi) : Owned w lo hi sPeak [v0, v1, v2, .int .i64 d.2.2.2.1, .int .i64 d.2.2.2.2.1, .int .i64 d.2.2.2.2.2] d := by
 exact ((Owned.cat o0 (Owned.cat o1 (Owned.cat o2 (Owned.cat o3 (Owned.cat o4 o5 (Nat.le_refl _) (by omega) (by omega)) (Nat.le_refl _) (by omega) (by omega)) (Nat.le_refl _) (by omega) (by omega)) (Nat.le_refl _) (by omega) (by omega)) (Nat.le_refl _) (by omega) (by omega)) : Owned w m0 m6 sPeak [v0, v1, v2, .int .i64 d.2.2.2.1, .int .i64 d.2.2.2.2.1, .int .i64 d.2.2.2.2.2] d).wider hl hh
theorem cells_Peak {w : World} {B : Nat} {es : List Value} {d : Dat sPeak} (h : Rd w B sPeak es d) : ∃ (v0 : Value) (v1 : Value) (v2 : Value), es = [v0, v1, v2, .int .i64 d.2.2.2.1, .int .i64 d.2.2.2.2.1, .int .i64 d.2.2.2.2.2] := by
 obtain ⟨ca0, cb0, e0, p0, q0⟩ := h
 obtain ⟨A0, n0, c0, z0, -⟩ := p0
 obtain ⟨ca1, cb1, e1, p1, q1⟩ := q0
 obtain ⟨A1, n1, c1, z1, -⟩ := p1
 obtain ⟨ca2, cb2, e2, p2, q2⟩ := q1
 obtain ⟨A2, n2, c2, z2, -⟩ := p2
 obtain ⟨ca3, cb3, e3, p3, q3⟩ := q2
 obtain ⟨ca4, cb4, e4, p4, q4⟩ := q3
 exact ⟨.slice A0 n0 c0, .slice A1 n1 c1, .slice A2 n2 c2, by rw [e0, z0, e1, z1, e2, z2, e3, (show _ = _ from p3), e4, (show _ = _ from p4), (show _ = _ from q4)] <;> rfl⟩
set_option maxHeartbeats 2000000 in
theorem szK_Peak (v0 v1 v2 : Value) (d : Dat sPeak) (left : Int) (w : World) (h : Rd w w.heap.size sPeak [v0, v1, v2, .int .i64 d.2.2.2.1, .int .i64 d.2.2.2.2.1, .int .i64 d.2.2.2.2.2] d) (h0 : 0 ≤ left) (h1 : left ≤ 1048576) :
  Calls Tryz.prog 29 #[.agg #[v0, v1, v2, .int .i64 d.2.2.2.1, .int .i64 d.2.2.2.2.1, .int .i64 d.2.2.2.2.2], .int .i64 left] w (AnsSzK w left (sz sPeak d)) := by
 obtain ⟨g0, g1, g2, g3, g4, g5⟩ := parts_Peak h
 obtain ⟨t0, ht0⟩ : ∃ t, sz sI d.1 = t := ⟨_, rfl⟩
 obtain ⟨t1, ht1⟩ : ∃ t, sz sI d.2.1 = t := ⟨_, rfl⟩
 obtain ⟨t2, ht2⟩ : ∃ t, sz sI d.2.2.1 = t := ⟨_, rfl⟩
 have HE : Hid (sz sPeak d = t0 + t1 + t2) := hid (by rw [← ht0, ← ht1, ← ht2]; simp only [sz]; try omega)
 have HT0 := hid ht0
 have G0 := hid g0
 have HT1 := hid ht1
 have G1 := hid g1
 have HT2 := hid ht2
 have G2 := hid g2
 obtain ⟨W, hW⟩ : ∃ W, W = w.alloc (.cells #[v0, v1, v2, .int .i64 d.2.2.2.1, .int .i64 d.2.2.2.2.1, .int .i64 d.2.2.2.2.2] 66) := ⟨_, rfl⟩
 have r : Row W w.heap.size 66 #[v0, v1, v2, .int .i64 d.2.2.2.1, .int .i64 d.2.2.2.2.1, .int .i64 d.2.2.2.2.2] := by rw [hW]; exact Row.new _ _ _
 have bel : Below w.heap.size w W := by rw [hW]; exact (Below.refl _ _).alloc (Nat.le_refl _) _
 have HW := hid hW
 clear hW h g0 g1 g2 g3 g4 g5 ht0 ht1 ht2
 go_enter Tryz.func29, Tryz.ntmps29
 go_wp2_with fail
 rw [← HW.out]
 refine (szK_ints _ _ left W (G0.out.next bel) h0 h1).mono ?_
 rintro e w1 ⟨he, bb⟩
 rw [HT0.out] at he
 replace r := r.next bb
 replace bel := next_trans bel bb
 clear bb
 by_cases q0 : left - (t0 : Int) < 0
 ·rw [if_pos q0] at he
  subst he
  have F : AnsSzK w left (sz sPeak d) (.returned (.int .i64 (-1))) w1 := ⟨by rw [HE.out, if_pos (by omega)], bel⟩
  have HF := hid F
  clear F bel r
  go_wp2
  go_ret
  exact HF.out
 rw [if_neg q0] at he
 obtain ⟨l0, hl0⟩ : ∃ l, left - (t0 : Int) = l := ⟨_, rfl⟩
 rw [hl0] at he
 have a0 : 0 ≤ l0 := by omega
 have b0 : l0 ≤ 1048576 := by omega
 have HL0 := hid hl0
 clear hl0 q0
 subst he
 have c0_0 : w1.cell? ⟨w.heap.size, 1, none⟩ = some (v1) := r.cell 1
 go_wp2_with fail
 refine (szK_ints _ _ l0 w1 (G1.out.next bel) a0 b0).mono ?_
 rintro e w2 ⟨he, bb⟩
 rw [HT1.out] at he
 replace r := r.next bb
 replace bel := next_trans bel bb
 clear bb
 by_cases q1 : l0 - (t1 : Int) < 0
 ·rw [if_pos q1] at he
  subst he
  have F : AnsSzK w left (sz sPeak d) (.returned (.int .i64 (-1))) w2 := ⟨by have := HL0.out; rw [HE.out, if_pos (by omega)], bel⟩
  have HF := hid F
  clear F bel r
  go_wp2
  go_ret
  exact HF.out
 rw [if_neg q1] at he
 obtain ⟨l1, hl1⟩ : ∃ l, l0 - (t1 : Int) = l := ⟨_, rfl⟩
 rw [hl1] at he
 have a1 : 0 ≤ l1 := by omega
 have b1 : l1 ≤ 1048576 := by omega
 have HL1 := hid hl1
 clear hl1 q1
 subst he
 have c1_0 : w2.cell? ⟨w.heap.size, 2, none⟩ = some (v2) := r.cell 2
 go_wp2_with fail
 refine (szK_ints _ _ l1 w2 (G2.out.next bel) a1 b1).mono ?_
 rintro e w3 ⟨he, bb⟩
 rw [HT2.out] at he
 replace r := r.next bb
 replace bel := next_trans bel bb
 clear bb
 by_cases q2 : l1 - (t2 : Int) < 0
 ·rw [if_pos q2] at he
  subst he
  have F : AnsSzK w left (sz sPeak d) (.returned (.int .i64 (-1))) w3 := ⟨by have := HL0.out; have := HL1.out; rw [HE.out, if_pos (by omega)], bel⟩
  have HF := hid F
  clear F bel r
  go_wp2
  go_ret
  exact HF.out
 rw [if_neg q2] at he
 obtain ⟨l2, hl2⟩ : ∃ l, l1 - (t2 : Int) = l := ⟨_, rfl⟩
 rw [hl2] at he
 have a2 : 0 ≤ l2 := by omega
 have b2 : l2 ≤ 1048576 := by omega
 have HL2 := hid hl2
 clear hl2 q2
 subst he
 have F : AnsSzK w left (sz sPeak d) (.returned (.int .i64 l2)) w3 := ⟨by have := HL0.out; have := HL1.out; have := HL2.out; rw [HE.out, if_neg (by omega)]; exact congrArg (fun z => Ending.returned (.int .i64 z)) (by omega), bel⟩
 have HF := hid F
 clear F bel r
 go_wp2
 go_ret
 exact HF.out
def CopyPeak (w : World) (d : Dat sPeak) (e : Ending) (w' : World) : Prop := ∃ A0 n0 c0 A1 n1 c1 A2 n2 c2, e = .returned (.agg #[.slice A0 n0 c0, .slice A1 n1 c1, .slice A2 n2 c2, .int .i64 d.2.2.2.1, .int .i64 d.2.2.2.2.1, .int .i64 d.2.2.2.2.2]) ∧ Owned w' w.heap.size w'.heap.size sPeak [.slice A0 n0 c0, .slice A1 n1 c1, .slice A2 n2 c2, .int .i64 d.2.2.2.1, .int .i64 d.2.2.2.2.1, .int .i64 d.2.2.2.2.2] d ∧ Below w.heap.size w w'
set_option maxHeartbeats 2000000 in
theorem toK_Peak (v0 v1 v2 : Value) (d : Dat sPeak) (w : World) (h : Rd w w.heap.size sPeak [v0, v1, v2, .int .i64 d.2.2.2.1, .int .i64 d.2.2.2.2.1, .int .i64 d.2.2.2.2.2] d) (hz : sz sPeak d ≤ 1048576) :
  Calls Tryz.prog 33 #[.agg #[v0, v1, v2, .int .i64 d.2.2.2.1, .int .i64 d.2.2.2.2.1, .int .i64 d.2.2.2.2.2]] w (CopyPeak w d) := by
 obtain ⟨g0, g1, g2, g3, g4, g5⟩ := parts_Peak h
 have cp0 := CpS.zero w 66 40 #[v0, v1, v2, .int .i64 d.2.2.2.1, .int .i64 d.2.2.2.2.1, .int .i64 d.2.2.2.2.2] #[.slice none 0 0, .slice none 0 0, .slice none 0 0, .int .i64 0, .int .i64 0, .int .i64 0]
 obtain ⟨W, hW⟩ : ∃ W, W = ((w.alloc (.cells #[v0, v1, v2, .int .i64 d.2.2.2.1, .int .i64 d.2.2.2.2.1, .int .i64 d.2.2.2.2.2] 66)).alloc (.cells #[.slice none 0 0, .slice none 0 0, .slice none 0 0, .int .i64 0, .int .i64 0, .int .i64 0] 40)).alloc (.cells #[.slice none 0 0, .slice none 0 0, .slice none 0 0, .int .i64 0, .int .i64 0, .int .i64 0] 40) := ⟨_, rfl⟩
 rw [← hW] at cp0
 have HW := hid hW
 have G0 := hid g0
 have Z0 : Hid (sz sI d.1 ≤ 1048576) := hid (by have := hz; simp only [sz] at this ⊢; omega)
 have G1 := hid g1
 have Z1 : Hid (sz sI d.2.1 ≤ 1048576) := hid (by have := hz; simp only [sz] at this ⊢; omega)
 have G2 := hid g2
 have Z2 : Hid (sz sI d.2.2.1 ≤ 1048576) := hid (by have := hz; simp only [sz] at this ⊢; omega)
 clear hW hz h g0 g1 g2 g3 g4 g5
 go_enter Tryz.func33, Tryz.ntmps33
 go_wp2_with fail
 rw [← HW.out]
 refine (toK_ints _ _ _ ((G0.out.below cp0.bel).more cp0.bel.size) Z0.out).mono ?_
 rintro e w1 ⟨x0A0, x0n0, x0c0, rfl, o0, bb⟩
 have zb0 := bb.size
 have zc0 := cp0.size
 replace cp0 := cp0.next bb
 clear bb
 have f0_0 : w1.frozen? ⟨w.heap.size + 1 + 1, 0, none⟩ = false := cp0.cur.free 0
 have k0_0 : w1.cell? ⟨w.heap.size + 1 + 1, 0, none⟩ = some (.slice none 0 0) := cp0.cur.cell 0
 obtain ⟨w2, hw0⟩ : ∃ x, x = (w1.setCell ⟨w.heap.size + 1 + 1, 0, none⟩ (.slice x0A0 x0n0 x0c0)) := ⟨_, rfl⟩
 replace o0 := o0.put (g := w.heap.size + 1 + 1) (i := 0) (u := .slice x0A0 x0n0 x0c0) (by omega)
 rw [← hw0] at o0
 replace cp0 : CpS w 66 40 #[v0, v1, v2, .int .i64 d.2.2.2.1, .int .i64 d.2.2.2.2.1, .int .i64 d.2.2.2.2.2] #[.slice none 0 0, .slice none 0 0, .slice none 0 0, .int .i64 0, .int .i64 0, .int .i64 0] #[.slice x0A0 x0n0 x0c0, .slice none 0 0, .slice none 0 0, .int .i64 0, .int .i64 0, .int .i64 0] w2 := by rw [hw0]; exact (CpS.put cp0 0 (.slice x0A0 x0n0 x0c0))
 have zw0 : w2.heap.size = w1.heap.size := by rw [hw0]; simp
 have HW0 := hid hw0
 clear hw0
 have d1_0 : w2.cell? ⟨w.heap.size, 1, none⟩ = some (v1) := cp0.box.cell 1
 rw [HW0.out] at d1_0
 go_wp2_with fail
 rw [← HW0.out]
 clear d1_0
 refine (toK_ints _ _ _ ((G1.out.below cp0.bel).more cp0.bel.size) Z1.out).mono ?_
 rintro e w3 ⟨x1A0, x1n0, x1c0, rfl, o1, bb⟩
 replace o0 := o0.next bb
 have zb1 := bb.size
 have zc1 := cp0.size
 replace cp0 := cp0.next bb
 clear bb
 have f1_0 : w3.frozen? ⟨w.heap.size + 1 + 1, 1, none⟩ = false := cp0.cur.free 1
 have k1_0 : w3.cell? ⟨w.heap.size + 1 + 1, 1, none⟩ = some (.slice none 0 0) := cp0.cur.cell 1
 obtain ⟨w4, hw1⟩ : ∃ x, x = (w3.setCell ⟨w.heap.size + 1 + 1, 1, none⟩ (.slice x1A0 x1n0 x1c0)) := ⟨_, rfl⟩
 replace o0 := o0.put (g := w.heap.size + 1 + 1) (i := 1) (u := .slice x1A0 x1n0 x1c0) (by omega)
 rw [← hw1] at o0
 replace o1 := o1.put (g := w.heap.size + 1 + 1) (i := 1) (u := .slice x1A0 x1n0 x1c0) (by omega)
 rw [← hw1] at o1
 replace cp0 : CpS w 66 40 #[v0, v1, v2, .int .i64 d.2.2.2.1, .int .i64 d.2.2.2.2.1, .int .i64 d.2.2.2.2.2] #[.slice none 0 0, .slice none 0 0, .slice none 0 0, .int .i64 0, .int .i64 0, .int .i64 0] #[.slice x0A0 x0n0 x0c0, .slice x1A0 x1n0 x1c0, .slice none 0 0, .int .i64 0, .int .i64 0, .int .i64 0] w4 := by rw [hw1]; exact (CpS.put cp0 1 (.slice x1A0 x1n0 x1c0))
 have zw1 : w4.heap.size = w3.heap.size := by rw [hw1]; simp
 have HW1 := hid hw1
 clear hw1
 have d2_0 : w4.cell? ⟨w.heap.size, 2, none⟩ = some (v2) := cp0.box.cell 2
 rw [HW1.out] at d2_0
 go_wp2_with fail
 rw [← HW1.out]
 clear d2_0
 refine (toK_ints _ _ _ ((G2.out.below cp0.bel).more cp0.bel.size) Z2.out).mono ?_
 rintro e w5 ⟨x2A0, x2n0, x2c0, rfl, o2, bb⟩
 replace o0 := o0.next bb
 replace o1 := o1.next bb
 have zb2 := bb.size
 have zc2 := cp0.size
 replace cp0 := cp0.next bb
 clear bb
 have f2_0 : w5.frozen? ⟨w.heap.size + 1 + 1, 2, none⟩ = false := cp0.cur.free 2
 have k2_0 : w5.cell? ⟨w.heap.size + 1 + 1, 2, none⟩ = some (.slice none 0 0) := cp0.cur.cell 2
 have f3_0 : ((w5.setCell ⟨w.heap.size + 1 + 1, 2, none⟩ (.slice x2A0 x2n0 x2c0))).frozen? ⟨w.heap.size + 1 + 1, 3, none⟩ = false := (CpS.put cp0 2 (.slice x2A0 x2n0 x2c0)).cur.free 3
 have k3_0 : ((w5.setCell ⟨w.heap.size + 1 + 1, 2, none⟩ (.slice x2A0 x2n0 x2c0))).cell? ⟨w.heap.size + 1 + 1, 3, none⟩ = some (.int .i64 0) := (CpS.put cp0 2 (.slice x2A0 x2n0 x2c0)).cur.cell 3
 have b3_0 : ((w5.setCell ⟨w.heap.size + 1 + 1, 2, none⟩ (.slice x2A0 x2n0 x2c0))).cell? ⟨w.heap.size, 3, none⟩ = some (.int .i64 d.2.2.2.1) := (CpS.put cp0 2 (.slice x2A0 x2n0 x2c0)).box.cell 3
 have f4_0 : (((w5.setCell ⟨w.heap.size + 1 + 1, 2, none⟩ (.slice x2A0 x2n0 x2c0)).setCell ⟨w.heap.size + 1 + 1, 3, none⟩ (.int .i64 d.2.2.2.1))).frozen? ⟨w.heap.size + 1 + 1, 4, none⟩ = false := (CpS.put (CpS.put cp0 2 (.slice x2A0 x2n0 x2c0)) 3 (.int .i64 d.2.2.2.1)).cur.free 4
 have k4_0 : (((w5.setCell ⟨w.heap.size + 1 + 1, 2, none⟩ (.slice x2A0 x2n0 x2c0)).setCell ⟨w.heap.size + 1 + 1, 3, none⟩ (.int .i64 d.2.2.2.1))).cell? ⟨w.heap.size + 1 + 1, 4, none⟩ = some (.int .i64 0) := (CpS.put (CpS.put cp0 2 (.slice x2A0 x2n0 x2c0)) 3 (.int .i64 d.2.2.2.1)).cur.cell 4
 have b4_0 : (((w5.setCell ⟨w.heap.size + 1 + 1, 2, none⟩ (.slice x2A0 x2n0 x2c0)).setCell ⟨w.heap.size + 1 + 1, 3, none⟩ (.int .i64 d.2.2.2.1))).cell? ⟨w.heap.size, 4, none⟩ = some (.int .i64 d.2.2.2.2.1) := (CpS.put (CpS.put cp0 2 (.slice x2A0 x2n0 x2c0)) 3 (.int .i64 d.2.2.2.1)).box.cell 4
 have f5_0 : ((((w5.setCell ⟨w.heap.size + 1 + 1, 2, none⟩ (.slice x2A0 x2n0 x2c0)).setCell ⟨w.heap.size + 1 + 1, 3, none⟩ (.int .i64 d.2.2.2.1)).setCell ⟨w.heap.size + 1 + 1, 4, none⟩ (.int .i64 d.2.2.2.2.1))).frozen? ⟨w.heap.size + 1 + 1, 5, none⟩ = false := (CpS.put (CpS.put (CpS.put cp0 2 (.slice x2A0 x2n0 x2c0)) 3 (.int .i64 d.2.2.2.1)) 4 (.int .i64 d.2.2.2.2.1)).cur.free 5
 have k5_0 : ((((w5.setCell ⟨w.heap.size + 1 + 1, 2, none⟩ (.slice x2A0 x2n0 x2c0)).setCell ⟨w.heap.size + 1 + 1, 3, none⟩ (.int .i64 d.2.2.2.1)).setCell ⟨w.heap.size + 1 + 1, 4, none⟩ (.int .i64 d.2.2.2.2.1))).cell? ⟨w.heap.size + 1 + 1, 5, none⟩ = some (.int .i64 0) := (CpS.put (CpS.put (CpS.put cp0 2 (.slice x2A0 x2n0 x2c0)) 3 (.int .i64 d.2.2.2.1)) 4 (.int .i64 d.2.2.2.2.1)).cur.cell 5
 have b5_0 : ((((w5.setCell ⟨w.heap.size + 1 + 1, 2, none⟩ (.slice x2A0 x2n0 x2c0)).setCell ⟨w.heap.size + 1 + 1, 3, none⟩ (.int .i64 d.2.2.2.1)).setCell ⟨w.heap.size + 1 + 1, 4, none⟩ (.int .i64 d.2.2.2.2.1))).cell? ⟨w.heap.size, 5, none⟩ = some (.int .i64 d.2.2.2.2.2) := (CpS.put (CpS.put (CpS.put cp0 2 (.slice x2A0 x2n0 x2c0)) 3 (.int .i64 d.2.2.2.1)) 4 (.int .i64 d.2.2.2.2.1)).box.cell 5
 obtain ⟨w6, hw2⟩ : ∃ x, x = ((((w5.setCell ⟨w.heap.size + 1 + 1, 2, none⟩ (.slice x2A0 x2n0 x2c0)).setCell ⟨w.heap.size + 1 + 1, 3, none⟩ (.int .i64 d.2.2.2.1)).setCell ⟨w.heap.size + 1 + 1, 4, none⟩ (.int .i64 d.2.2.2.2.1)).setCell ⟨w.heap.size + 1 + 1, 5, none⟩ (.int .i64 d.2.2.2.2.2)) := ⟨_, rfl⟩
 replace o0 := o0.put (g := w.heap.size + 1 + 1) (i := 2) (u := .slice x2A0 x2n0 x2c0) (by omega)
 replace o0 := o0.put (g := w.heap.size + 1 + 1) (i := 3) (u := .int .i64 d.2.2.2.1) (by omega)
 replace o0 := o0.put (g := w.heap.size + 1 + 1) (i := 4) (u := .int .i64 d.2.2.2.2.1) (by omega)
 replace o0 := o0.put (g := w.heap.size + 1 + 1) (i := 5) (u := .int .i64 d.2.2.2.2.2) (by omega)
 rw [← hw2] at o0
 replace o1 := o1.put (g := w.heap.size + 1 + 1) (i := 2) (u := .slice x2A0 x2n0 x2c0) (by omega)
 replace o1 := o1.put (g := w.heap.size + 1 + 1) (i := 3) (u := .int .i64 d.2.2.2.1) (by omega)
 replace o1 := o1.put (g := w.heap.size + 1 + 1) (i := 4) (u := .int .i64 d.2.2.2.2.1) (by omega)
 replace o1 := o1.put (g := w.heap.size + 1 + 1) (i := 5) (u := .int .i64 d.2.2.2.2.2) (by omega)
 rw [← hw2] at o1
 replace o2 := o2.put (g := w.heap.size + 1 + 1) (i := 2) (u := .slice x2A0 x2n0 x2c0) (by omega)
 replace o2 := o2.put (g := w.heap.size + 1 + 1) (i := 3) (u := .int .i64 d.2.2.2.1) (by omega)
 replace o2 := o2.put (g := w.heap.size + 1 + 1) (i := 4) (u := .int .i64 d.2.2.2.2.1) (by omega)
 replace o2 := o2.put (g := w.heap.size + 1 + 1) (i := 5) (u := .int .i64 d.2.2.2.2.2) (by omega)
 rw [← hw2] at o2
 replace cp0 : CpS w 66 40 #[v0, v1, v2, .int .i64 d.2.2.2.1, .int .i64 d.2.2.2.2.1, .int .i64 d.2.2.2.2.2] #[.slice none 0 0, .slice none 0 0, .slice none 0 0, .int .i64 0, .int .i64 0, .int .i64 0] #[.slice x0A0 x0n0 x0c0, .slice x1A0 x1n0 x1c0, .slice x2A0 x2n0 x2c0, .int .i64 d.2.2.2.1, .int .i64 d.2.2.2.2.1, .int .i64 d.2.2.2.2.2] w6 := by rw [hw2]; exact (CpS.put (CpS.put (CpS.put (CpS.put cp0 2 (.slice x2A0 x2n0 x2c0)) 3 (.int .i64 d.2.2.2.1)) 4 (.int .i64 d.2.2.2.2.1)) 5 (.int .i64 d.2.2.2.2.2))
 have zw2 : w6.heap.size = w5.heap.size := by rw [hw2]; simp
 have HW2 := hid hw2
 clear hw2
 have y0 : w6.cell? ⟨w.heap.size + 1 + 1, 0, none⟩ = some (.slice x0A0 x0n0 x0c0) := cp0.cur.cell 0
 rw [HW2.out] at y0
 have y1 : w6.cell? ⟨w.heap.size + 1 + 1, 1, none⟩ = some (.slice x1A0 x1n0 x1c0) := cp0.cur.cell 1
 rw [HW2.out] at y1
 have y2 : w6.cell? ⟨w.heap.size + 1 + 1, 2, none⟩ = some (.slice x2A0 x2n0 x2c0) := cp0.cur.cell 2
 rw [HW2.out] at y2
 have y3 : w6.cell? ⟨w.heap.size + 1 + 1, 3, none⟩ = some (.int .i64 d.2.2.2.1) := cp0.cur.cell 3
 rw [HW2.out] at y3
 have y4 : w6.cell? ⟨w.heap.size + 1 + 1, 4, none⟩ = some (.int .i64 d.2.2.2.2.1) := cp0.cur.cell 4
 rw [HW2.out] at y4
 have y5 : w6.cell? ⟨w.heap.size + 1 + 1, 5, none⟩ = some (.int .i64 d.2.2.2.2.2) := cp0.cur.cell 5
 rw [HW2.out] at y5
 have s0 : (w6).cell? ⟨w.heap.size + 1, 0, none⟩ = some (.slice none 0 0) := cp0.res.cell 0
 rw [HW2.out] at s0
 have r0 : (w6).frozen? ⟨w.heap.size + 1, 0, none⟩ = false := cp0.res.free 0
 rw [HW2.out] at r0
 have s1 : ((w6.setCell ⟨w.heap.size + 1, 0, none⟩ (.slice x0A0 x0n0 x0c0))).cell? ⟨w.heap.size + 1, 1, none⟩ = some (.slice none 0 0) := (CpS.fin cp0 0 (.slice x0A0 x0n0 x0c0)).res.cell 1
 rw [HW2.out] at s1
 have r1 : ((w6.setCell ⟨w.heap.size + 1, 0, none⟩ (.slice x0A0 x0n0 x0c0))).frozen? ⟨w.heap.size + 1, 1, none⟩ = false := (CpS.fin cp0 0 (.slice x0A0 x0n0 x0c0)).res.free 1
 rw [HW2.out] at r1
 have s2 : (((w6.setCell ⟨w.heap.size + 1, 0, none⟩ (.slice x0A0 x0n0 x0c0)).setCell ⟨w.heap.size + 1, 1, none⟩ (.slice x1A0 x1n0 x1c0))).cell? ⟨w.heap.size + 1, 2, none⟩ = some (.slice none 0 0) := (CpS.fin (CpS.fin cp0 0 (.slice x0A0 x0n0 x0c0)) 1 (.slice x1A0 x1n0 x1c0)).res.cell 2
 rw [HW2.out] at s2
 have r2 : (((w6.setCell ⟨w.heap.size + 1, 0, none⟩ (.slice x0A0 x0n0 x0c0)).setCell ⟨w.heap.size + 1, 1, none⟩ (.slice x1A0 x1n0 x1c0))).frozen? ⟨w.heap.size + 1, 2, none⟩ = false := (CpS.fin (CpS.fin cp0 0 (.slice x0A0 x0n0 x0c0)) 1 (.slice x1A0 x1n0 x1c0)).res.free 2
 rw [HW2.out] at r2
 have s3 : ((((w6.setCell ⟨w.heap.size + 1, 0, none⟩ (.slice x0A0 x0n0 x0c0)).setCell ⟨w.heap.size + 1, 1, none⟩ (.slice x1A0 x1n0 x1c0)).setCell ⟨w.heap.size + 1, 2, none⟩ (.slice x2A0 x2n0 x2c0))).cell? ⟨w.heap.size + 1, 3, none⟩ = some (.int .i64 0) := (CpS.fin (CpS.fin (CpS.fin cp0 0 (.slice x0A0 x0n0 x0c0)) 1 (.slice x1A0 x1n0 x1c0)) 2 (.slice x2A0 x2n0 x2c0)).res.cell 3
 rw [HW2.out] at s3
 have r3 : ((((w6.setCell ⟨w.heap.size + 1, 0, none⟩ (.slice x0A0 x0n0 x0c0)).setCell ⟨w.heap.size + 1, 1, none⟩ (.slice x1A0 x1n0 x1c0)).setCell ⟨w.heap.size + 1, 2, none⟩ (.slice x2A0 x2n0 x2c0))).frozen? ⟨w.heap.size + 1, 3, none⟩ = false := (CpS.fin (CpS.fin (CpS.fin cp0 0 (.slice x0A0 x0n0 x0c0)) 1 (.slice x1A0 x1n0 x1c0)) 2 (.slice x2A0 x2n0 x2c0)).res.free 3
 rw [HW2.out] at r3
 have s4 : (((((w6.setCell ⟨w.heap.size + 1, 0, none⟩ (.slice x0A0 x0n0 x0c0)).setCell ⟨w.heap.size + 1, 1, none⟩ (.slice x1A0 x1n0 x1c0)).setCell ⟨w.heap.size + 1, 2, none⟩ (.slice x2A0 x2n0 x2c0)).setCell ⟨w.heap.size + 1, 3, none⟩ (.int .i64 d.2.2.2.1))).cell? ⟨w.heap.size + 1, 4, none⟩ = some (.int .i64 0) := (CpS.fin (CpS.fin (CpS.fin (CpS.fin cp0 0 (.slice x0A0 x0n0 x0c0)) 1 (.slice x1A0 x1n0 x1c0)) 2 (.slice x2A0 x2n0 x2c0)) 3 (.int .i64 d.2.2.2.1)).res.cell 4
 rw [HW2.out] at s4
 have r4 : (((((w6.setCell ⟨w.heap.size + 1, 0, none⟩ (.slice x0A0 x0n0 x0c0)).setCell ⟨w.heap.size + 1, 1, none⟩ (.slice x1A0 x1n0 x1c0)).setCell ⟨w.heap.size + 1, 2, none⟩ (.slice x2A0 x2n0 x2c0)).setCell ⟨w.heap.size + 1, 3, none⟩ (.int .i64 d.2.2.2.1))).frozen? ⟨w.heap.size + 1, 4, none⟩ = false := (CpS.fin (CpS.fin (CpS.fin (CpS.fin cp0 0 (.slice x0A0 x0n0 x0c0)) 1 (.slice x1A0 x1n0 x1c0)) 2 (.slice x2A0 x2n0 x2c0)) 3 (.int .i64 d.2.2.2.1)).res.free 4
 rw [HW2.out] at r4
 have s5 : ((((((w6.setCell ⟨w.heap.size + 1, 0, none⟩ (.slice x0A0 x0n0 x0c0)).setCell ⟨w.heap.size + 1, 1, none⟩ (.slice x1A0 x1n0 x1c0)).setCell ⟨w.heap.size + 1, 2, none⟩ (.slice x2A0 x2n0 x2c0)).setCell ⟨w.heap.size + 1, 3, none⟩ (.int .i64 d.2.2.2.1)).setCell ⟨w.heap.size + 1, 4, none⟩ (.int .i64 d.2.2.2.2.1))).cell? ⟨w.heap.size + 1, 5, none⟩ = some (.int .i64 0) := (CpS.fin (CpS.fin (CpS.fin (CpS.fin (CpS.fin cp0 0 (.slice x0A0 x0n0 x0c0)) 1 (.slice x1A0 x1n0 x1c0)) 2 (.slice x2A0 x2n0 x2c0)) 3 (.int .i64 d.2.2.2.1)) 4 (.int .i64 d.2.2.2.2.1)).res.cell 5
 rw [HW2.out] at s5
 have r5 : ((((((w6.setCell ⟨w.heap.size + 1, 0, none⟩ (.slice x0A0 x0n0 x0c0)).setCell ⟨w.heap.size + 1, 1, none⟩ (.slice x1A0 x1n0 x1c0)).setCell ⟨w.heap.size + 1, 2, none⟩ (.slice x2A0 x2n0 x2c0)).setCell ⟨w.heap.size + 1, 3, none⟩ (.int .i64 d.2.2.2.1)).setCell ⟨w.heap.size + 1, 4, none⟩ (.int .i64 d.2.2.2.2.1))).frozen? ⟨w.heap.size + 1, 5, none⟩ = false := (CpS.fin (CpS.fin (CpS.fin (CpS.fin (CpS.fin cp0 0 (.slice x0A0 x0n0 x0c0)) 1 (.slice x1A0 x1n0 x1c0)) 2 (.slice x2A0 x2n0 x2c0)) 3 (.int .i64 d.2.2.2.1)) 4 (.int .i64 d.2.2.2.2.1)).res.free 5
 rw [HW2.out] at r5
 have o3 := Owned.num w6 (w6.heap.size) (w6.heap.size) d.2.2.2.1
 have o4 := Owned.num w6 (w6.heap.size) (w6.heap.size) d.2.2.2.2.1
 have o5 := Owned.num w6 (w6.heap.size) (w6.heap.size) d.2.2.2.2.2
 have oo : Owned w6 (w.heap.size + 1 + 1 + 1) w6.heap.size sPeak [.slice x0A0 x0n0 x0c0, .slice x1A0 x1n0 x1c0, .slice x2A0 x2n0 x2c0, .int .i64 d.2.2.2.1, .int .i64 d.2.2.2.2.1, .int .i64 d.2.2.2.2.2] d := join_Peak (m0 := W.heap.size) (m1 := w2.heap.size) (m2 := w4.heap.size) (m3 := w6.heap.size) (m4 := w6.heap.size) (m5 := w6.heap.size) (m6 := w6.heap.size) (o0.wider (Nat.le_refl _) (by omega)) (o1.wider (Nat.le_refl _) (by omega)) (o2.wider (Nat.le_refl _) (by omega)) o3 o4 o5 (by omega) (by omega) (by omega) (by omega) (by omega) (by omega) (by omega) (by omega)
 have F : CopyPeak w d (.returned (.agg #[.slice x0A0 x0n0 x0c0, .slice x1A0 x1n0 x1c0, .slice x2A0 x2n0 x2c0, .int .i64 d.2.2.2.1, .int .i64 d.2.2.2.2.1, .int .i64 d.2.2.2.2.2])) ((((((w6.setCell ⟨w.heap.size + 1, 0, none⟩ (.slice x0A0 x0n0 x0c0)).setCell ⟨w.heap.size + 1, 1, none⟩ (.slice x1A0 x1n0 x1c0)).setCell ⟨w.heap.size + 1, 2, none⟩ (.slice x2A0 x2n0 x2c0)).setCell ⟨w.heap.size + 1, 3, none⟩ (.int .i64 d.2.2.2.1)).setCell ⟨w.heap.size + 1, 4, none⟩ (.int .i64 d.2.2.2.2.1)).setCell ⟨w.heap.size + 1, 5, none⟩ (.int .i64 d.2.2.2.2.2)) := ⟨x0A0, x0n0, x0c0, x1A0, x1n0, x1c0, x2A0, x2n0, x2c0, rfl, Owned.wider (((((((oo.put (g := w.heap.size + 1) (i := 0) (u := .slice x0A0 x0n0 x0c0) (by omega)).put (g := w.heap.size + 1) (i := 1) (u := .slice x1A0 x1n0 x1c0) (by omega)).put (g := w.heap.size + 1) (i := 2) (u := .slice x2A0 x2n0 x2c0) (by omega)).put (g := w.heap.size + 1) (i := 3) (u := .int .i64 d.2.2.2.1) (by omega)).put (g := w.heap.size + 1) (i := 4) (u := .int .i64 d.2.2.2.2.1) (by omega)).put (g := w.heap.size + 1) (i := 5) (u := .int .i64 d.2.2.2.2.2) (by omega))) (by omega) (by simp), ((CpS.fin (CpS.fin (CpS.fin (CpS.fin (CpS.fin (CpS.fin cp0 0 (.slice x0A0 x0n0 x0c0)) 1 (.slice x1A0 x1n0 x1c0)) 2 (.slice x2A0 x2n0 x2c0)) 3 (.int .i64 d.2.2.2.1)) 4 (.int .i64 d.2.2.2.2.1)) 5 (.int .i64 d.2.2.2.2.2))).bel⟩
 have u0 : (((((((w6.setCell ⟨w.heap.size + 1, 0, none⟩ (.slice x0A0 x0n0 x0c0)).setCell ⟨w.heap.size + 1, 1, none⟩ (.slice x1A0 x1n0 x1c0)).setCell ⟨w.heap.size + 1, 2, none⟩ (.slice x2A0 x2n0 x2c0)).setCell ⟨w.heap.size + 1, 3, none⟩ (.int .i64 d.2.2.2.1)).setCell ⟨w.heap.size + 1, 4, none⟩ (.int .i64 d.2.2.2.2.1)).setCell ⟨w.heap.size + 1, 5, none⟩ (.int .i64 d.2.2.2.2.2))).cell? ⟨w.heap.size + 1, 0, none⟩ = some (.slice x0A0 x0n0 x0c0) := (CpS.fin (CpS.fin (CpS.fin (CpS.fin (CpS.fin (CpS.fin cp0 0 (.slice x0A0 x0n0 x0c0)) 1 (.slice x1A0 x1n0 x1c0)) 2 (.slice x2A0 x2n0 x2c0)) 3 (.int .i64 d.2.2.2.1)) 4 (.int .i64 d.2.2.2.2.1)) 5 (.int .i64 d.2.2.2.2.2)).res.cell 0
 rw [HW2.out] at u0
 have u1 : (((((((w6.setCell ⟨w.heap.size + 1, 0, none⟩ (.slice x0A0 x0n0 x0c0)).setCell ⟨w.heap.size + 1, 1, none⟩ (.slice x1A0 x1n0 x1c0)).setCell ⟨w.heap.size + 1, 2, none⟩ (.slice x2A0 x2n0 x2c0)).setCell ⟨w.heap.size + 1, 3, none⟩ (.int .i64 d.2.2.2.1)).setCell ⟨w.heap.size + 1, 4, none⟩ (.int .i64 d.2.2.2.2.1)).setCell ⟨w.heap.size + 1, 5, none⟩ (.int .i64 d.2.2.2.2.2))).cell? ⟨w.heap.size + 1, 1, none⟩ = some (.slice x1A0 x1n0 x1c0) := (CpS.fin (CpS.fin (CpS.fin (CpS.fin (CpS.fin (CpS.fin cp0 0 (.slice x0A0 x0n0 x0c0)) 1 (.slice x1A0 x1n0 x1c0)) 2 (.slice x2A0 x2n0 x2c0)) 3 (.int .i64 d.2.2.2.1)) 4 (.int .i64 d.2.2.2.2.1)) 5 (.int .i64 d.2.2.2.2.2)).res.cell 1
 rw [HW2.out] at u1
 have u2 : (((((((w6.setCell ⟨w.heap.size + 1, 0, none⟩ (.slice x0A0 x0n0 x0c0)).setCell ⟨w.heap.size + 1, 1, none⟩ (.slice x1A0 x1n0 x1c0)).setCell ⟨w.heap.size + 1, 2, none⟩ (.slice x2A0 x2n0 x2c0)).setCell ⟨w.heap.size + 1, 3, none⟩ (.int .i64 d.2.2.2.1)).setCell ⟨w.heap.size + 1, 4, none⟩ (.int .i64 d.2.2.2.2.1)).setCell ⟨w.heap.size + 1, 5, none⟩ (.int .i64 d.2.2.2.2.2))).cell? ⟨w.heap.size + 1, 2, none⟩ = some (.slice x2A0 x2n0 x2c0) := (CpS.fin (CpS.fin (CpS.fin (CpS.fin (CpS.fin (CpS.fin cp0 0 (.slice x0A0 x0n0 x0c0)) 1 (.slice x1A0 x1n0 x1c0)) 2 (.slice x2A0 x2n0 x2c0)) 3 (.int .i64 d.2.2.2.1)) 4 (.int .i64 d.2.2.2.2.1)) 5 (.int .i64 d.2.2.2.2.2)).res.cell 2
 rw [HW2.out] at u2
 have u3 : (((((((w6.setCell ⟨w.heap.size + 1, 0, none⟩ (.slice x0A0 x0n0 x0c0)).setCell ⟨w.heap.size + 1, 1, none⟩ (.slice x1A0 x1n0 x1c0)).setCell ⟨w.heap.size + 1, 2, none⟩ (.slice x2A0 x2n0 x2c0)).setCell ⟨w.heap.size + 1, 3, none⟩ (.int .i64 d.2.2.2.1)).setCell ⟨w.heap.size + 1, 4, none⟩ (.int .i64 d.2.2.2.2.1)).setCell ⟨w.heap.size + 1, 5, none⟩ (.int .i64 d.2.2.2.2.2))).cell? ⟨w.heap.size + 1, 3, none⟩ = some (.int .i64 d.2.2.2.1) := (CpS.fin (CpS.fin (CpS.fin (CpS.fin (CpS.fin (CpS.fin cp0 0 (.slice x0A0 x0n0 x0c0)) 1 (.slice x1A0 x1n0 x1c0)) 2 (.slice x2A0 x2n0 x2c0)) 3 (.int .i64 d.2.2.2.1)) 4 (.int .i64 d.2.2.2.2.1)) 5 (.int .i64 d.2.2.2.2.2)).res.cell 3
 rw [HW2.out] at u3
 have u4 : (((((((w6.setCell ⟨w.heap.size + 1, 0, none⟩ (.slice x0A0 x0n0 x0c0)).setCell ⟨w.heap.size + 1, 1, none⟩ (.slice x1A0 x1n0 x1c0)).setCell ⟨w.heap.size + 1, 2, none⟩ (.slice x2A0 x2n0 x2c0)).setCell ⟨w.heap.size + 1, 3, none⟩ (.int .i64 d.2.2.2.1)).setCell ⟨w.heap.size + 1, 4, none⟩ (.int .i64 d.2.2.2.2.1)).setCell ⟨w.heap.size + 1, 5, none⟩ (.int .i64 d.2.2.2.2.2))).cell? ⟨w.heap.size + 1, 4, none⟩ = some (.int .i64 d.2.2.2.2.1) := (CpS.fin (CpS.fin (CpS.fin (CpS.fin (CpS.fin (CpS.fin cp0 0 (.slice x0A0 x0n0 x0c0)) 1 (.slice x1A0 x1n0 x1c0)) 2 (.slice x2A0 x2n0 x2c0)) 3 (.int .i64 d.2.2.2.1)) 4 (.int .i64 d.2.2.2.2.1)) 5 (.int .i64 d.2.2.2.2.2)).res.cell 4
 rw [HW2.out] at u4
 have u5 : (((((((w6.setCell ⟨w.heap.size + 1, 0, none⟩ (.slice x0A0 x0n0 x0c0)).setCell ⟨w.heap.size + 1, 1, none⟩ (.slice x1A0 x1n0 x1c0)).setCell ⟨w.heap.size + 1, 2, none⟩ (.slice x2A0 x2n0 x2c0)).setCell ⟨w.heap.size + 1, 3, none⟩ (.int .i64 d.2.2.2.1)).setCell ⟨w.heap.size + 1, 4, none⟩ (.int .i64 d.2.2.2.2.1)).setCell ⟨w.heap.size + 1, 5, none⟩ (.int .i64 d.2.2.2.2.2))).cell? ⟨w.heap.size + 1, 5, none⟩ = some (.int .i64 d.2.2.2.2.2) := (CpS.fin (CpS.fin (CpS.fin (CpS.fin (CpS.fin (CpS.fin cp0 0 (.slice x0A0 x0n0 x0c0)) 1 (.slice x1A0 x1n0 x1c0)) 2 (.slice x2A0 x2n0 x2c0)) 3 (.int .i64 d.2.2.2.1)) 4 (.int .i64 d.2.2.2.2.1)) 5 (.int .i64 d.2.2.2.2.2)).res.cell 5
 rw [HW2.out] at u5
 rw [HW2.out] at F
 have HF := hid F
 clear F oo cp0 o0 o1 o2
 go_wp2
 exact bodyPost_ret (v := .agg #[.slice x0A0 x0n0 x0c0, .slice x1A0 x1n0 x1c0, .slice x2A0 x2n0 x2c0, .int .i64 d.2.2.2.1, .int .i64 d.2.2.2.2.1, .int .i64 d.2.2.2.2.2]) (by simp [results, Tryz.results33, go_sem, u0, u1, u2, u3, u4, u5]) rfl HF.out
set_option maxHeartbeats 2000000 in
theorem eqK_Peak (v0 v1 v2 u0 u1 u2 : Value) (d : Dat sPeak) (w : World) (h : Rd w w.heap.size sPeak [v0, v1, v2, .int .i64 d.2.2.2.1, .int .i64 d.2.2.2.2.1, .int .i64 d.2.2.2.2.2] d) (h' : Rd w w.heap.size sPeak [u0, u1, u2, .int .i64 d.2.2.2.1, .int .i64 d.2.2.2.2.1, .int .i64 d.2.2.2.2.2] d) (hz : sz sPeak d ≤ 1048576) :
  Calls Tryz.prog 35 #[.agg #[v0, v1, v2, .int .i64 d.2.2.2.1, .int .i64 d.2.2.2.2.1, .int .i64 d.2.2.2.2.2], .agg #[u0, u1, u2, .int .i64 d.2.2.2.1, .int .i64 d.2.2.2.2.1, .int .i64 d.2.2.2.2.2]] w (Yes w) := by
 obtain ⟨g0, g1, g2, g3, g4, g5⟩ := parts_Peak h
 obtain ⟨g0', g1', g2', g3', g4', g5'⟩ := parts_Peak h'
 obtain ⟨W, hW⟩ : ∃ W, W = (w.alloc (.cells #[v0, v1, v2, .int .i64 d.2.2.2.1, .int .i64 d.2.2.2.2.1, .int .i64 d.2.2.2.2.2] 40)).alloc (.cells #[u0, u1, u2, .int .i64 d.2.2.2.1, .int .i64 d.2.2.2.2.1, .int .i64 d.2.2.2.2.2] 40) := ⟨_, rfl⟩
 have ra : Row W w.heap.size 40 #[v0, v1, v2, .int .i64 d.2.2.2.1, .int .i64 d.2.2.2.2.1, .int .i64 d.2.2.2.2.2] := by rw [hW]; exact (Row.new w 40 #[v0, v1, v2, .int .i64 d.2.2.2.1, .int .i64 d.2.2.2.2.1, .int .i64 d.2.2.2.2.2]).alloc _
 have rb : Row W (w.heap.size + 1) 40 #[u0, u1, u2, .int .i64 d.2.2.2.1, .int .i64 d.2.2.2.2.1, .int .i64 d.2.2.2.2.2] := by rw [hW]; have := Row.new (w.alloc (.cells #[v0, v1, v2, .int .i64 d.2.2.2.1, .int .i64 d.2.2.2.2.1, .int .i64 d.2.2.2.2.2] 40)) 40 #[u0, u1, u2, .int .i64 d.2.2.2.1, .int .i64 d.2.2.2.2.1, .int .i64 d.2.2.2.2.2]; simpa using this
 have bel : Below w.heap.size w W := by rw [hW]; exact ((Below.refl _ _).alloc (Nat.le_refl _) _).alloc (by simp) _
 have HW := hid hW
 have G0 := hid g0
 have G0' := hid g0'
 have Z0 : Hid (sz sI d.1 ≤ 1048576) := hid (by have := hz; simp only [sz] at this ⊢; omega)
 have G1 := hid g1
 have G1' := hid g1'
 have Z1 : Hid (sz sI d.2.1 ≤ 1048576) := hid (by have := hz; simp only [sz] at this ⊢; omega)
 have G2 := hid g2
 have G2' := hid g2'
 have Z2 : Hid (sz sI d.2.2.1 ≤ 1048576) := hid (by have := hz; simp only [sz] at this ⊢; omega)
 clear hW hz h h' g0 g0' g1 g1' g2 g2' g3 g3' g4 g4' g5 g5'
 go_enter Tryz.func35, Tryz.ntmps35
 go_wp2_with fail
 rw [← HW.out]
 refine (eqK_ints _ _ _ W (G0.out.next bel) (G0'.out.next bel) Z0.out).mono ?_
 rintro e w1 ⟨rfl, bb⟩
 replace ra := ra.next bb
 replace rb := rb.next bb
 replace bel := next_trans bel bb
 clear bb
 have a1_0 : w1.cell? ⟨w.heap.size, 1, none⟩ = some (v1) := ra.cell 1
 have b1_0 : w1.cell? ⟨w.heap.size + 1, 1, none⟩ = some (u1) := rb.cell 1
 go_wp2_with fail
 clear a1_0 b1_0
 refine (eqK_ints _ _ _ w1 (G1.out.next bel) (G1'.out.next bel) Z1.out).mono ?_
 rintro e w2 ⟨rfl, bb⟩
 replace ra := ra.next bb
 replace rb := rb.next bb
 replace bel := next_trans bel bb
 clear bb
 have a2_0 : w2.cell? ⟨w.heap.size, 2, none⟩ = some (v2) := ra.cell 2
 have b2_0 : w2.cell? ⟨w.heap.size + 1, 2, none⟩ = some (u2) := rb.cell 2
 go_wp2_with fail
 clear a2_0 b2_0
 refine (eqK_ints _ _ _ w2 (G2.out.next bel) (G2'.out.next bel) Z2.out).mono ?_
 rintro e w3 ⟨rfl, bb⟩
 replace ra := ra.next bb
 replace rb := rb.next bb
 replace bel := next_trans bel bb
 clear bb
 have a5_0 : w3.cell? ⟨w.heap.size, 5, none⟩ = some (.int .i64 d.2.2.2.2.2) := ra.cell 5
 have b5_0 : w3.cell? ⟨w.heap.size + 1, 5, none⟩ = some (.int .i64 d.2.2.2.2.2) := rb.cell 5
 have a4_0 : w3.cell? ⟨w.heap.size, 4, none⟩ = some (.int .i64 d.2.2.2.2.1) := ra.cell 4
 have b4_0 : w3.cell? ⟨w.heap.size + 1, 4, none⟩ = some (.int .i64 d.2.2.2.2.1) := rb.cell 4
 have a3_0 : w3.cell? ⟨w.heap.size, 3, none⟩ = some (.int .i64 d.2.2.2.1) := ra.cell 3
 have b3_0 : w3.cell? ⟨w.heap.size + 1, 3, none⟩ = some (.int .i64 d.2.2.2.1) := rb.cell 3
 have F : Yes w (.returned (.bool true)) w3 := ⟨rfl, bel⟩
 have HF := hid F
 clear F ra rb bel
 go_wp2
 go_ret
 exact HF.out
set_option maxHeartbeats 2000000 in
theorem markK_Peak (v0 v1 v2 : Value) (d : Dat sPeak) (k : Int) (F : List Nat) (w : World) (h : Ow w sPeak [v0, v1, v2, .int .i64 d.2.2.2.1, .int .i64 d.2.2.2.2.1, .int .i64 d.2.2.2.2.2] d F) (hF : F.Nodup) (hz : sz sPeak d ≤ 1048576) (hk0 : 0 ≤ k) (hk : k + (cntv sPeak d : Int) ≤ 1099511627776) :
  Calls Tryz.prog 39 #[.agg #[v0, v1, v2, .int .i64 d.2.2.2.1, .int .i64 d.2.2.2.2.1, .int .i64 d.2.2.2.2.2], .int .i64 k] w (AnsMarkF w sPeak [v0, v1, v2, .int .i64 d.2.2.2.1, .int .i64 d.2.2.2.2.1, .int .i64 d.2.2.2.2.2] d k F) := by
 have hlt := h.lt
 obtain ⟨F0, R0, eF0, o0, q0⟩ := Ow.split (ca := [v0]) (cb := [v1, v2, .int .i64 d.2.2.2.1, .int .i64 d.2.2.2.2.1, .int .i64 d.2.2.2.2.2]) h rfl
 obtain ⟨F1, R1, eF1, o1, q1⟩ := Ow.split (ca := [v1]) (cb := [v2, .int .i64 d.2.2.2.1, .int .i64 d.2.2.2.2.1, .int .i64 d.2.2.2.2.2]) q0 rfl
 obtain ⟨F2, R2, eF2, o2, q2⟩ := Ow.split (ca := [v2]) (cb := [.int .i64 d.2.2.2.1, .int .i64 d.2.2.2.2.1, .int .i64 d.2.2.2.2.2]) q1 rfl
 obtain ⟨F3, R3, eF3, o3, q3⟩ := Ow.split (ca := [.int .i64 d.2.2.2.1]) (cb := [.int .i64 d.2.2.2.2.1, .int .i64 d.2.2.2.2.2]) q2 rfl
 obtain ⟨F4, R4, eF4, o4, o5⟩ := Ow.split (ca := [.int .i64 d.2.2.2.2.1]) (cb := [.int .i64 d.2.2.2.2.2]) q3 rfl
 rw [eF0] at hF
 obtain ⟨n0, nr0, x0, y0⟩ := dis_app hF
 rw [eF1] at nr0
 obtain ⟨n1, nr1, x1, y1⟩ := dis_app nr0
 rw [eF2] at nr1
 obtain ⟨n2, nr2, x2, y2⟩ := dis_app nr1
 rw [eF3] at nr2
 obtain ⟨n3, nr3, x3, y3⟩ := dis_app nr2
 rw [eF4] at nr3
 obtain ⟨n4, nr4, x4, y4⟩ := dis_app nr3
 rw [eF1] at x0 y0
 obtain ⟨x0_1, x0_1r⟩ := dis_l x0
 obtain ⟨y0_1, y0_1r⟩ := dis_r y0
 rw [eF2] at x0_1r y0_1r
 obtain ⟨x0_2, x0_2r⟩ := dis_l x0_1r
 obtain ⟨y0_2, y0_2r⟩ := dis_r y0_1r
 rw [eF3] at x0_2r y0_2r
 obtain ⟨x0_3, x0_3r⟩ := dis_l x0_2r
 obtain ⟨y0_3, y0_3r⟩ := dis_r y0_2r
 rw [eF4] at x0_3r y0_3r
 obtain ⟨x0_4, x0_4r⟩ := dis_l x0_3r
 obtain ⟨y0_4, y0_4r⟩ := dis_r y0_3r
 rw [eF2] at x1 y1
 obtain ⟨x1_2, x1_2r⟩ := dis_l x1
 obtain ⟨y1_2, y1_2r⟩ := dis_r y1
 rw [eF3] at x1_2r y1_2r
 obtain ⟨x1_3, x1_3r⟩ := dis_l x1_2r
 obtain ⟨y1_3, y1_3r⟩ := dis_r y1_2r
 rw [eF4] at x1_3r y1_3r
 obtain ⟨x1_4, x1_4r⟩ := dis_l x1_3r
 obtain ⟨y1_4, y1_4r⟩ := dis_r y1_3r
 rw [eF3] at x2 y2
 obtain ⟨x2_3, x2_3r⟩ := dis_l x2
 obtain ⟨y2_3, y2_3r⟩ := dis_r y2
 rw [eF4] at x2_3r y2_3r
 obtain ⟨x2_4, x2_4r⟩ := dis_l x2_3r
 obtain ⟨y2_4, y2_4r⟩ := dis_r y2_3r
 rw [eF4] at x3 y3
 obtain ⟨x3_4, x3_4r⟩ := dis_l x3
 obtain ⟨y3_4, y3_4r⟩ := dis_r y3
 obtain ⟨z0, hz0⟩ : ∃ z, cntv sI d.1 = z := ⟨_, rfl⟩
 obtain ⟨z1, hz1⟩ : ∃ z, cntv sI d.2.1 = z := ⟨_, rfl⟩
 obtain ⟨z2, hz2⟩ : ∃ z, cntv sI d.2.2.1 = z := ⟨_, rfl⟩
 have hc : (cntv sPeak d : Int) = (z0 : Int) + (z1 : Int) + (z2 : Int) := by rw [← hz0, ← hz1, ← hz2]; first | done | (simp only [cntv]; try omega)
 have Z0 : Hid (sz sI d.1 ≤ 1048576) := hid (by have := hz; simp only [sz] at this ⊢; omega)
 have HZ0 := hid hz0
 have Z1 : Hid (sz sI d.2.1 ≤ 1048576) := hid (by have := hz; simp only [sz] at this ⊢; omega)
 have HZ1 := hid hz1
 have Z2 : Hid (sz sI d.2.2.1 ≤ 1048576) := hid (by have := hz; simp only [sz] at this ⊢; omega)
 have HZ2 := hid hz2
 have HC := hid hc
 rw [hc] at hk
 obtain ⟨W, hW⟩ : ∃ W, W = w.alloc (.cells #[v0, v1, v2, .int .i64 d.2.2.2.1, .int .i64 d.2.2.2.2.1, .int .i64 d.2.2.2.2.2] 40) := ⟨_, rfl⟩
 have r : Row W w.heap.size 40 #[v0, v1, v2, .int .i64 d.2.2.2.1, .int .i64 d.2.2.2.2.1, .int .i64 d.2.2.2.2.2] := by rw [hW]; exact Row.new _ _ _
 have bel : Below w.heap.size w W := by rw [hW]; exact (Below.refl _ _).alloc (Nat.le_refl _) _
 replace o0 := o0.next bel
 replace o1 := o1.next bel
 replace o2 := o2.next bel
 replace o3 := o3.next bel
 replace o4 := o4.next bel
 replace o5 := o5.next bel
 have nb0 : w.heap.size ∉ F0 := fun hb => by have := hlt _ (by rw [eF0]; exact List.mem_append_left _ hb); omega
 have nb1 : w.heap.size ∉ F1 := fun hb => by have := hlt _ (by rw [eF0, eF1]; exact (List.mem_append_right _ (List.mem_append_left _ hb))); omega
 have nb2 : w.heap.size ∉ F2 := fun hb => by have := hlt _ (by rw [eF0, eF1, eF2]; exact (List.mem_append_right _ (List.mem_append_right _ (List.mem_append_left _ hb)))); omega
 have nb3 : w.heap.size ∉ F3 := fun hb => by have := hlt _ (by rw [eF0, eF1, eF2, eF3]; exact (List.mem_append_right _ (List.mem_append_right _ (List.mem_append_right _ (List.mem_append_left _ hb))))); omega
 have nb4 : w.heap.size ∉ F4 := fun hb => by have := hlt _ (by rw [eF0, eF1, eF2, eF3, eF4]; exact (List.mem_append_right _ (List.mem_append_right _ (List.mem_append_right _ (List.mem_append_right _ (List.mem_append_left _ hb)))))); omega
 have nb5 : w.heap.size ∉ R4 := fun hb => by have := hlt _ (by rw [eF0, eF1, eF2, eF3, eF4]; exact (List.mem_append_right _ (List.mem_append_right _ (List.mem_append_right _ (List.mem_append_right _ (List.mem_append_right _ hb)))))); omega
 have sub0 : ∀ x ∈ F0, x ∈ F := fun x hb => by rw [eF0]; exact List.mem_append_left _ hb
 have sub1 : ∀ x ∈ F1, x ∈ F := fun x hb => by rw [eF0, eF1]; exact (List.mem_append_right _ (List.mem_append_left _ hb))
 have sub2 : ∀ x ∈ F2, x ∈ F := fun x hb => by rw [eF0, eF1, eF2]; exact (List.mem_append_right _ (List.mem_append_right _ (List.mem_append_left _ hb)))
 have sub3 : ∀ x ∈ F3, x ∈ F := fun x hb => by rw [eF0, eF1, eF2, eF3]; exact (List.mem_append_right _ (List.mem_append_right _ (List.mem_append_right _ (List.mem_append_left _ hb))))
 have sub4 : ∀ x ∈ F4, x ∈ F := fun x hb => by rw [eF0, eF1, eF2, eF3, eF4]; exact (List.mem_append_right _ (List.mem_append_right _ (List.mem_append_right _ (List.mem_append_right _ (List.mem_append_left _ hb)))))
 have sub5 : ∀ x ∈ R4, x ∈ F := fun x hb => by rw [eF0, eF1, eF2, eF3, eF4]; exact (List.mem_append_right _ (List.mem_append_right _ (List.mem_append_right _ (List.mem_append_right _ (List.mem_append_right _ hb)))))
 have on : Only F w W := Only.of_below bel
 have HW := hid hW
 have HEF : Hid (F = (F0 ++ (F1 ++ (F2 ++ (F3 ++ (F4 ++ R4)))))) := hid (by rw [eF0, eF1, eF2, eF3, eF4])
 clear hW h hz hc bel hlt hz0 hz1 hz2 eF0 eF1 eF2 eF3 eF4
 go_enter Tryz.func39, Tryz.ntmps39
 go_wp2_with fail
 rw [← HW.out]
 refine (markK_ints _ _ k F0 _ o0 Z0.out (by omega) (by omega)).mono ?_
 rintro e w1 ⟨he, o0, on0⟩
 rw [HZ0.out] at he
 replace o1 := o1.only on0 y0_1
 replace o2 := o2.only on0 y0_2
 replace o3 := o3.only on0 y0_3
 replace o4 := o4.only on0 y0_4
 replace o5 := o5.only on0 y0_4r
 replace r := Row.only r on0 nb0
 replace on := on.trans (on0.wider sub0)
 clear on0
 obtain ⟨k0, hk0⟩ : ∃ l, k + (z0 : Int) = l := ⟨_, rfl⟩
 rw [hk0] at he
 have l0 : 0 ≤ k0 := by omega
 have u0 : k0  + (z1 : Int) + (z2 : Int) ≤ 1099511627776 := by omega
 subst he
 have HK0 := hid hk0
 clear hk0
 have c1_0 : w1.cell? ⟨w.heap.size, 1, none⟩ = some (v1) := r.cell 1
 go_wp2_with fail
 clear c1_0
 refine (markK_ints _ _ k0 F1 _ o1 Z1.out (by omega) (by omega)).mono ?_
 rintro e w2 ⟨he, o1, on1⟩
 rw [HZ1.out] at he
 replace o0 := o0.only on1 x0_1
 replace o2 := o2.only on1 y1_2
 replace o3 := o3.only on1 y1_3
 replace o4 := o4.only on1 y1_4
 replace o5 := o5.only on1 y1_4r
 replace r := Row.only r on1 nb1
 replace on := on.trans (on1.wider sub1)
 clear on1
 obtain ⟨k1, hk1⟩ : ∃ l, k0 + (z1 : Int) = l := ⟨_, rfl⟩
 rw [hk1] at he
 have l1 : 0 ≤ k1 := by omega
 have u1 : k1  + (z2 : Int) ≤ 1099511627776 := by omega
 subst he
 have HK1 := hid hk1
 clear hk1
 have c2_0 : w2.cell? ⟨w.heap.size, 2, none⟩ = some (v2) := r.cell 2
 go_wp2_with fail
 clear c2_0
 refine (markK_ints _ _ k1 F2 _ o2 Z2.out (by omega) (by omega)).mono ?_
 rintro e w3 ⟨he, o2, on2⟩
 rw [HZ2.out] at he
 replace o0 := o0.only on2 x0_2
 replace o1 := o1.only on2 x1_2
 replace o3 := o3.only on2 y2_3
 replace o4 := o4.only on2 y2_4
 replace o5 := o5.only on2 y2_4r
 replace r := Row.only r on2 nb2
 replace on := on.trans (on2.wider sub2)
 clear on2
 obtain ⟨k2, hk2⟩ : ∃ l, k1 + (z2 : Int) = l := ⟨_, rfl⟩
 rw [hk2] at he
 have l2 : 0 ≤ k2 := by omega
 have u2 : k2  ≤ 1099511627776 := by omega
 subst he
 have HK2 := hid hk2
 clear hk2
 have F1 : AnsMarkF w sPeak [v0, v1, v2, .int .i64 d.2.2.2.1, .int .i64 d.2.2.2.2.1, .int .i64 d.2.2.2.2.2] d k F (.returned (.int .i64 k2)) w3 := by
  refine ⟨congrArg (fun z => Ending.returned (.int .i64 z)) ?_, ?_, on⟩
  ·rw [HC.out]; have := HK0.out; have := HK1.out; have := HK2.out; omega
  ·rw [HEF.out]
   have e0 : k0 = k + (cntv sI d.1 : Int) := by have := HK0.out; have := HZ0.out; omega
   have e1 : k1 = k0 + (cntv sI d.2.1 : Int) := by have := HK1.out; have := HZ1.out; omega
   rw [e1] at o2
   rw [e0] at o2
   rw [e0] at o1
   exact (Ow.join o0 (Ow.join o1 (Ow.join o2 (Ow.join o3 (Ow.join o4 o5)))))
 have HF := hid F1
 clear F1 on r o0 o1 o2 o3 o4 o5
 go_wp2
 go_ret
 exact HF.out
set_option maxHeartbeats 2000000 in
theorem heldK_Peak (v0 v1 v2 : Value) (d : Dat sPeak) (k : Int) (w : World) (h : Rd w w.heap.size sPeak [v0, v1, v2, .int .i64 d.2.2.2.1, .int .i64 d.2.2.2.2.1, .int .i64 d.2.2.2.2.2] (mkv sPeak k d)) (hz : sz sPeak d ≤ 1048576) (hk0 : 0 ≤ k) (hk : k + (cntv sPeak d : Int) ≤ 1099511627776) :
  Calls Tryz.prog 41 #[.agg #[v0, v1, v2, .int .i64 d.2.2.2.1, .int .i64 d.2.2.2.2.1, .int .i64 d.2.2.2.2.2], .int .i64 k] w (AnsHeld w (k + (cntv sPeak d : Int))) := by
 obtain ⟨g0, g1, g2, g3, g4, g5⟩ := parts_Peak (d := mkv sPeak k d) h
 have G0 : Hid (Rd w w.heap.size sI [v0] (mkv sI k d.1)) := hid g0
 obtain ⟨z0, hz0⟩ : ∃ z, cntv sI d.1 = z := ⟨_, rfl⟩
 have G1 : Hid (Rd w w.heap.size sI [v1] (mkv sI (k + (cntv sI d.1 : Int)) d.2.1)) := hid g1
 obtain ⟨z1, hz1⟩ : ∃ z, cntv sI d.2.1 = z := ⟨_, rfl⟩
 have G2 : Hid (Rd w w.heap.size sI [v2] (mkv sI (k + (cntv sI d.1 : Int) + (cntv sI d.2.1 : Int)) d.2.2.1)) := hid g2
 obtain ⟨z2, hz2⟩ : ∃ z, cntv sI d.2.2.1 = z := ⟨_, rfl⟩
 have hc : (cntv sPeak d : Int) = (z0 : Int) + (z1 : Int) + (z2 : Int) := by rw [← hz0, ← hz1, ← hz2]; first | done | (simp only [cntv]; try omega)
 have Z0 : Hid (sz sI d.1 ≤ 1048576) := hid (by have := hz; simp only [sz] at this ⊢; omega)
 have HZ0 := hid hz0
 rw [hz0] at G1
 rw [hz0] at G2
 have Z1 : Hid (sz sI d.2.1 ≤ 1048576) := hid (by have := hz; simp only [sz] at this ⊢; omega)
 have HZ1 := hid hz1
 rw [hz1] at G2
 have Z2 : Hid (sz sI d.2.2.1 ≤ 1048576) := hid (by have := hz; simp only [sz] at this ⊢; omega)
 have HZ2 := hid hz2
 rw [hc] at hk ⊢
 have r := Row.new w 40 #[v0, v1, v2, .int .i64 d.2.2.2.1, .int .i64 d.2.2.2.2.1, .int .i64 d.2.2.2.2.2]
 have bel : Below w.heap.size w (w.alloc (.cells #[v0, v1, v2, .int .i64 d.2.2.2.1, .int .i64 d.2.2.2.2.1, .int .i64 d.2.2.2.2.2] 40)) := (Below.refl _ _).alloc (Nat.le_refl _) _
 obtain ⟨W, hW⟩ : ∃ W, W = w.alloc (.cells #[v0, v1, v2, .int .i64 d.2.2.2.1, .int .i64 d.2.2.2.2.1, .int .i64 d.2.2.2.2.2] 40) := ⟨_, rfl⟩
 rw [← hW] at r bel
 have HW := hid hW
 clear hW h hz hc g0 g1 g2 g3 g4 g5 hz0 hz1 hz2
 go_enter Tryz.func41, Tryz.ntmps41
 go_wp2_with fail
 rw [← HW.out]
 refine (heldK_ints _ d.1 k W (by refine (G0.out.next bel)) Z0.out (by omega) (by omega)).mono ?_
 rintro e w1 ⟨he, bb⟩
 rw [HZ0.out] at he
 replace r := r.next bb
 replace bel := next_trans bel bb
 clear bb
 obtain ⟨k0, hk0⟩ : ∃ l, k + (z0 : Int) = l := ⟨_, rfl⟩
 have he2 : e = .returned (.int .i64 k0) := by rw [he]; exact congrArg (fun z => Ending.returned (.int .i64 z)) (by omega)
 clear he
 have l0 : 0 ≤ k0 := by omega
 have u0 : k0  + (z1 : Int) + (z2 : Int) ≤ 1099511627776 := by omega
 subst he2
 have HK0 := hid hk0
 clear hk0
 have c1_0 : w1.cell? ⟨w.heap.size, 1, none⟩ = some (v1) := r.cell 1
 go_wp2_with fail
 clear c1_0
 refine (heldK_ints _ d.2.1 k0 w1 (by rw [← HK0.out]; refine (G1.out.next bel)) Z1.out (by omega) (by omega)).mono ?_
 rintro e w2 ⟨he, bb⟩
 rw [HZ1.out] at he
 replace r := r.next bb
 replace bel := next_trans bel bb
 clear bb
 obtain ⟨k1, hk1⟩ : ∃ l, k + (z0 : Int) + (z1 : Int) = l := ⟨_, rfl⟩
 have he2 : e = .returned (.int .i64 k1) := by rw [he]; exact congrArg (fun z => Ending.returned (.int .i64 z)) (by have := HK0.out; omega)
 clear he
 have l1 : 0 ≤ k1 := by omega
 have u1 : k1  + (z2 : Int) ≤ 1099511627776 := by omega
 subst he2
 have HK1 := hid hk1
 clear hk1
 have c2_0 : w2.cell? ⟨w.heap.size, 2, none⟩ = some (v2) := r.cell 2
 go_wp2_with fail
 clear c2_0
 refine (heldK_ints _ d.2.2.1 k1 w2 (by rw [← HK1.out]; refine (G2.out.next bel)) Z2.out (by omega) (by omega)).mono ?_
 rintro e w3 ⟨he, bb⟩
 rw [HZ2.out] at he
 replace r := r.next bb
 replace bel := next_trans bel bb
 clear bb
 obtain ⟨k2, hk2⟩ : ∃ l, k + (z0 : Int) + (z1 : Int) + (z2 : Int) = l := ⟨_, rfl⟩
 have he2 : e = .returned (.int .i64 k2) := by rw [he]; exact congrArg (fun z => Ending.returned (.int .i64 z)) (by have := HK0.out; have := HK1.out; omega)
 clear he
 have l2 : 0 ≤ k2 := by omega
 have u2 : k2  ≤ 1099511627776 := by omega
 subst he2
 have HK2 := hid hk2
 clear hk2
 have F : AnsHeld w (k + ((z0 : Int) + (z1 : Int) + (z2 : Int))) (.returned (.int .i64 k2)) w3 := ⟨congrArg (fun z => Ending.returned (.int .i64 z)) (by have := HK2.out; omega), bel⟩
 have HF := hid F
 clear F r bel
 go_wp2
 go_ret
 exact HF.out
end kindsP
end
section
namespace peakSame
open Go.RowKit base ints sig term termOk marks app sym segs segsHelp kinds same shape kindsR kindsP varsOf ruleMath ruleSpec ruleImpl
set_option maxRecDepth 100000
theorem rd_peak {w : World} {B : Nat} {v0 v1 v2 : Value} {p : Dat sPeak} (h : Rd w B sPeak [v0, v1, v2, .int .i64 p.2.2.2.1, .int .i64 p.2.2.2.2.1, .int .i64 p.2.2.2.2.2] p) (hz : sz sPeak p ≤ 1048576) :
  ∃ A n c A' n' c' A2 n2 c2, v0 = .slice A n c ∧ v1 = .slice A' n' c' ∧ v2 = .slice A2 n2 c2 ∧ Seg w B A n p.1 ∧ Seg w B A' n' p.2.1 ∧ Seg w B A2 n2 p.2.2.1 ∧ n ≤ 1048576 ∧ n' ≤ 1048576 ∧ n2 ≤ 1048576 := by
 obtain ⟨g0, g1, g2, -⟩ := parts_Peak h
 have hz0 : sz sI p.1 + (sz sI p.2.1 + (sz sI p.2.2.1 + (0 + (0 + 0)))) ≤ 1048576 := hz
 obtain ⟨A, n, c, rfl, hA, -⟩ := rd_ints.1 g0
 obtain ⟨A', n', c', rfl, hA', -⟩ := rd_ints.1 g1
 obtain ⟨A2, n2, c2, rfl, hA2, -⟩ := rd_ints.1 g2
 exact ⟨A, n, c, A', n', c', A2, n2, c2, rfl, rfl, rfl, hA, hA', hA2, len_ints hA.1 (by omega), len_ints hA'.1 (by omega), len_ints hA2.1 (by omega)⟩
end peakSame
end
section
namespace stepsMath
open sig term termOk termFacts ruleMath stepMath walkMath
section
variable {sg : List Int} {rs : List Rl} {t : List Int} {i k : Nat}
end
def rdN (sg : List Int) (rs : List Rl) (t : List Int) (i k : Nat) : Nat := ((List.range i).map fun a => rs.countP fun x => redB sg x t a).sum + (rs.take k).countP fun x => redB sg x t i
section
variable {sg : List Int} {rs : List Rl} {t : List Int} {i k : Nat}
theorem rd_zero : rdN sg rs t 0 0 = 0 := rfl
end
end stepsMath
end
section
namespace dice
open Go.RowKit base ints cursor
def SegB (w : World) (B : Nat) (A : Option Addr) (n : Nat) : Prop :=
 0 < n → ∃ b off, A = some ⟨b, off, none⟩ ∧ b < B ∧ ∀ j, j < n → ∃ x : Int, 0 ≤ x ∧ x ≤ 255 ∧ w.cell? ⟨b, off + j, none⟩ = some (.int .u8 x)
theorem SegB.keep {w w' : World} {B : Nat} {A : Option Addr} {n : Nat} (h : SegB w B A n) (hk : ∀ p : Addr, p.block < B → w'.cell? p = w.cell? p) : SegB w' B A n := fun hn => by
 obtain ⟨b, off, e, hb, hc⟩ := h hn
 refine ⟨b, off, e, hb, fun j hj => ?_⟩
 obtain ⟨x, h0, h1, h2⟩ := hc j hj
 exact ⟨x, h0, h1, (hk ⟨b, off + j, none⟩ hb).trans h2⟩
structure DiceAt (w : World) (p : Nat) (A : Option Addr) (n c i : Nat) (h : Int) : Prop where
 row : Row w p 196 #[.slice A n c, .int .i64 i, .int .i64 h]
 le : i ≤ n
 s : SegB w p A n
 hn : n ≤ 4096
def Dice (w : World) (p : Nat) (A : Option Addr) (n c : Nat) : Prop := ∃ i h, DiceAt w p A n c i h
section
variable {w w' : World} {p : Nat} {A : Option Addr} {n c i : Nat} {h : Int}
theorem Dice.next (d : Dice w p A n c) (hb : Below w.heap.size w w') : Dice w' p A n c := by
 obtain ⟨i, h, d⟩ := d
 have hp := d.row.lt
 exact ⟨i, h, d.row.next hb, d.le, d.s.keep fun q hq => hb.cell (Nat.lt_trans hq hp), d.hn⟩
end
end dice
end
section
namespace drawSig
open Go.RowKit base ints sig cursor marks app sym dice
set_option maxRecDepth 100000
section
variable {w : World} {p : Nat} {A : Option Addr} {n c v : Nat} {wr : World} {O : Option Addr} {on oc : Nat} {xs : List Int}
end
end drawSig
end
section
namespace drawTerm
open Go.RowKit base ints sig term cursor marks app sym dice drawSig
set_option maxRecDepth 100000
def Rd (w : World) (p B : Nat) (A : Option Addr) (n : Nat) (xs : List Int) : Prop :=
 xs.length = n ∧ (0 < n → ∃ b off, A = some ⟨b, off, none⟩ ∧ b < B ∧ b ≠ p ∧ ∀ j, j < n → w.cell? ⟨b, off + j, none⟩ = some (.int .i64 (xs.getD j 0)))
theorem Rd.more {w : World} {p B B' : Nat} {A : Option Addr} {n : Nat} {xs : List Int} (h : Rd w p B A n xs) (hB : B ≤ B') : Rd w p B' A n xs :=
 ⟨h.1, fun hn => by obtain ⟨b, off, e, hb, hne, hc⟩ := h.2 hn; exact ⟨b, off, e, by omega, hne, hc⟩⟩
theorem Rd.keep {w w' : World} {p B : Nat} {A : Option Addr} {n : Nat} {xs : List Int} (h : Rd w p B A n xs) (hk : ∀ q : Addr, q.block < B → q.block ≠ p → w'.cell? q = w.cell? q) : Rd w' p B A n xs :=
 ⟨h.1, fun hn => by obtain ⟨b, off, e, hb, hne, hc⟩ := h.2 hn; exact ⟨b, off, e, hb, hne, fun j hj => (hk ⟨b, off + j, none⟩ hb hne).trans (hc j hj)⟩⟩
theorem Rd.below {w w' : World} {p B B' : Nat} {A : Option Addr} {n : Nat} {xs : List Int} (h : Rd w p B A n xs) (hb : Below B' w w') (hB : B ≤ B') : Rd w' p B A n xs :=
 h.keep fun q hq _ => hb.cell (by omega)
theorem Rd.seg {w : World} {p B : Nat} {A : Option Addr} {n : Nat} {xs : List Int} (h : Rd w p B A n xs) : Seg w B A n xs :=
 ⟨h.1, fun hn => by obtain ⟨b, off, e, hb, _, hc⟩ := h.2 hn; exact ⟨b, off, e, hb, hc⟩⟩
section
variable {w : World} {p : Nat} {A : Option Addr} {n c : Nat} {S : Option Addr} {sn sc : Nat} {sg : List Int} {wr w' : World}
end
end drawTerm
end
section
namespace drawAny
open Go.RowKit base ints sig term cursor termOk marks app sym dice drawSig drawTerm
set_option maxRecDepth 100000
theorem Own.cap {w : World} {base : Nat} {O : Option Addr} {on oc : Nat} {xs : List Int} (h : Own w base (.slice O on oc) xs) : on ≤ oc ∧ oc ≤ 9223372036854775807 := by
 rcases h.2 with ⟨e, _⟩ | ⟨g, cap, cur, e, _, _, h1, h2, _⟩
 ·injection e with _ e1 e2; omega
 ·injection e with _ e1 e2
  have := Own.len h
  unfold maxLen at h2
  omega
end drawAny
end
section
namespace drawX
open Go.RowKit base ints sig cursor marks app appAt sym segs shape dice
def RdQ (w : World) (Q : Nat → Prop) : (s : Sh) → List Value → Dat s → Prop
 | .num, cs, (x : Int) => cs = [.int .i64 x]
 | .bit, cs, (x : Bool) => cs = [.bool x]
 | .row _ s, cs, (d : List (Dat s)) => ∃ A n c, cs = [.slice A n c] ∧ Cap A n c ∧ d.length = n ∧
   (0 < n → ∃ b off, A = some ⟨b, off, none⟩ ∧ Q b ∧ ∀ j, j < n → ∃ es, es.length = nc s ∧ Piece w b (off + j * nc s) es ∧ RdQ w Q s es (d.getD j (dft s)))
 | .cat a b, cs, d => ∃ ca cb, cs = ca ++ cb ∧ RdQ w Q a ca d.1 ∧ RdQ w Q b cb d.2
section
variable {w w' : World} {Q Q' : Nat → Prop} {B : Nat}
theorem RdQ.keep (hk : ∀ b, Q b → w'.heap[b]? = w.heap[b]?) : ∀ {s : Sh} {cs : List Value} {d : Dat s}, RdQ w Q s cs d → RdQ w' Q s cs d
 | .num, _, _, h => h
 | .bit, _, _, h => h
 | .row _ s, _, _, h => by
  obtain ⟨A, n, c, e, hc, hl, h1⟩ := h
  refine ⟨A, n, c, e, hc, hl, fun hn => ?_⟩
  obtain ⟨b, off, e2, hb, h2⟩ := h1 hn
  refine ⟨b, off, e2, hb, fun j hj => ?_⟩
  obtain ⟨es, he, hp, hr⟩ := h2 j hj
  exact ⟨es, he, hp.keep (fun p hp => World.cell?_of_block (by rw [hp]; exact hk b hb)), hr.keep hk⟩
 | .cat a b, _, _, h => by
  obtain ⟨ca, cb, e, h1, h2⟩ := h
  exact ⟨ca, cb, e, h1.keep hk, h2.keep hk⟩
theorem RdQ.rd (hk : ∀ b, Q b → b < B) : ∀ {s : Sh} {cs : List Value} {d : Dat s}, RdQ w Q s cs d → Rd w B s cs d
 | .num, _, _, h => h
 | .bit, _, _, h => h
 | .row _ s, _, _, h => by
  obtain ⟨A, n, c, e, hc, hl, h1⟩ := h
  refine ⟨A, n, c, e, hc, hl, fun hn => ?_⟩
  obtain ⟨b, off, e2, hb, h2⟩ := h1 hn
  refine ⟨b, off, e2, hk b hb, fun j hj => ?_⟩
  obtain ⟨es, he, hp, hr⟩ := h2 j hj
  exact ⟨es, he, hp, hr.rd hk⟩
 | .cat a b, _, _, h => by
  obtain ⟨ca, cb, e, h1, h2⟩ := h
  exact ⟨ca, cb, e, h1.rd hk, h2.rd hk⟩
theorem RdQ.len : ∀ {s : Sh} {cs : List Value} {d : Dat s}, RdQ w Q s cs d → cs.length = nc s
 | .num, _, _, h => by have h : _ = _ := h; rw [h]; rfl
 | .bit, _, _, h => by have h : _ = _ := h; rw [h]; rfl
 | .row _ _, _, _, h => by obtain ⟨A, n, c, e, _⟩ := h; rw [e]; rfl
 | .cat a b, _, _, h => by
  obtain ⟨ca, cb, e, h1, h2⟩ := h
  rw [e, List.length_append, h1.len, h2.len]; rfl
theorem RdQ.cat {a b : Sh} {ca cb : List Value} {x : Dat a} {y : Dat b} (h1 : RdQ w Q a ca x) (h2 : RdQ w Q b cb y) : RdQ w Q (.cat a b) (ca ++ cb) (x, y) := ⟨ca, cb, rfl, h1, h2⟩
theorem RdQ.one : ∀ {s : Sh} {cs : List Value} {d : Dat s}, RdQ w Q s cs d → ∀ u ∈ cs, u.oneCell' = true
 | .num, _, _, h, u, hu => by have h : _ = _ := h; rw [h] at hu; rw [List.mem_singleton.1 hu]; rfl
 | .bit, _, _, h, u, hu => by have h : _ = _ := h; rw [h] at hu; rw [List.mem_singleton.1 hu]; rfl
 | .row _ _, _, _, h, u, hu => by obtain ⟨A, n, c, e, _⟩ := h; rw [e] at hu; rw [List.mem_singleton.1 hu]; rfl
 | .cat a b, _, _, h, u, hu => by
  obtain ⟨ca, cb, e, h1, h2⟩ := h
  rw [e] at hu
  rcases List.mem_append.1 hu with hu | hu
  ·exact h1.one u hu
  ·exact h2.one u hu
end
def OutR (w : World) (p : Nat) (r : Option Nat) (b : Nat) : Prop := b < w.heap.size ∧ b ≠ p ∧ some b ≠ r
section
variable {w w' : World} {p : Nat} {r : Option Nat} {s : Sh} {cs : List Value} {d : Dat s}
end
def cellsOf (k : Nat) (vs : List Value) (j : Nat) : List Value := (vs.drop (j * k)).take k
def OwnQ (w : World) (p lo : Nat) (e : TypeId) (s : Sh) (A : Option Addr) (n c : Nat) (D : List (Dat s)) : Prop :=
 D.length = n ∧ ∃ vs : List Value, w.ownsRow lo e (nc s) (.slice A n c) n vs ∧ ∀ j, j < n → RdQ w (OutR w p (blk A)) s (cellsOf (nc s) vs j) (D.getD j (dft s))
section
variable {w w' : World} {p lo n c : Nat} {e : TypeId} {s : Sh} {A : Option Addr} {D : List (Dat s)}
theorem OwnQ.nil (w : World) (p lo : Nat) (e : TypeId) (s : Sh) : OwnQ w p lo e s none 0 0 [] := ⟨rfl, [], ⟨by simp, .inl ⟨rfl, rfl⟩⟩, fun j hj => absurd hj (Nat.not_lt_zero _)⟩
end
end drawX
end
section
namespace ownL
open Go.RowKit base ints sig cursor marks app appAt sym segs shape drawX
set_option maxRecDepth 100000
theorem Ow.one {w : World} : ∀ {s : Sh} {cs : List Value} {d : Dat s} {F : List Nat}, Ow w s cs d F → ∀ u ∈ cs, u.oneCell' = true
 | .num, _, _, _, h, u, hu => by have h : _ = _ ∧ _ := h; rw [h.1] at hu; rw [List.mem_singleton.1 hu]; rfl
 | .bit, _, _, _, h, u, hu => by have h : _ = _ ∧ _ := h; rw [h.1] at hu; rw [List.mem_singleton.1 hu]; rfl
 | .row _ _, _, _, _, h, u, hu => by obtain ⟨A, n, c, e, _⟩ := h; rw [e] at hu; rw [List.mem_singleton.1 hu]; rfl
 | .cat a b, _, _, _, h, u, hu => by
  obtain ⟨ca, cb, Fa, Fb, e, _, h1, h2⟩ := h
  rw [e] at hu
  rcases List.mem_append.1 hu with hu | hu
  ·exact Ow.one h1 u hu
  ·exact Ow.one h2 u hu
def OwnL (w : World) (lo hi : Nat) (e : TypeId) (s : Sh) (A : Option Addr) (n c : Nat) (D : List (Dat s)) : Prop :=
 D.length = n ∧ (∀ k, blk A = some k → k < hi) ∧ ∃ (vs : List Value) (G : Nat → List Nat), w.ownsRow lo e (nc s) (.slice A n c) n vs ∧ (A = none → c = 0) ∧ ((List.range n).flatMap G).Nodup ∧
  ∀ j, j < n → Ow w s (cellsOf (nc s) vs j) (D.getD j (dft s)) (G j) ∧ ∀ q ∈ G j, lo ≤ q ∧ q < hi ∧ some q ≠ blk A
section
variable {w w' : World} {lo hi n c : Nat} {e : TypeId} {s : Sh} {A : Option Addr} {D : List (Dat s)}
theorem OwnL.nil (w : World) (lo hi : Nat) (e : TypeId) (s : Sh) : OwnL w lo hi e s none 0 0 [] := ⟨rfl, (fun k hk => by cases hk), [], fun _ => [], ⟨by simp, .inl ⟨rfl, rfl⟩⟩, fun _ => rfl, by simp, fun j hj => absurd hj (Nat.not_lt_zero _)⟩
theorem OwnL.keep (h : OwnL w lo hi e s A n c D) (hk : ∀ k, lo ≤ k → k < hi → k < w.heap.size → w'.heap[k]? = w.heap[k]?) (hs : w.heap.size ≤ w'.heap.size) : OwnL w' lo hi e s A n c D := by
 obtain ⟨h1, h2, vs, G, h3, h4, h5, h6⟩ := h
 refine ⟨h1, h2, vs, G, ?_, h4, h5, fun j hj => ⟨(h6 j hj).1.keep fun q hq => ?_, (h6 j hj).2⟩⟩
 ·refine ⟨h3.1, ?_⟩
  rcases h3.2 with q | ⟨g, cap, cur, e1, hg, hr, q⟩
  ·exact .inl q
  ·have hlt := (Array.getElem?_eq_some_iff.1 hr).1
   injection e1 with e2 e3 e4
   exact .inr ⟨g, cap, cur, by rw [e2, e4], hg, (hk g hg (h2 g (by rw [e2]; rfl)) hlt).trans hr, q⟩
 ·have := (h6 j hj).2 q hq
  exact hk q this.1 this.2.1 ((h6 j hj).1.lt q hq)
theorem OwnL.next (h : OwnL w lo hi e s A n c D) (hb : Below w.heap.size w w') : OwnL w' lo hi e s A n c D := h.keep (fun k _ _ hk => hb.block k hk) hb.size
theorem OwnL.wider {lo' hi' : Nat} (h : OwnL w lo hi e s A n c D) (h1 : lo' ≤ lo) (h2 : hi ≤ hi') : OwnL w lo' hi' e s A n c D := by
 obtain ⟨q1, q2, vs, G, q3, q4, q5, q6⟩ := h
 refine ⟨q1, fun k hk => Nat.lt_of_lt_of_le (q2 k hk) h2, vs, G, ⟨q3.1, ?_⟩, q4, q5, fun j hj => ⟨(q6 j hj).1, fun q hq => ?_⟩⟩
 ·rcases q3.2 with q | ⟨g, cap, cur, e1, hg, q⟩
  ·exact .inl q
  ·exact .inr ⟨g, cap, cur, e1, by omega, q⟩
 ·have := (q6 j hj).2 q hq
  exact ⟨by omega, by omega, this.2.2⟩
theorem OwnL.owned (h : OwnL w lo hi e s A n c D) : Owned w lo hi (.row e s) [.slice A n c] D := by
 obtain ⟨h1, h2, vs, G, h3, h4, h5, h6⟩ := h
 rcases h3.2 with ⟨e1, h0⟩ | ⟨g, cap, cur, e1, hg, hrow, hn, hm, hs, ht⟩
 ·injection e1 with a1 a2 a3
  subst a1 a2 a3
  exact ⟨[], ⟨none, 0, 0, rfl, h1, .inl ⟨rfl, rfl, rfl, rfl⟩⟩, by simp, fun k hk => by cases hk⟩
 ·injection e1 with a1 a2 a3
  subst a1 a3
  have hl : vs.length = n * nc s := h3.1
  refine ⟨g :: (List.range n).flatMap G, ⟨_, n, c, rfl, h1, .inr ⟨g, cur, cellsOf (nc s) vs, G, rfl, hrow, hn, by unfold maxLen at hm; omega, hs, rfl, fun j hj => ?_⟩⟩, List.nodup_cons.2 ⟨fun hb => ?_, h5⟩, fun k hk => ?_⟩
  ·have hjn : j * nc s + nc s ≤ n * nc s := by
    have := Nat.mul_le_mul_right (nc s) (show j + 1 ≤ n by omega)
    rw [Nat.add_mul] at this
    omega
   refine ⟨(h6 j hj).1.len, fun i hi => ?_, (h6 j hj).1⟩
   have h7 : cur.toList[j * nc s + i]? = vs[j * nc s + i]? := by rw [← ht, List.getElem?_take, if_pos (by omega)]
   rw [← Array.getElem?_toList, h7]
   unfold cellsOf
   rw [List.getElem?_take, if_pos hi, List.getElem?_drop]
  ·obtain ⟨j, hj, hb⟩ := List.mem_flatMap.1 hb
   exact ((h6 j (List.mem_range.1 hj)).2 g hb).2.2 rfl
  ·rcases List.mem_cons.1 hk with hk | hk
   ·rw [hk]; exact ⟨hg, h2 g rfl⟩
   ·obtain ⟨j, hj, hb⟩ := List.mem_flatMap.1 hk
    have := (h6 j (List.mem_range.1 hj)).2 k hb
    exact ⟨this.1, this.2.1⟩
theorem OwnL.rd (h : OwnL w lo hi e s A n c D) : Rd w w.heap.size (.row e s) [.slice A n c] D := h.owned.rd
end
end ownL
end
section
namespace stepSpec
open Go.RowKit base ints sig term termOk endAt endOf marks app sym sub segs segsHelp kinds termFacts shifted matchMath matchSpec shape kindsR kindsW ruleMath ruleSpec stepMath walkMath stepsMath ownL
set_option maxRecDepth 100000
structure Sn (w : World) (A V : Option Addr) (n cs q cv : Nat) (L : List St) (O : Option Addr) (on oc : Nat) (wr : World) : Prop where
 r : Row wr w.heap.size 32 #[.slice A n cs, .slice V q cv]
 o : OwnL wr (w.heap.size + 1) wr.heap.size 124 sStep O on oc L
 b : Below w.heap.size w wr
theorem Sn.len {w wr : World} {A V : Option Addr} {n cs q cv : Nat} {L : List St} {O : Option Addr} {on oc : Nat} (h : Sn w A V n cs q cv L O on oc wr) : L.length = on := h.o.1
end stepSpec
end
section
open Go.Lib (hid)
namespace peakSpec
open Go.RowKit base ints sig term termOk endAt marks app sym pathSpec place segs segsHelp kinds termFacts same shape kindsR kindsP varsOf shifted ruleMath ruleSpec stepMath walkMath stepSpec peakMath peakSame
set_option maxRecDepth 100000
theorem specRule (a : Value) (V : Option Addr) (q cv : Nat) (r : Int) (w : World) (hq : q ≤ 1048576) :
  Calls Tryz.prog 62 #[.agg #[a, .slice V q cv], .int .i64 r] w (AnsB w (walkMath.inB r q)) := by
 obtain ⟨W, hW, rA, bel⟩ := box1 w 32 #[a, .slice V q cv]
 have HW := hid hW
 have K1 : (w.alloc (.cells #[a, .slice V q cv] 32)).cell? ⟨w.heap.size, 1, none⟩ = some (.slice V q cv) := by rw [← hW]; exact rA.cell 1
 by_cases h : 0 ≤ r ∧ r ≤ (q : Int) - 1
 ·have F := hid (ansB (b := walkMath.inB r q) (a := true) (by unfold walkMath.inB; rw [decide_eq_true (by omega)]) bel)
  have L := hid (inYes r 0 ((q : Int) - 1) W h)
  clear hW rA bel
  go_enter Tryz.func62, Tryz.ntmps62
  go_wp2_with fail
  rw [← HW.out]
  refine L.out.mono ?_
  rintro e w1 ⟨rfl, rfl⟩
  go_wp2
  go_ret
  exact F.out
 ·have F := hid (ansB (b := walkMath.inB r q) (a := false) (by unfold walkMath.inB; rw [decide_eq_false (by omega)]) bel)
  have L := hid (inNo r 0 ((q : Int) - 1) W h)
  clear hW rA bel
  go_enter Tryz.func62, Tryz.ntmps62
  go_wp2_with fail
  rw [← HW.out]
  refine L.out.mono ?_
  rintro e w1 ⟨rfl, rfl⟩
  go_wp2
  go_ret
  exact F.out
theorem sym_no1 {t : List Int} {a : Int} (h : ¬ (0 ≤ a ∧ a ≤ (t.length : Int) - 1)) : symAt t a = false := by unfold symAt; exact decide_eq_false (by omega)
theorem sym_no2 {t : List Int} {a : Nat} (h : t.getD a 0 < 0) : symAt t (a : Int) = false := by unfold symAt; rw [Int.toNat_natCast]; exact decide_eq_false (by omega)
theorem sym_yes {t : List Int} {a : Nat} (h : a < t.length) (h' : ¬ t.getD a 0 < 0) : symAt t (a : Int) = true := by unfold symAt; rw [Int.toNat_natCast]; exact decide_eq_true (by omega)
set_option maxHeartbeats 2000000 in
theorem specPeakC (A V T0 T1 T2 : Option Addr) (n cs q cv tn tc un uc yn yc : Nat) (d : Dat sSystem) (t0 t1 t2 : List Int) (xa xu xo : Int) (w : World) (h : Rd w w.heap.size sSystem [.slice A n cs, .slice V q cv] d) (g0 : Rd w w.heap.size sI [.slice T0 tn tc] t0) (s0 : Seg w w.heap.size T0 tn t0) (s1 : Seg w w.heap.size T1 un t1) (s2 : Seg w w.heap.size T2 yn t2) (hz : sz sSystem d ≤ 1048576) (z0 : sz sI t0 ≤ 1048576) (b0 : tn ≤ 1048576) (b1 : un ≤ 1048576) (b2 : yn ≤ 1048576) :
  Calls Tryz.prog 13 #[.agg #[.slice A n cs, .slice V q cv], .agg #[.slice T0 tn tc, .slice T1 un uc, .slice T2 yn yc, .int .i64 xa, .int .i64 xu, .int .i64 xo]] w (AnsB w (peakB d.1 d.2 (t0, t1, t2, xa, xu, xo))) := by
 obtain ⟨W, hW, rS, rP, bel⟩ := box2 w 32 40 #[.slice A n cs, .slice V q cv] #[.slice T0 tn tc, .slice T1 un uc, .slice T2 yn yc, .int .i64 xa, .int .i64 xu, .int .i64 xo]
 have HW := hid hW
 have LS := hid (specSystemOk _ _ d W (h.next bel) hz)
 obtain ⟨A', n', cs', V', q', cv', e1, e2, hs, hc, hcv, hq, hn, hq1, hrs, hsg, hE⟩ := rd_sys h hz
 injection e1 with e1 e3 e4
 injection e2 with e2 e5 e6
 subst e1 e3 e4 e2 e5 e6
 have LR := hid (fun (r : Int) (w1 : World) => specRule (.slice A n cs) V q cv r w1 hq1)
 have RAW := hid hW
 have a0 : ((w.alloc (.cells #[.slice A n cs, .slice V q cv] 32)).alloc (.cells #[.slice T0 tn tc, .slice T1 un uc, .slice T2 yn yc, .int .i64 xa, .int .i64 xu, .int .i64 xo] 40)).cell? ⟨w.heap.size, 0, none⟩ = some (.slice A n cs) := by rw [← hW]; exact rS.cell 0
 have a1 : ((w.alloc (.cells #[.slice A n cs, .slice V q cv] 32)).alloc (.cells #[.slice T0 tn tc, .slice T1 un uc, .slice T2 yn yc, .int .i64 xa, .int .i64 xu, .int .i64 xo] 40)).cell? ⟨w.heap.size, 1, none⟩ = some (.slice V q cv) := by rw [← hW]; exact rS.cell 1
 have k0 : ((w.alloc (.cells #[.slice A n cs, .slice V q cv] 32)).alloc (.cells #[.slice T0 tn tc, .slice T1 un uc, .slice T2 yn yc, .int .i64 xa, .int .i64 xu, .int .i64 xo] 40)).cell? ⟨w.heap.size + 1, 0, none⟩ = some (.slice T0 tn tc) := by rw [← hW]; exact rP.cell 0
 have k1 : ((w.alloc (.cells #[.slice A n cs, .slice V q cv] 32)).alloc (.cells #[.slice T0 tn tc, .slice T1 un uc, .slice T2 yn yc, .int .i64 xa, .int .i64 xu, .int .i64 xo] 40)).cell? ⟨w.heap.size + 1, 1, none⟩ = some (.slice T1 un uc) := by rw [← hW]; exact rP.cell 1
 have k2 : ((w.alloc (.cells #[.slice A n cs, .slice V q cv] 32)).alloc (.cells #[.slice T0 tn tc, .slice T1 un uc, .slice T2 yn yc, .int .i64 xa, .int .i64 xu, .int .i64 xo] 40)).cell? ⟨w.heap.size + 1, 2, none⟩ = some (.slice T2 yn yc) := by rw [← hW]; exact rP.cell 2
 have k3 : ((w.alloc (.cells #[.slice A n cs, .slice V q cv] 32)).alloc (.cells #[.slice T0 tn tc, .slice T1 un uc, .slice T2 yn yc, .int .i64 xa, .int .i64 xu, .int .i64 xo] 40)).cell? ⟨w.heap.size + 1, 3, none⟩ = some (.int .i64 xa) := by rw [← hW]; exact rP.cell 3
 have k4 : ((w.alloc (.cells #[.slice A n cs, .slice V q cv] 32)).alloc (.cells #[.slice T0 tn tc, .slice T1 un uc, .slice T2 yn yc, .int .i64 xa, .int .i64 xu, .int .i64 xo] 40)).cell? ⟨w.heap.size + 1, 4, none⟩ = some (.int .i64 xu) := by rw [← hW]; exact rP.cell 4
 have k5 : ((w.alloc (.cells #[.slice A n cs, .slice V q cv] 32)).alloc (.cells #[.slice T0 tn tc, .slice T1 un uc, .slice T2 yn yc, .int .i64 xa, .int .i64 xu, .int .i64 xo] 40)).cell? ⟨w.heap.size + 1, 5, none⟩ = some (.int .i64 xo) := by rw [← hW]; exact rP.cell 5
 clear hW RAW
 cases ok : sysOkB d.1 d.2 with
 | false =>
  have HS := hid ok
  clear h g0 s0 s1 s2 hs hc hcv hq hrs hsg hE
  go_enter Tryz.func13, Tryz.ntmps13
  go_wp2_with fail
  rw [← HW.out]
  refine LS.out.mono ?_
  rintro e w1 ⟨he, bb⟩
  rw [HS.out] at he
  subst he
  have F := hid (ansB (b := peakB d.1 d.2 (t0, t1, t2, xa, xu, xo)) (a := false) (peak_sys ok).symm (next_trans bel bb))
  clear bb bel rS rP LS LR ok k0 k1 k2 k3 k4 k5 a0 a1
  go_wp2
  go_ret
  exact F.out
 | true =>
  have HS := hid ok
  have LST := hid (fun (w1 : World) (bb : Below w.heap.size w w1) (x r : Int) => specStepAt0 (.slice A n cs) (.slice V q cv) (.slice T0 tn tc) d t0 x r w1 (h.next bb) (g0.next bb) hz z0)
  have H0 := hid s0
  have H1 := hid s1
  have H2 := hid s2
  have HA := hid hs
  have PARTS : Hid (walkMath.inB xo q = true → ∃ (k : Nat) (b off : Nat) (L : Option Addr) (ln lc : Nat) (y : List Int), xo = (k : Int) ∧ k < q ∧ V = some ⟨b, off, none⟩ ∧ b < w.heap.size ∧ w.cell? ⟨b, off + k * 2, none⟩ = some (.slice L ln lc) ∧ Seg w w.heap.size L ln y ∧ ln ≤ 1048576 ∧ lhsI d.2 (k : Int) = y) := hid (fun hb => by
   have hkk : 0 ≤ xo ∧ xo < (q : Int) := of_decide_eq_true hb
   obtain ⟨k, rfl⟩ := Int.eq_ofNat_of_zero_le hkk.1
   obtain ⟨b, off, l, r, y, rfl, hb, ex, c0, -, hy⟩ := rd_at hrs (Below.refl _ _) hq (show k < q by omega)
   have hzy : sz sRule y ≤ 1048576 := by rw [← ex.out]; exact hE k (by omega)
   obtain ⟨L, ln, lc, L', ln', lc', rfl, rfl, sL, qL, -, -, hln, -⟩ := rd_rule hy hzy
   exact ⟨k, b, off, L, ln, lc, y.1, rfl, by omega, rfl, hb, c0, sL, hln, by unfold lhsI; rw [Int.toNat_natCast, ex.out]⟩)
  have HQ := hid hq
  clear ok h g0 s0 s1 s2 hs hc hcv hq hrs hsg hE
  obtain ⟨bo, hbo⟩ : ∃ z, walkMath.inB xo q = z := ⟨_, rfl⟩
  obtain ⟨bu, hbu⟩ : ∃ z, walkMath.inB xu q = z := ⟨_, rfl⟩
  have LR1 := hid (fun (w1 : World) => LR.out xo w1)
  have LR2 := hid (fun (w1 : World) => LR.out xu w1)
  simp only [hbo] at LR1
  simp only [hbu] at LR2
  have HBO := hid hbo
  have HBU := hid hbu
  clear LR hbo hbu
  go_enter Tryz.func13, Tryz.ntmps13
  go_wp2_with fail
  rw [← HW.out]
  refine LS.out.mono ?_
  rintro e w1 ⟨he, bb⟩
  rw [HS.out] at he
  subst he
  replace rS := rS.next bb
  replace rP := rP.next bb
  replace bel := next_trans bel bb
  clear k0 k1 k2 k3 k4 k5 a0 a1
  have a0 : w1.cell? ⟨w.heap.size, 0, none⟩ = some (.slice A n cs) := rS.cell 0
  have a1 : w1.cell? ⟨w.heap.size, 1, none⟩ = some (.slice V q cv) := rS.cell 1
  have k0 : w1.cell? ⟨w.heap.size + 1, 0, none⟩ = some (.slice T0 tn tc) := rP.cell 0
  have k1 : w1.cell? ⟨w.heap.size + 1, 1, none⟩ = some (.slice T1 un uc) := rP.cell 1
  have k2 : w1.cell? ⟨w.heap.size + 1, 2, none⟩ = some (.slice T2 yn yc) := rP.cell 2
  have k3 : w1.cell? ⟨w.heap.size + 1, 3, none⟩ = some (.int .i64 xa) := rP.cell 3
  have k4 : w1.cell? ⟨w.heap.size + 1, 4, none⟩ = some (.int .i64 xu) := rP.cell 4
  have k5 : w1.cell? ⟨w.heap.size + 1, 5, none⟩ = some (.int .i64 xo) := rP.cell 5
  clear bb LS
  go_wp2_with fail
  refine (LR1.out w1).mono ?_
  rintro e w2 ⟨rfl, bb⟩
  replace rS := rS.next bb
  replace rP := rP.next bb
  replace bel := next_trans bel bb
  clear bb LR1
  cases bo with
  | false =>
   have F := hid (ansB (b := peakB d.1 d.2 (t0, t1, t2, xa, xu, xo)) (a := false) (peak_may (may_no1 (by rw [HQ.out]; exact HBO.out))).symm bel)
   clear bel rS rP LR2 LST PARTS k0 k1 k2 k3 k4 k5 a0 a1
   go_wp2
   go_ret
   exact F.out
  | true =>
   clear k0 k1 k2 k3 k4 k5 a0 a1
   have a0 : w2.cell? ⟨w.heap.size, 0, none⟩ = some (.slice A n cs) := rS.cell 0
   have a1 : w2.cell? ⟨w.heap.size, 1, none⟩ = some (.slice V q cv) := rS.cell 1
   have k0 : w2.cell? ⟨w.heap.size + 1, 0, none⟩ = some (.slice T0 tn tc) := rP.cell 0
   have k1 : w2.cell? ⟨w.heap.size + 1, 1, none⟩ = some (.slice T1 un uc) := rP.cell 1
   have k2 : w2.cell? ⟨w.heap.size + 1, 2, none⟩ = some (.slice T2 yn yc) := rP.cell 2
   have k3 : w2.cell? ⟨w.heap.size + 1, 3, none⟩ = some (.int .i64 xa) := rP.cell 3
   have k4 : w2.cell? ⟨w.heap.size + 1, 4, none⟩ = some (.int .i64 xu) := rP.cell 4
   have k5 : w2.cell? ⟨w.heap.size + 1, 5, none⟩ = some (.int .i64 xo) := rP.cell 5
   go_wp2_with fail
   refine (LR2.out w2).mono ?_
   rintro e w3 ⟨rfl, bb⟩
   replace rS := rS.next bb
   replace rP := rP.next bb
   replace bel := next_trans bel bb
   clear bb LR2
   cases bu with
   | false =>
    have F := hid (ansB (b := peakB d.1 d.2 (t0, t1, t2, xa, xu, xo)) (a := false) (peak_may (may_no2 (by rw [HQ.out]; exact HBU.out))).symm bel)
    clear bel rS rP LST PARTS k0 k1 k2 k3 k4 k5 a0 a1
    go_wp2
    go_ret
    exact F.out
   | true =>
    obtain ⟨k, b, off, L, ln, lc, y, hxo, hkq, rfl, hb, cL, sL, hln, hLy⟩ := PARTS.out HBO.out
    have i0 : (0 : Int) ≤ (k : Int) := by omega
    have i1 : (k : Int) < (q : Int) := by omega
    have kl : w3.cell? ⟨b, off + k * 2, none⟩ = some (.slice L ln lc) := (bel.cell (p := ⟨b, off + k * 2, none⟩) hb).trans cL
    have HLN := hid sL.1
    have HLY := hid hLy
    have SL := hid sL
    have HB := hid hb
    have CL := hid cL
    subst hxo
    clear hLy sL cL PARTS
    clear k0 k1 k2 k3 k4 k5 a0 a1
    have a0 : w3.cell? ⟨w.heap.size, 0, none⟩ = some (.slice A n cs) := rS.cell 0
    have a1 : w3.cell? ⟨w.heap.size, 1, none⟩ = some (.slice (some ⟨b, off, none⟩) q cv) := rS.cell 1
    have k0 : w3.cell? ⟨w.heap.size + 1, 0, none⟩ = some (.slice T0 tn tc) := rP.cell 0
    have k1 : w3.cell? ⟨w.heap.size + 1, 1, none⟩ = some (.slice T1 un uc) := rP.cell 1
    have k2 : w3.cell? ⟨w.heap.size + 1, 2, none⟩ = some (.slice T2 yn yc) := rP.cell 2
    have k3 : w3.cell? ⟨w.heap.size + 1, 3, none⟩ = some (.int .i64 xa) := rP.cell 3
    have k4 : w3.cell? ⟨w.heap.size + 1, 4, none⟩ = some (.int .i64 xu) := rP.cell 4
    have k5 : w3.cell? ⟨w.heap.size + 1, 5, none⟩ = some (.int .i64 (k : Int)) := rP.cell 5
    by_cases hin : 0 ≤ xa ∧ xa ≤ (ln : Int) - 1
    case neg =>
     have LN := hid (inNo xa 0 ((ln : Int) - 1) w3 hin)
     have F := hid (ansB (b := peakB d.1 d.2 (t0, t1, t2, xa, xu, (k : Int))) (a := false) (peak_may (may_no3 (by rw [HLY.out]; exact sym_no1 (by rw [HLN.out]; exact hin)))).symm bel)
     clear hin rS rP LST bel
     go_wp2_with fail
     refine LN.out.mono ?_
     rintro e w4 ⟨rfl, rfl⟩
     go_wp2
     go_ret
     exact F.out
    obtain ⟨ai, rfl⟩ := Int.eq_ofNat_of_zero_le hin.1
    have hal : ai < ln := by omega
    have LY := hid (inYes (ai : Int) 0 ((ln : Int) - 1) w3 hin)
    obtain ⟨lb, loff, lx, rfl, hlb, cx, ex⟩ := SL.out.spot hal
    have cx3 : w3.cell? ⟨lb, loff + ai, none⟩ = some (.int .i64 lx) := (bel.cell (p := ⟨lb, loff + ai, none⟩) hlb).trans cx
    have j0 : (0 : Int) ≤ (ai : Int) := by omega
    have j1 : (ai : Int) < (ln : Int) := by omega
    clear cx
    by_cases hx : lx < 0
    case pos =>
     have F := hid (ansB (b := peakB d.1 d.2 (t0, t1, t2, (ai : Int), xu, (k : Int))) (a := false) (peak_may (may_no3 (by rw [HLY.out]; exact sym_no2 (by rw [ex.out]; exact hx)))).symm bel)
     clear hin rS rP LST bel
     go_wp2_with fail
     refine LY.out.mono ?_
     rintro e w4 ⟨rfl, rfl⟩
     go_wp2
     go_ret
     exact F.out
    have HSYM := hid (sym_yes (t := y) (a := ai) (by rw [HLN.out]; exact hal) (by rw [ex.out]; exact hx))
    by_cases hax : (ai : Int) = 0 ∧ (k : Int) = xu
    case pos =>
     obtain ⟨h1, h2⟩ := hax
     have F := hid (ansB (b := peakB d.1 d.2 (t0, t1, t2, (ai : Int), xu, (k : Int))) (a := false) (peak_may (may_no4 ⟨h1, h2⟩)).symm bel)
     have E0 : ((ai : Int) == 0) = true := by simp [h1]
     have E1 : ((k : Int) == xu) = true := by simp [h2]
     clear hin rS rP LST bel h1 h2
     go_wp2_with fail
     refine LY.out.mono ?_
     rintro e w4 ⟨rfl, rfl⟩
     go_wp2
     go_ret
     exact F.out
    have HM := hid (may_yes (rs := d.2) (by rw [HQ.out]; exact HBO.out) (by rw [HQ.out]; exact HBU.out) (by rw [HLY.out]; exact HSYM.out) hax)
    have HPK := hid (fun hr => peak_yes (p := (t0, t1, t2, (ai : Int), xu, (k : Int))) HS.out HM.out hr)
    have HPN := hid (fun hr => peak_right (sg := d.1) (rs := d.2) (p := (t0, t1, t2, (ai : Int), xu, (k : Int))) hr)
    have LS1 := hid (LST.out w3 bel 0 (k : Int))
    obtain ⟨o1, ho1⟩ : ∃ z, stepAtO d.1 d.2 t0 0 (k : Int) = z := ⟨_, rfl⟩
    have HO1 := hid ho1
    rw [ho1] at LS1
    have HL1 := hid (show ∀ z, o1 = some z → z.length ≤ 60 from fun z hz => by subst hz; exact step_len (stepAt_parts ho1).2)
    clear ho1
    have hcs : (((ai : Int) == 0) = true ∧ ((k : Int) == xu) = false) ∨ ((ai : Int) == 0) = false := by
     by_cases q : (ai : Int) = 0
     ·exact .inl ⟨by simp [q], by simp; exact fun r => hax ⟨q, r⟩⟩
     ·exact .inr (by simp; omega)
    have HIN := hid hin
    clear hax hin HSYM HM
    rcases hcs with ⟨hc1, hc2⟩ | hc1
    all_goals
     go_wp2_with fail
     refine LY.out.mono ?_
     rintro e w4 ⟨rfl, rfl⟩
     go_wp2_with fail
     refine LS1.out.mono ?_
     rintro e w5 ⟨X, xn, xc, rfl, oX, bb⟩
     clear hc1 LS1 LY cx3
     try clear hc2
     replace rS := rS.next bb
     replace rP := rP.next bb
     have bel5 := next_trans bel bb
     cases o1 with
     | none =>
      have F := hid (ansB (b := peakB d.1 d.2 (t0, t1, t2, (ai : Int), xu, (k : Int))) (a := false) (HPN.out (by rw [HO1.out]; intro q; cases q)).symm bel5)
      clear bb bel5 oX rS rP LST HPK HPN bel k0 k1 k2 k3 k4 k5 a0 a1 kl
      go_wp2
      go_ret
      exact F.out
     | some z =>
      have oY : Own w5 w3.heap.size (.slice X xn xc) z := oX
      have hxn : xn ≤ 1048576 := by have := HL1.out z rfl; have := Own.len oY; omega
      have LE := hid (specSame X T2 xn yn xc yc z t2 w5 (Own.seg oY) (H2.out.next bel5) hxn b2)
      clear k0 k1 k2 k3 k4 k5 a0 a1
      have a0 : w5.cell? ⟨w.heap.size, 0, none⟩ = some (.slice A n cs) := rS.cell 0
      have a1 : w5.cell? ⟨w.heap.size, 1, none⟩ = some (.slice (some ⟨b, off, none⟩) q cv) := rS.cell 1
      have k0 : w5.cell? ⟨w.heap.size + 1, 0, none⟩ = some (.slice T0 tn tc) := rP.cell 0
      have k1 : w5.cell? ⟨w.heap.size + 1, 1, none⟩ = some (.slice T1 un uc) := rP.cell 1
      have k2 : w5.cell? ⟨w.heap.size + 1, 2, none⟩ = some (.slice T2 yn yc) := rP.cell 2
      have k3 : w5.cell? ⟨w.heap.size + 1, 3, none⟩ = some (.int .i64 (ai : Int)) := rP.cell 3
      have k4 : w5.cell? ⟨w.heap.size + 1, 4, none⟩ = some (.int .i64 xu) := rP.cell 4
      have k5 : w5.cell? ⟨w.heap.size + 1, 5, none⟩ = some (.int .i64 (k : Int)) := rP.cell 5
      clear oX oY
      go_wp2_with fail
      refine LE.out.mono ?_
      rintro e w6 ⟨rfl, dd, rfl⟩
      clear LE HL1
      by_cases hzt : z = t2
      case neg =>
       have F := hid (ansB (b := peakB d.1 d.2 (t0, t1, t2, (ai : Int), xu, (k : Int))) (a := false) (HPN.out (by rw [HO1.out]; intro q; injection q with q; exact hzt q)).symm (below_drewN bel5 dd))
       rw [decide_eq_false hzt]
       clear bb bel5 rS rP LST HPK HPN bel k0 k1 k2 k3 k4 k5 a0 a1 kl hzt
       go_wp2
       go_ret
       exact F.out
      rw [decide_eq_true hzt]
      have HV := hid (HPK.out (by rw [HO1.out, hzt]))
      replace rS := rS.drewN dd
      replace rP := rP.drewN dd
      replace bel5 := below_drewN bel5 dd
      clear bb HPK HPN hzt
      obtain ⟨w6, hw6⟩ : ∃ W, W = w5.drewN dd := ⟨_, rfl⟩
      rw [← hw6] at rS rP bel5 ⊢
      clear hw6
      have zP : w.heap.size + 1 < w6.heap.size := rP.lt
      have zS : w.heap.size < w6.heap.size := rS.lt
      clear k0 k1 k2 k3 k4 k5 a0 a1
      have a0 : w6.cell? ⟨w.heap.size, 0, none⟩ = some (.slice A n cs) := rS.cell 0
      have a1 : w6.cell? ⟨w.heap.size, 1, none⟩ = some (.slice (some ⟨b, off, none⟩) q cv) := rS.cell 1
      have k0 : w6.cell? ⟨w.heap.size + 1, 0, none⟩ = some (.slice T0 tn tc) := rP.cell 0
      have k1 : w6.cell? ⟨w.heap.size + 1, 1, none⟩ = some (.slice T1 un uc) := rP.cell 1
      have k2 : w6.cell? ⟨w.heap.size + 1, 2, none⟩ = some (.slice T2 yn yc) := rP.cell 2
      have k3 : w6.cell? ⟨w.heap.size + 1, 3, none⟩ = some (.int .i64 (ai : Int)) := rP.cell 3
      have k4 : w6.cell? ⟨w.heap.size + 1, 4, none⟩ = some (.int .i64 xu) := rP.cell 4
      have k5 : w6.cell? ⟨w.heap.size + 1, 5, none⟩ = some (.int .i64 (k : Int)) := rP.cell 5
      have LPA := hid (specPathOf A (some ⟨lb, loff, none⟩) n cs ln lc d.1 y (ai : Int) (pathI d.1 y (ai : Int)) w6.drew (HA.out.next bel5.drew) (SL.out.next bel5.drew) hn hln (pathI_is d.1 y (ai : Int)))
      have LPL := hid (fun (w7 : World) (P : Option Addr) (pn pc : Nat) (bb : Below w6.heap.size w6 w7) (hP : Seg w7 w7.heap.size P pn (pathI d.1 y (ai : Int))) => specPlaceOf A T0 P n cs tn tc pn pc d.1 t0 (pathI d.1 y (ai : Int)) w7 ((HA.out.next bel5).next bb) ((H0.out.next bel5).next bb) hP hn b0 (by have := hP.1; have := pathI_len d.1 y (ai : Int); omega))
      obtain ⟨zp, hzp⟩ : ∃ z, placeI d.1 t0 (pathI d.1 y (ai : Int)) = z := ⟨_, rfl⟩
      simp only [hzp] at LPL
      have HZ2 := hid (show placeP d.1 d.2 t0 (k : Int) (ai : Int) = zp by unfold placeP; rw [HLY.out]; exact hzp)
      have LS2 := hid (fun (w8 : World) (bb : Below w6.heap.size w6 w8) => LST.out w8 (next_trans bel5 bb) zp xu)
      obtain ⟨o2, ho2⟩ : ∃ z, stepAtO d.1 d.2 t0 zp xu = z := ⟨_, rfl⟩
      have HO2 := hid ho2
      simp only [ho2] at LS2
      have HL2 := hid (show ∀ z, o2 = some z → z.length ≤ 60 from fun z hz => by subst hz; exact step_len (stepAt_parts ho2).2)
      clear ho2 hzp LST bel kl
      go_wp2_with fail
      go_region_held3 (fun w' => (w'.cell? ⟨w.heap.size, 0, none⟩ = some (.slice A n cs) ∧ w'.cell? ⟨w.heap.size, 1, none⟩ = some (.slice (some ⟨b, off, none⟩) q cv)) ∧ w'.cell? ⟨w.heap.size + 1, 0, none⟩ = some (.slice T0 tn tc) ∧ w'.cell? ⟨w.heap.size + 1, 3, none⟩ = some (.int .i64 (ai : Int)) ∧ w'.cell? ⟨w.heap.size + 1, 4, none⟩ = some (.int .i64 xu))
       (go_keep)
       (first
        | (go_at_call 23; refine LPA.out.mono ?_; rintro e w7 ⟨P, pn, pc, rfl, oP, b7⟩; have B7 : Below w6.heap.size w6 w7 := next_trans (Below.refl w6.heap.size w6).drew b7; have h0 := (B7.cell (p := ⟨w.heap.size, 0, none⟩) zS).trans a0; have h1 := (B7.cell (p := ⟨w.heap.size, 1, none⟩) zS).trans a1; have h2 := (B7.cell (p := ⟨w.heap.size + 1, 0, none⟩) zP).trans k0; have h3 := (B7.cell (p := ⟨w.heap.size + 1, 3, none⟩) zP).trans k3; have h4 := (B7.cell (p := ⟨w.heap.size + 1, 4, none⟩) zP).trans k4)
        | (go_at_call 22; refine (LPL.out w7 P pn pc B7 (Own.seg oP)).mono ?_; rintro e w8 ⟨rfl, b8⟩; have B8 : Below w6.heap.size w6 w8 := next_trans B7 b8; have i0' := (B8.cell (p := ⟨w.heap.size, 0, none⟩) zS).trans a0; have i1' := (B8.cell (p := ⟨w.heap.size, 1, none⟩) zS).trans a1; have i2' := (B8.cell (p := ⟨w.heap.size + 1, 0, none⟩) zP).trans k0; have i3' := (B8.cell (p := ⟨w.heap.size + 1, 3, none⟩) zP).trans k3; have i4' := (B8.cell (p := ⟨w.heap.size + 1, 4, none⟩) zP).trans k4)
        | (go_at_call 15; refine (LS2.out w8 B8).mono ?_; rintro e w9 ⟨Y, ym, yd, rfl, oZ, b9⟩; have B9 : Below w6.heap.size w6 w9 := next_trans B8 b9; have l0' := (B9.cell (p := ⟨w.heap.size, 0, none⟩) zS).trans a0; have l1' := (B9.cell (p := ⟨w.heap.size, 1, none⟩) zS).trans a1; have l2' := (B9.cell (p := ⟨w.heap.size + 1, 0, none⟩) zP).trans k0; have l3' := (B9.cell (p := ⟨w.heap.size + 1, 3, none⟩) zP).trans k3; have l4' := (B9.cell (p := ⟨w.heap.size + 1, 4, none⟩) zP).trans k4))
      clear h0 h1 h2 h3 h4 i0' i1' i2' i3' i4' l0' l1' l2' l3' l4' a0 a1 k0 k1 k2 k3 k4 k5 oP b7 b8 B7 B8 LPA LPL LS2
      have bel9 := next_trans bel5 B9
      replace rP := rP.next B9
      have k1 : w9.cell? ⟨w.heap.size + 1, 1, none⟩ = some (.slice T1 un uc) := rP.cell 1
      have HEND := hid (show peakB d.1 d.2 (t0, t1, t2, (ai : Int), xu, (k : Int)) = decide (o2 = some t1) by rw [HV.out]; show decide (stepAtO d.1 d.2 t0 (placeP d.1 d.2 t0 (k : Int) (ai : Int)) xu = some t1) = _; rw [HZ2.out, HO2.out])
      cases o2 with
      | none =>
       have F := hid (ansB (b := peakB d.1 d.2 (t0, t1, t2, (ai : Int), xu, (k : Int))) (a := false) (by rw [HEND.out]; rfl) bel9)
       clear bel9 bel5 rS rP oZ b9 B9 k1
       go_wp2
       go_ret
       exact F.out
      | some z2 =>
       have oY : Own w9 w8.heap.size (.slice Y ym yd) z2 := oZ
       have hym : ym ≤ 1048576 := by have := HL2.out z2 rfl; have := Own.len oY; omega
       have LE := hid (specSame Y T1 ym un yd uc z2 t1 w9 (Own.seg oY) (H1.out.next bel9) hym b1)
       clear oZ oY bel5 rS rP b9 B9 HL2
       go_wp2_with fail
       refine LE.out.mono ?_
       rintro e w10 ⟨rfl, d2, rfl⟩
       have F := hid (show AnsB w (peakB d.1 d.2 (t0, t1, t2, (ai : Int), xu, (k : Int))) (.returned (.bool (decide (z2 = t1)))) (w9.drewN d2) from ⟨by rw [HEND.out]; congr 2; simp, below_drewN bel9 d2⟩)
       clear bel9 k1 LE
       generalize decide (z2 = t1) = bz at *
       go_wp2
       go_ret
       exact F.out
theorem specPeakOk (a v v0 v1 v2 : Value) (d : Dat sSystem) (p : Dat sPeak) (w : World) (h : Rd w w.heap.size sSystem [a, v] d) (h' : Rd w w.heap.size sPeak [v0, v1, v2, .int .i64 p.2.2.2.1, .int .i64 p.2.2.2.2.1, .int .i64 p.2.2.2.2.2] p) (hz : sz sSystem d ≤ 1048576) (hz' : sz sPeak p ≤ 1048576) :
  Calls Tryz.prog 13 #[.agg #[a, v], .agg #[v0, v1, v2, .int .i64 p.2.2.2.1, .int .i64 p.2.2.2.2.1, .int .i64 p.2.2.2.2.2]] w (AnsB w (peakB d.1 d.2 p)) := by
 obtain ⟨A, n, cs, V, q, cv, rfl, rfl, -⟩ := rd_sys h hz
 obtain ⟨T0, tn, tc, T1, un, uc, T2, yn, yc, rfl, rfl, rfl, s0, s1, s2, b0, b1, b2⟩ := rd_peak h' hz'
 obtain ⟨g0, -⟩ := parts_Peak h'
 have hz0 : sz sI p.1 + (sz sI p.2.1 + (sz sI p.2.2.1 + (0 + (0 + 0)))) ≤ 1048576 := hz'
 exact specPeakC A V T0 T1 T2 n cs q cv tn tc un uc yn yc d p.1 p.2.1 p.2.2.1 _ _ _ w h g0 s0 s1 s2 hz (by omega) b0 b1 b2
end peakSpec
end
section
namespace walkSpec
open Go.RowKit base ints sig term termOk endAt endOf marks app sym sub segs segsHelp kinds termFacts same shifted shape kindsR kindsW varsOf ruleMath ruleSpec stepMath walkMath stepSpec
set_option maxRecDepth 100000
end walkSpec
end
section
namespace walkSpec
open Go.RowKit base ints sig term termOk endAt endOf marks app sym sub segs segsHelp kinds termFacts same shifted shape kindsR kindsW varsOf ruleMath ruleSpec stepMath walkMath stepSpec ownL heldT
set_option maxRecDepth 100000
end walkSpec
end
section
open Go.Lib (hid)
namespace stepImpl
open Go.RowKit base ints sig term termOk endAt inside marks app sym sub segs segsHelp kinds termFacts matchMath whole takeMath take extended varsOf shape kindsR ruleMath ruleSpec ruleImpl stepMath walkMath stepSpec
set_option maxRecDepth 100000
theorem right_of {sg : List Int} {rs : List Rl} {t : List Int} (h : sysOkB sg rs = true) : rightB sg rs t = termOkB sg t := by unfold rightB; rw [h]; rfl
theorem there_eq {sg : List Int} {rs : List Rl} {t : List Int} {a r : Int} (h : sysOkB sg rs = true) : thereR sg rs t a r = (thereB sg t a && walkMath.inB r rs.length) := by
 unfold thereR thereB walkMath.inB endAt.inB
 rw [right_of h, Bool.and_assoc]
theorem hasRule (a : Value) (V : Option Addr) (q cv : Nat) (r : Int) (w : World) (hq : q ≤ 1048576) :
  Calls Tryz.prog 134 #[.agg #[a, .slice V q cv], .int .i64 r] w (AnsB w (walkMath.inB r q)) := by
 obtain ⟨W, hW, rA, bel⟩ := box1 w 100 #[a, .slice V q cv]
 have HW := hid hW
 have R := hid rA
 have FF := hid (fun (b : Bool) (h : walkMath.inB r q = b) => (ansB (b := walkMath.inB r q) (a := b) h.symm bel))
 clear hW rA bel
 by_cases h0 : r < 0
 ·have F := hid (FF.out false (by unfold walkMath.inB; exact decide_eq_false (by omega)))
  go_enter Tryz.func134, Tryz.ntmps134
  go_wp2_with fail
  try rw [← HW.out]
  go_wp2
  go_ret
  exact F.out
 ·by_cases h1 : r < (q : Int)
  ·have F := hid (FF.out true (by unfold walkMath.inB; exact decide_eq_true (by omega)))
   have h0' : (0 : Int) ≤ r := by omega
   have K1 : (w.alloc (.cells #[a, .slice V q cv] 100)).cell? ⟨w.heap.size, 1, none⟩ = some (.slice V q cv) := by rw [← HW.out]; exact R.out.cell 1
   go_enter Tryz.func134, Tryz.ntmps134
   go_wp2
   rw [← HW.out]
   go_ret
   exact F.out
  ·have F := hid (FF.out false (by unfold walkMath.inB; exact decide_eq_false (by omega)))
   have h0' : (0 : Int) ≤ r := by omega
   have K1 : (w.alloc (.cells #[a, .slice V q cv] 100)).cell? ⟨w.heap.size, 1, none⟩ = some (.slice V q cv) := by rw [← HW.out]; exact R.out.cell 1
   go_enter Tryz.func134, Tryz.ntmps134
   go_wp2
   rw [← HW.out]
   go_ret
   exact F.out
set_option maxHeartbeats 4000000 in
theorem hasRedex (a v u : Value) (d : Dat sSystem) (t : List Int) (x r : Int) (w : World) (h : Rd w w.heap.size sSystem [a, v] d) (ht : Rd w w.heap.size sI [u] t) (hz : sz sSystem d ≤ 1048576) (hz' : sz sI t ≤ 1048576) (oks : sysOkB d.1 d.2 = true) :
  Calls Tryz.prog 185 #[.agg #[a, v], u, .int .i64 x, .int .i64 r] w (AnsB w (redexB d.1 d.2 t x r)) := by
 have h0 := h
 have ht0 := ht
 obtain ⟨T, m, c, rfl, hT, hcT⟩ := rd_ints.1 ht
 have hm := len_ints hT.1 hz'
 obtain ⟨A, n, cs, V, q, cv, rfl, rfl, hs, hc, hcv, hq, hn, hq1, hrs, hsg, hE⟩ := rd_sys h hz
 obtain ⟨W, hW, rA, bel⟩ := box1 w 100 #[.slice A n cs, .slice V q cv]
 have HW := hid hW
 have LP := hid (placeIn A T n cs m c d.1 t x W (hs.next bel) (hT.next bel) hn hm)
 have HQ := hid hq
 have LHR := hid (fun (w1 : World) => hasRule (.slice A n cs) V q cv r w1 hq1)
 have LMA := hid (fun (w1 : World) (bb : Below w.heap.size w w1) (x k : Nat) hok hx hk => matchAt _ _ _ d t x k w1 (h0.next bb) (ht0.next bb) hz hok hx hk)
 have OKS := hid oks
 clear hW h h0 ht ht0 hz hz' hs hc hcv hq hrs hsg hE hT hcT oks
 obtain ⟨bp, hbp⟩ : ∃ bp, thereB d.1 t x = bp := ⟨_, rfl⟩
 have HP := hid hbp
 have HTH := hid (show thereR d.1 d.2 t x r = (bp && walkMath.inB r d.2.length) by rw [there_eq OKS.out, hbp])
 rw [hbp] at LP
 clear hbp
 cases bp with
 | false =>
  go_enter Tryz.func185, Tryz.ntmps185
  go_wp2_with fail
  rw [← HW.out]
  refine LP.out.mono ?_
  rintro e w1 ⟨rfl, bb⟩
  have F := hid (ansB (b := redexB d.1 d.2 t x r) (a := false) (by rw [redex_no (by rw [HTH.out]; rfl)]) (next_trans bel bb))
  clear bb bel rA LMA
  go_wp2
  go_ret
  exact F.out
 | true =>
  go_enter Tryz.func185, Tryz.ntmps185
  go_wp2_with fail
  rw [← HW.out]
  refine LP.out.mono ?_
  rintro e w1 ⟨rfl, bb⟩
  replace rA := rA.next bb
  replace bel := next_trans bel bb
  have K0 : w1.cell? ⟨w.heap.size, 0, none⟩ = some (.slice A n cs) := rA.cell 0
  have K1 : w1.cell? ⟨w.heap.size, 1, none⟩ = some (.slice V q cv) := rA.cell 1
  have LH1 := hid (LHR.out w1)
  clear bb LP LHR
  obtain ⟨bi, hbi⟩ : ∃ bi, walkMath.inB r q = bi := ⟨_, rfl⟩
  have HBI := hid hbi
  rw [hbi] at LH1
  clear hbi
  go_wp2_with fail
  refine LH1.out.mono ?_
  rintro e w2 ⟨rfl, bb⟩
  cases bi with
  | false =>
   have F := hid (ansB (b := redexB d.1 d.2 t x r) (a := false) (by rw [redex_no (by rw [HTH.out, HQ.out, HBI.out]; rfl)]) (next_trans bel bb))
   clear bb bel rA LMA K0 K1 LH1
   go_wp2
   go_ret
   exact F.out
  | true =>
   have hkk : 0 ≤ r ∧ r < (q : Int) := of_decide_eq_true HBI.out
   obtain ⟨k, rfl⟩ := Int.eq_ofNat_of_zero_le hkk.1
   have hkq : k < q := by omega
   have hx := endAt.there_parts HP.out
   obtain ⟨i, rfl⟩ := Int.eq_ofNat_of_zero_le hx.2.1
   have hix : i < t.length := by omega
   have okR : rightB d.1 d.2 t = true := by rw [right_of OKS.out]; exact hx.1
   have hkl : k < d.2.length := by rw [HQ.out]; exact hkq
   have HRE := hid (show redexB d.1 d.2 t (i : Int) (k : Int) = (mst d.1 t (d.2.getD k ([], [])).1 i s0).isSome by
    rw [redex_yes (by rw [HTH.out]; unfold walkMath.inB; rw [decide_eq_true (by omega)]; rfl), red_at (sys_rule OKS.out hkl) hx.1 hix]
    unfold rl
    rw [Int.toNat_natCast, Int.toNat_natCast])
   replace rA := rA.next bb
   replace bel := next_trans bel bb
   have LM1 := hid (LMA.out w2 bel i k okR hix hkl)
   clear K0 K1
   have K0 : w2.cell? ⟨w.heap.size, 0, none⟩ = some (.slice A n cs) := rA.cell 0
   have K1 : w2.cell? ⟨w.heap.size, 1, none⟩ = some (.slice V q cv) := rA.cell 1
   clear hx okR LMA HTH hkk hix hkl bb rA LH1
   obtain ⟨R, hR⟩ : ∃ R, mst d.1 t (d.2.getD k ([], [])).1 i s0 = R := ⟨_, rfl⟩
   rw [hR] at LM1 HRE
   clear hR
   go_wp2_with fail
   refine LM1.out.mono ?_
   rintro e w3 ⟨rs, rfl, tab, hsz, bb⟩
   have one := hid tab.one
   have h24 := hid tab.1
   obtain ⟨bo, hbo⟩ : ∃ bo, R.isSome = bo := ⟨_, rfl⟩
   rw [hbo]
   have F := hid (show AnsB w (redexB d.1 d.2 t (i : Int) (k : Int)) (.returned (.bool bo)) (w3.alloc (.cells rs 240)) from ⟨by rw [HRE.out, hbo], (next_trans bel bb).alloc (next_trans bel bb).size _⟩)
   clear tab hsz bb bel K0 K1 hbo LM1 HRE
   go_wp2_with (first
    | (refine rowAlloc rfl 240 rfl z24 zero_b ?_)
    | (refine rowStore rfl 240 _ _ rfl w3.heap.size rs z24 240 rfl rfl (heap_alloc_new w3 _) (by rw [h24.out]; exact size_b) (by rw [h24.out]; rfl) one.out ?_; rw [World.setRow_alloc_new]))
   go_ret
   exact F.out
set_option maxHeartbeats 4000000 in
theorem stepAt (a v u : Value) (d : Dat sSystem) (t : List Int) (x r : Int) (w : World) (h : Rd w w.heap.size sSystem [a, v] d) (ht : Rd w w.heap.size sI [u] t) (hz : sz sSystem d ≤ 1048576) (hz' : sz sI t ≤ 1048576) (oks : sysOkB d.1 d.2 = true) :
  Calls Tryz.prog 141 #[.agg #[a, v], u, .int .i64 x, .int .i64 r] w (AnsStep w (stepAtO d.1 d.2 t x r)) := by
 obtain ⟨W, hW, rA, bel⟩ := box1 w 100 #[a, v]
 have HW := hid hW
 have LH := hid (hasRedex a v u d t x r W (h.next bel) (ht.next bel) hz hz' oks)
 have LR := hid (fun (w1 : World) (bb : Below w.heap.size w w1) (x k : Nat) hok hx hk hred => reduced a v u d t x k w1 (h.next bb) (ht.next bb) hz hok hx hk hred)
 clear hW h ht hz hz'
 obtain ⟨bp, hbp⟩ : ∃ bp, redexB d.1 d.2 t x r = bp := ⟨_, rfl⟩
 rw [hbp] at LH
 cases bp with
 | false =>
  have HN := hid (show stepAtO d.1 d.2 t x r = none by
   cases e : stepAtO d.1 d.2 t x r with
   | none => rfl
   | some y => rw [stepAt_redex e] at hbp; cases hbp)
  clear hbp
  go_enter Tryz.func141, Tryz.ntmps141
  go_wp2_with fail
  rw [← HW.out]
  refine LH.out.mono ?_
  rintro e w1 ⟨rfl, bb⟩
  have F := hid (ansStep_nil (o := stepAtO d.1 d.2 t x r) HN.out (next_trans bel bb))
  clear bb bel rA LR
  go_wp2
  go_ret2
  exact F.out
 | true =>
  have hth : thereR d.1 d.2 t x r = true := by
   unfold redexB at hbp
   rw [Bool.and_eq_true] at hbp
   exact hbp.1
  obtain ⟨p1, p2, p3, p4⟩ := walkMath.there_parts hth
  obtain ⟨i, rfl⟩ := Int.eq_ofNat_of_zero_le p3.1
  obtain ⟨k, rfl⟩ := Int.eq_ofNat_of_zero_le p4.1
  rw [redex_yes hth] at hbp
  unfold rl at hbp
  rw [Int.toNat_natCast, Int.toNat_natCast] at hbp
  have LR1 := hid (fun w1 bb => LR.out w1 bb i k (right_yes p1 p2) (by omega) (by omega) hbp)
  have HE := hid (show stepAtO d.1 d.2 t (i : Int) (k : Int) = stepO d.1 (d.2.getD k ([], [])) t i by rw [at_yes hth]; unfold rl; rw [Int.toNat_natCast, Int.toNat_natCast])
  clear hth p1 p2 p3 p4 hbp LR oks
  go_enter Tryz.func141, Tryz.ntmps141
  go_wp2_with fail
  rw [← HW.out]
  refine LH.out.mono ?_
  rintro e w1 ⟨rfl, bb⟩
  replace rA := rA.next bb
  replace bel := next_trans bel bb
  have K0 : w1.cell? ⟨w.heap.size, 0, none⟩ = some a := rA.cell 0
  have K1 : w1.cell? ⟨w.heap.size, 1, none⟩ = some v := rA.cell 1
  have LR2 := hid (LR1.out w1 bel)
  clear bb LH LR1 rA
  go_wp2_with fail
  refine LR2.out.mono ?_
  rintro e w2 ⟨X, xn, xc, rfl, oX, bb⟩
  have F : AnsStep w (stepAtO d.1 d.2 t (i : Int) (k : Int)) (.returned (.tuple #[.slice X xn xc, .bool (stepO d.1 (d.2.getD k ([], [])) t i).isSome])) w2 := ⟨X, xn, xc, by rw [HE.out], by rw [HE.out]; exact Own.lower oX bel.size, next_trans bel bb⟩
  have HF := hid F
  clear F oX bb bel K0 K1 LR2
  generalize (stepO d.1 (d.2.getD k ([], [])) t i).isSome = bz at *
  go_wp2
  go_ret2
  exact HF.out
end stepImpl
end
section
namespace walkImpl
open Go.RowKit base ints sig term termOk endAt endOf marks app sym sub segs segsHelp kinds termFacts same shifted shape kindsR kindsW varsOf ruleMath ruleSpec ruleImpl stepMath walkMath stepSpec stepImpl walkSpec
set_option maxRecDepth 100000
set_option maxHeartbeats 4000000 in
theorem leads (a v u : Value) (U : Option Addr) (un uc : Nat) (d : Dat sSystem) (t y : List Int) (x r : Int) (w : World) (h : Rd w w.heap.size sSystem [a, v] d) (ht : Rd w w.heap.size sI [u] t) (hU : Seg w w.heap.size U un y) (hz : sz sSystem d ≤ 1048576) (hz' : sz sI t ≤ 1048576) (hun : un ≤ 1048576) (oks : sysOkB d.1 d.2 = true) :
  Calls Tryz.prog 78 #[.agg #[a, v], u, .agg #[.int .i64 x, .int .i64 r, .slice U un uc]] w (AnsB w (decide (stepAtO d.1 d.2 t x r = some y))) := by
 obtain ⟨W, hW, rA, rX, bel⟩ := box2 w 100 124 #[a, v] #[.int .i64 x, .int .i64 r, .slice U un uc]
 have HW := Lib.hid hW
 have LS := Lib.hid (stepAt a v u d t x r W (h.next bel) (ht.next bel) hz hz' oks)
 have HU := Lib.hid (hU.next bel)
 have K0 : ((w.alloc (.cells #[a, v] 100)).alloc (.cells #[.int .i64 x, .int .i64 r, .slice U un uc] 124)).cell? ⟨w.heap.size, 0, none⟩ = some a := by rw [← hW]; exact rA.cell 0
 have K1 : ((w.alloc (.cells #[a, v] 100)).alloc (.cells #[.int .i64 x, .int .i64 r, .slice U un uc] 124)).cell? ⟨w.heap.size, 1, none⟩ = some v := by rw [← hW]; exact rA.cell 1
 clear hW h ht hU hz hz'
 obtain ⟨o, ho⟩ : ∃ o, stepAtO d.1 d.2 t x r = o := ⟨_, rfl⟩
 rw [ho] at LS
 rw [ho]
 have HL := Lib.hid (show ∀ z, o = some z → z.length ≤ 60 from fun z hz => by subst hz; exact step_len (stepAt_parts ho).2)
 clear ho
 go_enter Tryz.func78, Tryz.ntmps78
 go_wp2_with fail
 rw [← HW.out]
 refine LS.out.mono ?_
 rintro e w2 ⟨X, xn, xc, rfl, oX, bb⟩
 replace rX := rX.next bb
 have b2 := next_trans bel bb
 have k2 : w2.cell? ⟨w.heap.size + 1, 2, none⟩ = some (.slice U un uc) := rX.cell 2
 cases o with
 | none =>
  have F := Lib.hid (show AnsB w (decide ((none : Option (List Int)) = some y)) (.returned (.bool false)) w2 from ⟨rfl, b2⟩)
  clear oX bb rA rX bel b2 HL HU LS K0 K1 k2
  go_wp2
  go_ret
  exact F.out
 | some z =>
  have oY : Own w2 W.heap.size (.slice X xn xc) z := oX
  have hxn : xn ≤ 1048576 := by have := HL.out z rfl; have := Own.len oY; omega
  have LE := Lib.hid (implSame X U xn un xc uc z y w2 (Own.seg oY) (HU.out.next bb) hxn hun)
  clear oX oY HU bb rX rA bel LS K0 K1 HL
  go_wp2_with fail
  refine LE.out.mono ?_
  rintro e w3 ⟨rfl, dd, rfl⟩
  have F := Lib.hid (show AnsB w (decide (some z = some y)) (.returned (.bool (decide (z = y)))) (w2.drewN dd) from ⟨by congr 2; simp, below_drewN b2 dd⟩)
  clear b2 k2 LE
  generalize decide (z = y) = bz at *
  go_wp2
  go_ret
  exact F.out
end walkImpl
end
end Go.Proofs.YtlaloakegajheaaGreat
