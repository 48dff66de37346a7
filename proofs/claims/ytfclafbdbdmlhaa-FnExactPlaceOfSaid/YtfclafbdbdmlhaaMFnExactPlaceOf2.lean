/-
  MERGED: my texts Place, WPlaceOf, one behind the other, as they are. By an AI agent.
-/
import Derived.Test.YtfclafbdbdmlhaaMFnExactPlaceOf1
import Derived.Deep.RegionHeld3
namespace Go.Proofs.Ytfclafbdbdmlhaa
section
open Go.Lib (hid)
namespace place
open Go.RowKit base ints sig term arity endOf cursor termOk endAt inside marks app appAt sym args posMath pathSpec wayTo
set_option maxRecDepth 100000
def placeI (sg t path : List Int) : Int := if termOkB sg t = true then walkI sg t 0 path else -1
def GivesI (w : World) (v : Int) (e : Ending) (w' : World) : Prop := e = .returned (.int .i64 v) ∧ Below w.heap.size w w'
theorem drop_step {path : List Int} {i : Nat} (h : i < path.length) : path.drop i = path.getD i 0 :: path.drop (i + 1) := drop_cons h
def HeadPl (w : World) (A : Option Addr) (n c : Nat) (sg : List Int) (A' : Option Addr) (m : Nat) (t : List Int) (Ap : Option Addr) (pn : Nat) (path : List Int) (R : Int) (g : Nat) (p i : Value) (wr : World) : Prop :=
 ∃ (q k : Nat), p = .int .i64 q ∧ i = .int .i64 k ∧ k + g = pn ∧ q < t.length ∧ walkI sg t q (path.drop k) = R ∧ Fr w wr A n c sg A' m t ∧ Seg wr w.heap.size Ap pn path
set_option maxHeartbeats 1000000 in
theorem specPlaceOf (A A' Ap : Option Addr) (n c m c' pn pc : Nat) (sg t path : List Int) (w : World) (h : Seg w w.heap.size A n sg) (h' : Seg w w.heap.size A' m t) (hp : Seg w w.heap.size Ap pn path) (hn : n ≤ 1048576) (hm : m ≤ 1048576) (hpn : pn ≤ 1048576) :
  Calls Try.prog 36 #[.agg #[.slice A n c], .slice A' m c', .slice Ap pn pc] w (GivesI w (placeI sg t path)) := by
 obtain ⟨W, hW⟩ : ∃ W, W = w.alloc (.cells #[.slice A n c] 26) := ⟨_, rfl⟩
 have f : Fr w W A n c sg A' m t := by rw [hW]; exact Fr.start h h'
 replace hp : Seg W w.heap.size Ap pn path := hp.below f.b
 have HW := hid hW
 have HL := hid h'.1
 have HLP := hid hp.1
 have L := hid (specTermOk A A' n c m c' sg t W f.s1 f.t1 hn hm)
 clear hW h h'
 cases hok : termOkB sg t with
 | false =>
  have HS := hid hok
  have HR := hid (show placeI sg t path = -1 by unfold placeI; rw [if_neg (by rw [hok]; simp)])
  clear hok hp
  go_enter Try.func36, Try.ntmps36
  go_wp2_with fail
  rw [← HW.out]
  refine L.out.mono ?_
  rintro e w1 ⟨he, bb⟩
  rw [HS.out] at he
  subst he
  have F := hid (show GivesI w (placeI sg t path) (.returned (.int .i64 (-1))) w1 from ⟨by rw [HR.out], (f.next bb).b⟩)
  clear f L bb
  go_wp2
  go_ret
  exact F.out
 | true =>
  have HS := hid hok
  have HR := hid (show placeI sg t path = walkI sg t 0 path by unfold placeI; rw [if_pos hok])
  have h60 := (termOk_parts hok).2.1
  have h1 := (root_len hok)
  have hpos : 0 < t.length := by
   by_cases e : 0 < t.length
   ·exact e
   ·have h3 := (termOk_parts hok).2.2
    have h2 := scan_pos (q := 0) h3
    omega
  obtain ⟨R, hR⟩ : ∃ R, walkI sg t 0 path = R := ⟨_, rfl⟩
  rw [hR] at HR
  have hars := (sig_arities (termOk_parts hok).1).1
  go_enter Try.func36, Try.ntmps36
  go_wp2_with fail
  rw [← HW.out]
  refine L.out.mono ?_
  rintro e w1 ⟨he, bb⟩
  rw [HS.out] at he
  subst he
  have bw : Below w.heap.size W w1 := bb.mono (Nat.le_of_lt f.size)
  have S0 : HeadPl w A n c sg A' m t Ap pn path R pn (.int .i64 0) (.int .i64 0) w1 := ⟨0, 0, rfl, rfl, by omega, hpos, hR, f.next bb, hp.below bw⟩
  have HS0 := hid S0
  clear S0 f bb bw hp L hR h1 hpos hok h60
  go_wp2_with fail
  go_loopg [7, 8] pn (fun g p i wr => HeadPl w A n c sg A' m t Ap pn path R g p i wr)
  case atStart => exact HS0.out
  case round =>
   obtain ⟨q, k, rfl, rfl, hk, hq, hwk, f, hp⟩ := hrel
   clear HS0
   have HK := hid hk
   have HWK := hid hwk
   have HQ := hid hq
   have hpnB := hpn
   clear hk hwk
   by_cases hlt : k < pn
   ·obtain ⟨b, off, s, rfl, hbb, hs, es⟩ := hp.spot hlt
    have hok := HS.out
    obtain ⟨t1, t2, t3⟩ := term_at hok hq
    have LA := hid (l1Args A A' n c m c' sg t q (len1 sg t q) wr f.s1 f.t1 hn hm hars (by rw [← HL.out]; exact hq) t1 (by rw [← HL.out]; exact t3))
    have hL3 : (argsL sg t q).length = arN sg t q := argsL_arN
    have hars3 : arN sg t q ≤ 3 := by have := ar_bd hars (t.getD q 0); unfold arN; omega
    have hz0 : ar sg (t.getD q 0) = (arN sg t q : Int) := by have := (head_scan hok hq).1; unfold arN; omega
    have HSTEP := hid (show path.drop k = s :: path.drop (k + 1) by rw [drop_step (by rw [HLP.out]; exact hlt), es.out])
    have HG : Hid (∀ j : Nat, j < arN sg t q → (argsL sg t q).getD j 0 = (argP sg t j (q + 1) : Int) ∧ argP sg t j (q + 1) < t.length) := hid (fun j hj => ⟨argsL_get hj, (arg_at hok hq hj).2.2⟩)
    obtain ⟨Ls, hLs⟩ : ∃ L, argsL sg t q = L := ⟨_, rfl⟩
    rw [hLs] at LA HG hL3
    obtain ⟨z, hz⟩ : ∃ z, arN sg t q = z := ⟨_, rfl⟩
    rw [hz] at hL3 hars3 HG hz0
    have HZ := hid hz
    have HZ0 := hid hz0
    have HL3 := hid hL3
    have cA := f.cell
    have hbs := f.size
    clear hok t1 t2 t3 hLs hz hz0 hL3 es hq
    go_wp2_with fail
    refine LA.out.mono ?_
    rintro e w2 ⟨A2, n2, c2, rfl, o2, bb⟩
    obtain rfl : n2 = z := by rw [Own.len o2, HL3.out]
    have hs2 : w2.cell? ⟨b, off + k, none⟩ = some (.int .i64 s) := (bb.cell (p := ⟨b, off + k, none⟩) (by show b < wr.heap.size; omega)).trans hs
    replace f := f.next bb
    replace hp := hp.below (bb.mono (Nat.le_of_lt hbs))
    clear LA bb cA hs hbs
    by_cases hin : 0 ≤ s ∧ s ≤ (n2 : Int) - 1
    ·obtain ⟨j, rfl⟩ := Int.eq_ofNat_of_zero_le hin.1
     have hjz : j < n2 := by omega
     obtain ⟨b2, off2, rfl, hb2, hc2⟩ := own_cell o2 (show j < n2 by omega)
     obtain ⟨g1, g2⟩ := HG.out j hjz
     rw [g1] at hc2
     have hjn : (j : Int) < (n2 : Int) := by omega
     have hIN := hid hin
     have S : HeadPl w A n c sg A' m t (some ⟨b, off, none⟩) pn path R (gk - 1) (.int .i64 (argP sg t j (q + 1) : Nat)) (.int .i64 ((k : Int) + 1)) w2 :=
      ⟨argP sg t j (q + 1), k + 1, rfl, by simp, by have := HK.out; omega, g2, by rw [← HWK.out, HSTEP.out, walk_step (by rw [HZ.out]; exact hjz)], f, hp⟩
     have HSS := hid S
     have hgk := hid (show gk - 1 < gk by have := HK.out; omega)
     generalize argP sg t j (q + 1) = y at *
     clear S f hp o2 g1 g2 hin
     go_wp2_with fail
     refine (inYes _ _ _ _ hIN.out).mono ?_
     rintro e w3 ⟨rfl, rfl⟩
     go_wp2
     go_roundg (gk - 1)
     case measure => exact hgk.out
     case rel => exact HSS.out
    ·have F := hid (show GivesI w (placeI sg t path) (.returned (.int .i64 (-1))) w2 from ⟨by rw [HR.out, ← HWK.out, HSTEP.out, walk_no (by rw [HZ0.out]; omega)], f.b⟩)
     have hIN := hid hin
     clear f hp o2 hin
     go_wp2_with fail
     refine (inNo _ _ _ _ hIN.out).mono ?_
     rintro e w3 ⟨rfl, rfl⟩
     go_wp2
     go_ret
     exact F.out
   ·have hkp : k = pn := by have := HK.out; omega
    have F := hid (show GivesI w (placeI sg t path) (.returned (.int .i64 (q : Int))) wr from ⟨by rw [HR.out, ← HWK.out, List.drop_eq_nil_of_le (by rw [HLP.out]; omega)]; rfl, f.b⟩)
    clear f hp hkp hq
    go_wp2
    go_ret
    exact F.out
def HeadPi (w : World) (P : Nat) (A : Option Addr) (n c : Nat) (A' : Option Addr) (m c' : Nat) (sg t : List Int) (Ap : Option Addr) (pn : Nat) (path : List Int) (R : Int) (g : Nat) (i : Value) (wr : World) : Prop :=
 ∃ (q k : Nat), i = .int .i64 k ∧ k + g = pn ∧ q < t.length ∧ walkI sg t q (path.drop k) = R ∧ Cur wr P A n c A' m c' sg t q ∧ Seg wr P Ap pn path ∧ Below w.heap.size w wr ∧ w.heap.size ≤ P
set_option maxHeartbeats 1000000 in
theorem implPlaceOf (A A' Ap : Option Addr) (n c m c' pn pc : Nat) (sg t path : List Int) (w : World) (h : Seg w w.heap.size A n sg) (h' : Seg w w.heap.size A' m t) (hp : Seg w w.heap.size Ap pn path) (hn : n ≤ 1048576) (hm : m ≤ 1048576) (hpn : pn ≤ 1048576) :
  Calls Try.prog 35 #[.agg #[.slice A n c], .slice A' m c', .slice Ap pn pc] w (GivesI w (placeI sg t path)) := by
 obtain ⟨W, hW⟩ : ∃ W, W = w.alloc (.cells #[.slice A n c] 26) := ⟨_, rfl⟩
 have f : Fr w W A n c sg A' m t := by rw [hW]; exact Fr.start h h'
 replace hp : Seg W W.heap.size Ap pn path := (hp.below f.b).more (Nat.le_of_lt f.size)
 have HW := hid hW
 have HL := hid h'.1
 have HLP := hid hp.1
 have L := hid (cursorAt A A' n c m c' sg t 0 W f.s1 f.t1 hn hm)
 have bel := f.b
 have hWs := f.size
 clear hW h h' f
 go_enter Try.func35, Try.ntmps35
 go_wp2_with fail
 go_step3
 go_wp2_with fail
 rw [← HW.out]
 refine L.out.mono ?_
 rintro e w1 ⟨bb, ⟨ht, P, rfl, hP, hc⟩ | ⟨ht, rfl⟩⟩
 ·obtain ⟨hok, -, hpos⟩ := there_parts ht
  have HS := hid hok
  obtain ⟨R, hR⟩ : ∃ R, walkI sg t 0 path = R := ⟨_, rfl⟩
  have HR := hid (show placeI sg t path = R by unfold placeI; rw [if_pos hok, hR])
  have hars := hc.ars
  have S0 : HeadPi w P A n c A' m c' sg t Ap pn path R pn (.int .i64 0) w1 := ⟨0, 0, rfl, by omega, by omega, hR, hc, (hp.below bb).more hP, next_trans bel bb, by omega⟩
  have HS0 := hid S0
  clear S0 bb hp hc hR ht hok hpos bel L hWs hP
  go_wp2
  go_step3
  go_wp2
  go_loopg [18] pn (fun g i wr => HeadPi w P A n c A' m c' sg t Ap pn path R g i wr)
  case atStart => exact HS0.out
  case round =>
   obtain ⟨q, k, rfl, hk, hq, hwk, hc, hp, hb, hwP⟩ := hrel
   obtain ⟨G, hG⟩ : ∃ G, G = gk := ⟨_, rfl⟩
   subst hG
   clear HS0
   have HK := hid hk
   have HWK := hid hwk
   clear hk hwk
   by_cases hlt : k < pn
   ·obtain ⟨b, off, s, rfl, hbb, hs, es⟩ := hp.spot hlt
    have hok := HS.out
    have hneg := (head_scan hok hq).1
    have hzb := ar_bd hars (t.getD q 0)
    obtain ⟨z, hz⟩ : ∃ z, arN sg t q = z := ⟨_, rfl⟩
    have hz0 : ar sg (t.getD q 0) = (z : Int) := by rw [← hz]; unfold arN; omega
    have HSTEP := hid (show path.drop k = s :: path.drop (k + 1) by rw [drop_step (by rw [HLP.out]; exact hlt), es.out])
    have HX : Hid (∀ j : Nat, j < z → scan sg 1 (t.drop (argP sg t j (q + 1))) = some (len1 sg t (argP sg t j (q + 1))) ∧ argP sg t (j + 1) (q + 1) = argP sg t j (q + 1) + len1 sg t (argP sg t j (q + 1)) ∧ argP sg t j (q + 1) < t.length) := hid (fun j hj => by
     obtain ⟨b1, b2, b3⟩ := arg_at hok hq (show j < arN sg t q by omega)
     exact ⟨(term_at hok b3).1, argP_succ _ _, b3⟩)
    have HZ := hid hz
    have HZ0 := hid hz0
    have hz3 : z ≤ 3 := by omega
    have HQL := hid hq
    have HA0 : Hid (argP sg t 0 (q + 1) = q + 1) := hid rfl
    clear hok hneg hzb hz hz0 es hq
    go_wp2_with fail
    refine (next P A n c A' m c' sg t q _ hc).mono ?_
    rintro e w2 ⟨hg, ⟨-, he, hc2⟩ | ⟨hk', -, -⟩⟩
    case inr => have := HQL.out; have := HL.out; omega
    rw [HZ0.out] at he
    subst he
    have hPw := hc.row.lt
    have hp2 := Seg.far hp hg (Nat.le_of_lt hPw) (fun j hj => by injection hj; omega)
    have hb2 := hb.grown hg (Nat.le_trans hwP (Nat.le_of_lt hPw)) (fun j hj => by injection hj; omega)
    clear hp hc hb hg hs hPw
    have HS1 := hid (show Cur w2 P A n c A' m c' sg t (argP sg t 0 (q + 1)) ∧ Seg w2 P (some ⟨b, off, none⟩) pn path ∧ Below w.heap.size w w2 from ⟨by rw [HA0.out]; exact hc2, hp2, hb2⟩)
    clear hc2 hp2 hb2
    go_wp2_with fail
    go_loopg [24] z (fun g i wr => ∃ j : Nat, i = .int .i64 j ∧ j + g = z ∧ (∀ j' : Nat, j' < j → (j' : Int) ≠ s) ∧ Cur wr P A n c A' m c' sg t (argP sg t j (q + 1)) ∧ Seg wr P (some ⟨b, off, none⟩) pn path ∧ Below w.heap.size w wr)
    case atStart => exact ⟨0, rfl, by omega, fun j' hj' => absurd hj' (Nat.not_lt_zero _), HS1.out⟩
    case round =>
     obtain ⟨j, rfl, hj, hne, hc, hp, hb⟩ := hrel
     clear HS1
     have HNE := hid hne
     have HJ := hid hj
     clear hne hj
     by_cases hjz : j < z
     ·obtain ⟨x1, x2, x3⟩ := HX.out j hjz
      have X2 := hid x2
      have X1 := hid x1
      have X3 := hid x3
      clear x1 x2 x3
      by_cases hjs : (j : Int) = s
      ·have S : HeadPi w P A n c A' m c' sg t (some ⟨b, off, none⟩) pn path R (G - 1) (.int .i64 ((k : Int) + 1)) wr :=
        ⟨argP sg t j (q + 1), k + 1, by simp, by have := HK.out; omega, X3.out, by rw [← HWK.out, HSTEP.out, ← hjs, walk_step (by rw [HZ.out]; exact hjz)], hc, hp, hb, hwP⟩
       have HSS := hid S
       have hgk := hid (show G - 1 < G by have := HK.out; omega)
       subst hjs
       clear S hc hp hb
       go_wp2
       go_roundg (G - 1)
       case measure => exact hgk.out
       case rel => exact HSS.out
      ·obtain ⟨r, hr⟩ : ∃ r, argP sg t j (q + 1) = r := ⟨_, rfl⟩
       rw [hr] at hc X1 X2
       have hd : ((j : Int) == s) = false := by simp [hjs]
       have HJS := hid hjs
       clear hjs hr
       go_wp2_with fail
       refine (pass P A n c A' m c' sg t r _ hc).mono ?_
       rintro e w5 ⟨hg5, ⟨j', hj', rfl, hc5⟩ | ⟨hj', -, -⟩⟩
       case inr => rw [X1.out] at hj'; cases hj'
       have hj2 : len1 sg t r = j' := len1_eq hj'
       have hPw := hc.row.lt
       have S := hid (show Cur w5 P A n c A' m c' sg t (argP sg t (j + 1) (q + 1)) ∧ Seg w5 P (some ⟨b, off, none⟩) pn path ∧ Below w.heap.size w w5 from ⟨by rw [X2.out, hj2]; exact hc5, Seg.far hp hg5 (Nat.le_of_lt hPw) (fun j hj => by injection hj; omega), hb.grown hg5 (Nat.le_trans hwP (Nat.le_of_lt hPw)) (fun j hj => by injection hj; omega)⟩)
       have hgk := hid (show gk - 1 < gk ∧ j + 1 + (gk - 1) = z by have := HJ.out; omega)
       clear hc hp hb hg5 hj' hc5 hj2 hPw
       go_wp2
       go_roundg (gk - 1)
       case measure => exact hgk.out.1
       case rel => exact ⟨j + 1, by simp, hgk.out.2, fun j' hj' => by
        by_cases e : j' = j
        ·subst e; exact HJS.out
        ·exact HNE.out j' (by omega), S.out⟩
     ·have F := hid (show GivesI w (placeI sg t path) (.returned (.int .i64 (-1))) wr from ⟨by
       rw [HR.out, ← HWK.out, HSTEP.out, walk_no]
       rintro ⟨e1, e2⟩
       rw [HZ0.out] at e2
       obtain ⟨jj, rfl⟩ := Int.eq_ofNat_of_zero_le e1
       exact HNE.out jj (by omega) rfl, hb⟩)
      clear hc hp hb
      go_wp2
      try rw [Exit.noGoto_ret]
      go_ret
      exact F.out
   ·have hkp : k = pn := by have := HK.out; omega
    have F := hid (show GivesI w (placeI sg t path) (.returned (.int .i64 (q : Int))) wr from ⟨by rw [HR.out, ← HWK.out, List.drop_eq_nil_of_le (by rw [HLP.out]; omega)]; rfl, hb⟩)
    have cp : wr.cell? ⟨P, 2, none⟩ = some (.int .i64 (q : Int)) := hc.row.cell 2
    clear hc hp hb hkp hq
    go_wp2
    try rw [Exit.noGoto_ret]
    go_ret
    exact F.out
 ·have hno : placeI sg t path = -1 := by
   unfold placeI
   cases hok : termOkB sg t with
   | false => rw [if_neg (by simp)]
   | true =>
    exfalso
    have h3 := (termOk_parts hok).2.2
    have h2 := scan_pos (q := 0) h3
    rw [there_yes hok (by omega) (by omega)] at ht
    cases ht
  have F := hid (show GivesI w (placeI sg t path) (.returned (.int .i64 (-1))) w1 from ⟨by rw [hno], next_trans bel bb⟩)
  clear bb L bel hp
  go_wp2
  try rw [Exit.noGoto_ret]
  go_ret
  exact F.out
end place
end
section
namespace wPlaceOf
open Go.RowKit base ints sig cursor marks app sym appAt segs segsHelp segsMark kinds term termOk endAt inside args posMath pathSpec wayTo place
set_option maxRecDepth 100000
set_option maxHeartbeats 8000000 in
theorem law (a0 : Option Addr) (n0 c0 : Nat) (xs0 : List Int) (a1 : Option Addr) (n1 c1 : Nat) (xs1 : List Int) (a2 : Option Addr) (n2 c2 : Nat) (xs2 : List Int) (w : World) (s0 : Seg w w.heap.size a0 n0 xs0) (hN0 : n0 ≤ 9223372036854775807) (s1 : Seg w w.heap.size a1 n1 xs1) (hN1 : n1 ≤ 9223372036854775807) (s2 : Seg w w.heap.size a2 n2 xs2) (hN2 : n2 ≤ 9223372036854775807) :
  Calls Try.prog 8 #[.agg #[.slice a0 n0 c0], .slice a1 n1 c1, .slice a2 n2 c2] w (Fine w) := by
 obtain ⟨W, hW⟩ : ∃ W, W = w.alloc (.cells #[.slice a0 n0 c0] 33) := ⟨_, rfl⟩
 have rA0 : Row W (w.heap.size) 33 #[.slice a0 n0 c0] := by rw [hW]; have := Row.new (w) 33 #[.slice a0 n0 c0]; simpa using this
 have bW : Below w.heap.size w W := by rw [hW]; exact (Below.refl w.heap.size w).alloc (by simp) (.cells #[.slice a0 n0 c0] 33)
 have zA0 := rA0.lt
 replace s0 := s0.next bW
 have Hl0 := Lib.hid s0.1
 replace s1 := s1.next bW
 have Hl1 := Lib.hid s1.1
 replace s2 := s2.next bW
 have Hl2 := Lib.hid s2.1
 have HW := Lib.hid hW
 clear hW
 obtain ⟨v, hv⟩ : ∃ v, placeI xs0 xs1 xs2 = v := ⟨_, rfl⟩
 have HV := Lib.hid hv
 clear hv
 have ev : (v != v) = false := by simp
 by_cases h1 : n1 ≤ 1048576
 case neg =>
  go_enter Try.func8, Try.ntmps8
  go_wp2_with fail
  rw [← HW.out]
  go_ret
  exact ⟨rfl, bW⟩
 by_cases h2 : n2 ≤ 1048576
 case neg =>
  go_enter Try.func8, Try.ntmps8
  go_wp2_with fail
  rw [← HW.out]
  go_ret
  exact ⟨rfl, bW⟩
 go_enter Try.func8, Try.ntmps8
 go_wp2_with fail
 rw [← HW.out]
 clear HW
 have bel := Below.refl W.heap.size W
 have cA0 : W.cell? ⟨w.heap.size, 0, none⟩ = some (.slice a0 n0 c0) := (rA0.next bel).cell 0
 refine (szSig _ _ _ (1048576) _ hN0 (by omega) (by omega)).mono ?_
 rintro e w1 ⟨he, bb⟩
 replace bel := next_trans bel bb
 have zw1 := bb.size
 clear bb
 by_cases q0 : n0 ≤ 1048576
 case neg =>
  rw [if_pos (by omega)] at he
  subst he
  have F := Lib.hid (bW.trans (bel.mono bW.size))
  clear bel bW cA0
  go_wp2
  go_ret
  exact ⟨rfl, F.out⟩
 rw [if_neg (by omega)] at he
 subst he
 have h0 : n0 ≤ 1048576 := by omega
 clear cA0
 have cA0 : w1.cell? ⟨w.heap.size, 0, none⟩ = some (.slice a0 n0 c0) := (rA0.next bel).cell 0
 go_wp2_with fail
 refine (sigTo _ _ _ xs0 _ (s0.next bel) h0).mono ?_
 rintro e w2 ⟨gp0, rfl, op0, yp0, bb⟩
 replace bel := next_trans bel bb
 have zw2 := bb.size
 clear bb
 clear cA0
 have cA0 : w2.cell? ⟨w.heap.size, 0, none⟩ = some (.slice a0 n0 c0) := (rA0.next bel).cell 0
 go_wp2_with fail
 refine (intsTo _ _ _ xs1 _ (s1.next bel) h1).mono ?_
 rintro e w3 ⟨gp1, rfl, op1, yp1, bb⟩
 replace op0 := op0.next bb
 replace bel := next_trans bel bb
 have zw3 := bb.size
 clear bb
 clear cA0
 have cA0 : w3.cell? ⟨w.heap.size, 0, none⟩ = some (.slice a0 n0 c0) := (rA0.next bel).cell 0
 go_wp2_with fail
 refine (intsTo _ _ _ xs2 _ (s2.next bel) h2).mono ?_
 rintro e w4 ⟨gp2, rfl, op2, yp2, bb⟩
 replace op0 := op0.next bb
 replace op1 := op1.next bb
 replace bel := next_trans bel bb
 have zw4 := bb.size
 clear bb
 clear cA0
 have cA0 : w4.cell? ⟨w.heap.size, 0, none⟩ = some (.slice a0 n0 c0) := (rA0.next bel).cell 0
 go_wp2_with fail
 refine (specPlaceOf _ _ _ _ _ _ _ _ _ xs0 xs1 xs2 _ op0.rd op1.rd op2.rd h0 h1 h2).mono ?_
 rintro e w5 ⟨he, bb⟩
 rw [HV.out] at he
 subst he
 replace op0 := op0.next bb
 replace op1 := op1.next bb
 replace op2 := op2.next bb
 replace bel := next_trans bel bb
 have zw5 := bb.size
 clear bb
 clear op0 op1 op2
 clear cA0
 have cA0 : w5.cell? ⟨w.heap.size, 0, none⟩ = some (.slice a0 n0 c0) := (rA0.next bel).cell 0
 clear cA0
 have cA0 : w5.cell? ⟨w.heap.size, 0, none⟩ = some (.slice a0 n0 c0) := (rA0.next bel).cell 0
 go_wp2_with fail
 refine (sigTo _ _ _ xs0 _ (s0.next bel) h0).mono ?_
 rintro e w6 ⟨gx0, rfl, ox0, yx0, bb⟩
 replace bel := next_trans bel bb
 have zw6 := bb.size
 clear bb
 clear cA0
 have cA0 : w6.cell? ⟨w.heap.size, 0, none⟩ = some (.slice a0 n0 c0) := (rA0.next bel).cell 0
 have dA0 : (w6.alloc (.cells #[.slice (some ⟨gx0, 0, none⟩) n0 n0] 26)).cell? ⟨w.heap.size, 0, none⟩ = some (.slice a0 n0 c0) := ((rA0.next bel).alloc _).cell 0
 go_wp2_with fail
 obtain ⟨w7, hw⟩ : ∃ W, W = w6.alloc (.cells #[.slice (some ⟨gx0, 0, none⟩) n0 n0] 26) := ⟨_, rfl⟩
 rw [← hw]
 have rx0 : Row w7 w6.heap.size 26 #[.slice (some ⟨gx0, 0, none⟩) n0 n0] := by rw [hw]; exact Row.new _ _ _
 have bb : Below w6.heap.size w6 w7 := by rw [hw]; exact (Below.refl _ _).alloc (Nat.le_refl _) _
 have yrx0 : w6.heap.size < w7.heap.size := by rw [hw]; simp
 clear hw
 replace ox0 := ox0.next bb
 replace bel := next_trans bel bb
 have zw7 := bb.size
 clear bb
 clear dA0
 clear cA0
 have cA0 : w7.cell? ⟨w.heap.size, 0, none⟩ = some (.slice a0 n0 c0) := (rA0.next bel).cell 0
 have cx0 : w7.cell? ⟨w6.heap.size, 0, none⟩ = some (.slice (some ⟨gx0, 0, none⟩) n0 n0) := (rx0).cell 0
 refine (intsTo _ _ _ xs1 _ (s1.next bel) h1).mono ?_
 rintro e w8 ⟨gx1, rfl, ox1, yx1, bb⟩
 replace ox0 := ox0.next bb
 replace rx0 := rx0.next bb
 replace bel := next_trans bel bb
 have zw8 := bb.size
 clear bb
 clear cA0 cx0
 have cA0 : w8.cell? ⟨w.heap.size, 0, none⟩ = some (.slice a0 n0 c0) := (rA0.next bel).cell 0
 have cx0 : w8.cell? ⟨w6.heap.size, 0, none⟩ = some (.slice (some ⟨gx0, 0, none⟩) n0 n0) := (rx0).cell 0
 go_wp2_with fail
 refine (intsTo _ _ _ xs2 _ (s2.next bel) h2).mono ?_
 rintro e w9 ⟨gx2, rfl, ox2, yx2, bb⟩
 replace ox0 := ox0.next bb
 replace rx0 := rx0.next bb
 replace ox1 := ox1.next bb
 replace bel := next_trans bel bb
 have zw9 := bb.size
 clear bb
 clear cA0 cx0
 have cA0 : w9.cell? ⟨w.heap.size, 0, none⟩ = some (.slice a0 n0 c0) := (rA0.next bel).cell 0
 have cx0 : w9.cell? ⟨w6.heap.size, 0, none⟩ = some (.slice (some ⟨gx0, 0, none⟩) n0 n0) := (rx0).cell 0
 go_wp2_with fail
 refine (implPlaceOf _ _ _ _ _ _ _ _ _ xs0 xs1 xs2 _ ox0.rd ox1.rd ox2.rd h0 h1 h2).mono ?_
 rintro e w10 ⟨he, bb⟩
 rw [HV.out] at he
 subst he
 replace ox0 := ox0.next bb
 replace rx0 := rx0.next bb
 replace ox1 := ox1.next bb
 replace ox2 := ox2.next bb
 replace bel := next_trans bel bb
 have zw10 := bb.size
 clear bb
 clear cA0 cx0
 have cA0 : w10.cell? ⟨w.heap.size, 0, none⟩ = some (.slice a0 n0 c0) := (rA0.next bel).cell 0
 have cx0 : w10.cell? ⟨w6.heap.size, 0, none⟩ = some (.slice (some ⟨gx0, 0, none⟩) n0 n0) := (rx0).cell 0
 go_wp2_with fail
 replace ox0 := ox0.drew
 replace rx0 := rx0.drew
 replace ox1 := ox1.drew
 replace ox2 := ox2.drew
 replace bel := bel.drew
 have zdw10 := (drew_below w10).size
 go_region_held3 (fun w' => w'.cell? ⟨w6.heap.size, 0, none⟩ = some (.slice (some ⟨gx0, 0, none⟩) n0 n0) ∧ w'.cell? ⟨w.heap.size, 0, none⟩ = some (.slice a0 n0 c0))
  (go_keep)
  (first
   | (go_at_call 24; refine (sigTo _ _ _ xs0 _ (s0.next bel) h0).mono ?_; rintro e w11 ⟨gt0, rfl, ot, yt0, bb⟩; replace ox0 := ox0.next bb; replace rx0 := rx0.next bb; replace ox1 := ox1.next bb; replace ox2 := ox2.next bb; replace bel := next_trans bel bb; have k0w11 : w11.cell? ⟨w.heap.size, 0, none⟩ = some (.slice a0 n0 c0) := (rA0.next bel).cell 0; have l0w11 : w11.cell? ⟨w6.heap.size, 0, none⟩ = some (.slice (some ⟨gx0, 0, none⟩) n0 n0) := rx0.cell 0; have zqw11 := bb.size; clear bb)
   | (go_at_call 27; refine (sigEq _ _ _ _ _ _ xs0 _ ox0.rd ot.rd h0).mono ?_; rintro e w12 ⟨rfl, bb⟩; replace ox0 := ox0.next bb; replace rx0 := rx0.next bb; replace ox1 := ox1.next bb; replace ox2 := ox2.next bb; replace bel := next_trans bel bb; have k0w12 : w12.cell? ⟨w.heap.size, 0, none⟩ = some (.slice a0 n0 c0) := (rA0.next bel).cell 0; have l0w12 : w12.cell? ⟨w6.heap.size, 0, none⟩ = some (.slice (some ⟨gx0, 0, none⟩) n0 n0) := rx0.cell 0; have zqw12 := bb.size; clear bb ot))
 clear k0w11 l0w11 k0w12 l0w12
 clear ox0 rx0
 clear cA0 cx0
 have cA0 : w12.cell? ⟨w.heap.size, 0, none⟩ = some (.slice a0 n0 c0) := (rA0.next bel).cell 0
 go_wp2_with fail
 refine (intsTo _ _ _ xs1 _ (s1.next bel) h1).mono ?_
 rintro e w13 ⟨gt1, rfl, ot1, yt1, bb⟩
 replace ox1 := ox1.next bb
 replace ox2 := ox2.next bb
 replace bel := next_trans bel bb
 have zw13 := bb.size
 clear bb
 clear cA0
 have cA0 : w13.cell? ⟨w.heap.size, 0, none⟩ = some (.slice a0 n0 c0) := (rA0.next bel).cell 0
 go_wp2_with fail
 refine (intsEq _ _ _ _ _ _ xs1 _ ox1.rd ot1.rd h1).mono ?_
 rintro e w14 ⟨rfl, bb⟩
 replace ox1 := ox1.next bb
 replace ox2 := ox2.next bb
 replace ot1 := ot1.next bb
 replace bel := next_trans bel bb
 have zw14 := bb.size
 clear bb
 clear ot1 ox1
 clear cA0
 have cA0 : w14.cell? ⟨w.heap.size, 0, none⟩ = some (.slice a0 n0 c0) := (rA0.next bel).cell 0
 go_wp2_with fail
 refine (intsTo _ _ _ xs2 _ (s2.next bel) h2).mono ?_
 rintro e w15 ⟨gt2, rfl, ot2, yt2, bb⟩
 replace ox2 := ox2.next bb
 replace bel := next_trans bel bb
 have zw15 := bb.size
 clear bb
 clear cA0
 have cA0 : w15.cell? ⟨w.heap.size, 0, none⟩ = some (.slice a0 n0 c0) := (rA0.next bel).cell 0
 go_wp2_with fail
 refine (intsEq _ _ _ _ _ _ xs2 _ ox2.rd ot2.rd h2).mono ?_
 rintro e w16 ⟨rfl, bb⟩
 replace ox2 := ox2.next bb
 replace ot2 := ot2.next bb
 replace bel := next_trans bel bb
 have zw16 := bb.size
 clear bb
 clear ot2 ox2
 clear cA0
 have cA0 : w16.cell? ⟨w.heap.size, 0, none⟩ = some (.slice a0 n0 c0) := (rA0.next bel).cell 0
 have F := Lib.hid (bW.trans (bel.mono bW.size))
 clear bel bW cA0
 go_wp2
 go_ret
 exact ⟨rfl, F.out⟩
end wPlaceOf
end
end Go.Proofs.Ytfclafbdbdmlhaa
