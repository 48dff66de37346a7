/-
  MERGED: my texts Place, Deep, WDeepestOf, one behind the other, as they are. By an AI agent.
-/
import Derived.Test.YtobifgobipcmdaaMFnExactDeepestOf2
import Derived.Deep.RegionHeld3
section
/-
  CONTRACTS: spec.PlaceOf, impl.PlaceOf. Conditions: the slices read as lists ('Seg'), at most 1048576 numbers. By an AI agent.
-/
namespace Go.Proofs.Ytobifgobipcmdaa.place
open Go.RowKit Go.Proofs.Ytobifgobipcmdaa.base Go.Proofs.Ytobifgobipcmdaa.ints Go.Proofs.Ytobifgobipcmdaa.sig Go.Proofs.Ytobifgobipcmdaa.term Go.Proofs.Ytobifgobipcmdaa.arity Go.Proofs.Ytobifgobipcmdaa.endOf Go.Proofs.Ytobifgobipcmdaa.cursor Go.Proofs.Ytobifgobipcmdaa.termOk Go.Proofs.Ytobifgobipcmdaa.endAt Go.Proofs.Ytobifgobipcmdaa.inside Go.Proofs.Ytobifgobipcmdaa.marks Go.Proofs.Ytobifgobipcmdaa.app Go.Proofs.Ytobifgobipcmdaa.appAt Go.Proofs.Ytobifgobipcmdaa.sym Go.Proofs.Ytobifgobipcmdaa.args Go.Proofs.Ytobifgobipcmdaa.posMath Go.Proofs.Ytobifgobipcmdaa.pathSpec Go.Proofs.Ytobifgobipcmdaa.wayTo
set_option maxRecDepth 100000

def placeI (sg t path : List Int) : Int := if termOkB sg t = true then walkI sg t 0 path else -1
def GivesI (w : World) (v : Int) (e : Ending) (w' : World) : Prop := e = .returned (.int .i64 v) ∧ Below w.heap.size w w'
theorem drop_step {path : List Int} {i : Nat} (h : i < path.length) : path.drop i = path.getD i 0 :: path.drop (i + 1) := drop_cons h

/-- so far: at place q, i steps of the path made -/
def HeadPl (w : World) (A : Option Addr) (n c : Nat) (sg : List Int) (A' : Option Addr) (m : Nat) (t : List Int) (Ap : Option Addr) (pn : Nat) (path : List Int) (R : Int) (g : Nat) (p i : Value) (wr : World) : Prop :=
  ∃ (q k : Nat), p = .int .i64 q ∧ i = .int .i64 k ∧ k + g = pn ∧ q < t.length ∧ walkI sg t q (path.drop k) = R ∧ Fr w wr A n c sg A' m t ∧ Seg wr w.heap.size Ap pn path

set_option maxHeartbeats 1000000 in
theorem specPlaceOf (A A' Ap : Option Addr) (n c m c' pn pc : Nat) (sg t path : List Int) (w : World) (h : Seg w w.heap.size A n sg) (h' : Seg w w.heap.size A' m t) (hp : Seg w w.heap.size Ap pn path) (hn : n ≤ 1048576) (hm : m ≤ 1048576) (hpn : pn ≤ 1048576) :
    Calls Try.prog 27 #[.agg #[.slice A n c], .slice A' m c', .slice Ap pn pc] w (GivesI w (placeI sg t path)) := by
  obtain ⟨W, hW⟩ : ∃ W, W = w.alloc (.cells #[.slice A n c] 26) := ⟨_, rfl⟩
  have f : Fr w W A n c sg A' m t := by rw [hW]; exact Fr.start h h'
  replace hp : Seg W w.heap.size Ap pn path := hp.below f.b
  have HW := Lib.hid hW
  have HL := Lib.hid h'.1
  have HLP := Lib.hid hp.1
  have L := Lib.hid (specTermOk A A' n c m c' sg t W f.s1 f.t1 hn hm)
  clear hW h h'
  cases hok : termOkB sg t with
  | false =>
    have HS := Lib.hid hok
    have HR := Lib.hid (show placeI sg t path = -1 by unfold placeI; rw [if_neg (by rw [hok]; simp)])
    clear hok hp
    go_enter Try.func27, Try.ntmps27
    go_wp2_with fail
    rw [← HW.out]
    refine L.out.mono ?_
    rintro e w1 ⟨he, bb⟩
    rw [HS.out] at he
    subst he
    have F := Lib.hid (show GivesI w (placeI sg t path) (.returned (.int .i64 (-1))) w1 from ⟨by rw [HR.out], (f.next bb).b⟩)
    clear f L bb
    go_wp2
    go_ret
    exact F.out
  | true =>
    have HS := Lib.hid hok
    have HR := Lib.hid (show placeI sg t path = walkI sg t 0 path by unfold placeI; rw [if_pos hok])
    have h60 := (termOk_parts hok).2.1
    have h1 := (root_len hok)
    have hpos : 0 < t.length := by
      by_cases e : 0 < t.length
      · exact e
      · have h3 := (termOk_parts hok).2.2
        have h2 := scan_pos (q := 0) h3
        omega
    obtain ⟨R, hR⟩ : ∃ R, walkI sg t 0 path = R := ⟨_, rfl⟩
    rw [hR] at HR
    have hars := (sig_arities (termOk_parts hok).1).1
    go_enter Try.func27, Try.ntmps27
    go_wp2_with fail
    rw [← HW.out]
    refine L.out.mono ?_
    rintro e w1 ⟨he, bb⟩
    rw [HS.out] at he
    subst he
    have bw : Below w.heap.size W w1 := bb.mono (Nat.le_of_lt f.size)
    have S0 : HeadPl w A n c sg A' m t Ap pn path R pn (.int .i64 0) (.int .i64 0) w1 := ⟨0, 0, rfl, rfl, by omega, hpos, hR, f.next bb, hp.below bw⟩
    have HS0 := Lib.hid S0
    clear S0 f bb bw hp L hR h1 hpos hok h60
    go_wp2_with fail
    go_loopg [7, 8] pn (fun g p i wr => HeadPl w A n c sg A' m t Ap pn path R g p i wr)
    case atStart => exact HS0.out
    case round =>
      obtain ⟨q, k, rfl, rfl, hk, hq, hwk, f, hp⟩ := hrel
      clear HS0
      have HK := Lib.hid hk
      have HWK := Lib.hid hwk
      have HQ := Lib.hid hq
      have hpnB := hpn
      clear hk hwk
      by_cases hlt : k < pn
      · obtain ⟨b, off, s, rfl, hbb, hs, es⟩ := hp.spot hlt
        have hok := HS.out
        obtain ⟨t1, t2, t3⟩ := term_at hok hq
        have LA := Lib.hid (l1Args A A' n c m c' sg t q (len1 sg t q) wr f.s1 f.t1 hn hm hars (by rw [← HL.out]; exact hq) t1 (by rw [← HL.out]; exact t3))
        have hL3 : (argsL sg t q).length = arN sg t q := argsL_arN
        have hars3 : arN sg t q ≤ 3 := by have := ar_bd hars (t.getD q 0); unfold arN; omega
        have hz0 : ar sg (t.getD q 0) = (arN sg t q : Int) := by have := (head_scan hok hq).1; unfold arN; omega
        have HSTEP := Lib.hid (show path.drop k = s :: path.drop (k + 1) by rw [drop_step (by rw [HLP.out]; exact hlt), es.out])
        have HG : Hid (∀ j : Nat, j < arN sg t q → (argsL sg t q).getD j 0 = (argP sg t j (q + 1) : Int) ∧ argP sg t j (q + 1) < t.length) := Lib.hid (fun j hj => ⟨argsL_get hj, (arg_at hok hq hj).2.2⟩)
        obtain ⟨Ls, hLs⟩ : ∃ L, argsL sg t q = L := ⟨_, rfl⟩
        rw [hLs] at LA HG hL3
        obtain ⟨z, hz⟩ : ∃ z, arN sg t q = z := ⟨_, rfl⟩
        rw [hz] at hL3 hars3 HG hz0
        have HZ := Lib.hid hz
        have HZ0 := Lib.hid hz0
        have HL3 := Lib.hid hL3
        have cA := f.cell
        have hbs := f.size
        clear hok t1 t2 t3 hLs hz hz0 hL3 es hq
        go_wp2_with fail
        refine LA.out.mono ?_
        rintro e w2 ⟨A2, n2, c2, rfl, o2, bb⟩
        obtain rfl : n2 = z := by rw [Own.len o2, HL3.out]
        have hs2 : w2.cell? ⟨b, off + k, none⟩ = some (.int .i64 s) := (bb.cell (p := ⟨b, off + k, none⟩) (by show b < wr.heap.size; omega)).trans hs
        replace f := f.next bb
        replace hp := hp.below (bb.mono (Nat.le_of_lt hbs))
        clear LA bb cA hs hbs
        by_cases hin : 0 ≤ s ∧ s ≤ (n2 : Int) - 1
        · obtain ⟨j, rfl⟩ := Int.eq_ofNat_of_zero_le hin.1
          have hjz : j < n2 := by omega
          obtain ⟨b2, off2, rfl, hb2, hc2⟩ := own_cell o2 (show j < n2 by omega)
          obtain ⟨g1, g2⟩ := HG.out j hjz
          rw [g1] at hc2
          have hjn : (j : Int) < (n2 : Int) := by omega
          have hIN := Lib.hid hin
          have S : HeadPl w A n c sg A' m t (some ⟨b, off, none⟩) pn path R (gk - 1) (.int .i64 (argP sg t j (q + 1) : Nat)) (.int .i64 ((k : Int) + 1)) w2 :=
            ⟨argP sg t j (q + 1), k + 1, rfl, by simp, by have := HK.out; omega, g2, by rw [← HWK.out, HSTEP.out, walk_step (by rw [HZ.out]; exact hjz)], f, hp⟩
          have HSS := Lib.hid S
          have hgk := Lib.hid (show gk - 1 < gk by have := HK.out; omega)
          generalize argP sg t j (q + 1) = y at *
          clear S f hp o2 g1 g2 hin
          go_wp2_with fail
          refine (inYes _ _ _ _ hIN.out).mono ?_
          rintro e w3 ⟨rfl, rfl⟩
          go_wp2
          go_roundg (gk - 1)
          case measure => exact hgk.out
          case rel => exact HSS.out
        · have F := Lib.hid (show GivesI w (placeI sg t path) (.returned (.int .i64 (-1))) w2 from ⟨by rw [HR.out, ← HWK.out, HSTEP.out, walk_no (by rw [HZ0.out]; omega)], f.b⟩)
          have hIN := Lib.hid hin
          clear f hp o2 hin
          go_wp2_with fail
          refine (inNo _ _ _ _ hIN.out).mono ?_
          rintro e w3 ⟨rfl, rfl⟩
          go_wp2
          go_ret
          exact F.out
      · have hkp : k = pn := by have := HK.out; omega
        have F := Lib.hid (show GivesI w (placeI sg t path) (.returned (.int .i64 (q : Int))) wr from ⟨by rw [HR.out, ← HWK.out, List.drop_eq_nil_of_le (by rw [HLP.out]; omega)]; rfl, f.b⟩)
        clear f hp hkp hq
        go_wp2
        go_ret
        exact F.out
/-- so far: the cursor at q, k steps of the path made -/
def HeadPi (w : World) (P : Nat) (A : Option Addr) (n c : Nat) (A' : Option Addr) (m c' : Nat) (sg t : List Int) (Ap : Option Addr) (pn : Nat) (path : List Int) (R : Int) (g : Nat) (i : Value) (wr : World) : Prop :=
  ∃ (q k : Nat), i = .int .i64 k ∧ k + g = pn ∧ q < t.length ∧ walkI sg t q (path.drop k) = R ∧ Cur wr P A n c A' m c' sg t q ∧ Seg wr P Ap pn path ∧ Below w.heap.size w wr ∧ w.heap.size ≤ P

set_option maxHeartbeats 1000000 in
theorem implPlaceOf (A A' Ap : Option Addr) (n c m c' pn pc : Nat) (sg t path : List Int) (w : World) (h : Seg w w.heap.size A n sg) (h' : Seg w w.heap.size A' m t) (hp : Seg w w.heap.size Ap pn path) (hn : n ≤ 1048576) (hm : m ≤ 1048576) (hpn : pn ≤ 1048576) :
    Calls Try.prog 20 #[.agg #[.slice A n c], .slice A' m c', .slice Ap pn pc] w (GivesI w (placeI sg t path)) := by
  obtain ⟨W, hW⟩ : ∃ W, W = w.alloc (.cells #[.slice A n c] 26) := ⟨_, rfl⟩
  have f : Fr w W A n c sg A' m t := by rw [hW]; exact Fr.start h h'
  replace hp : Seg W W.heap.size Ap pn path := (hp.below f.b).more (Nat.le_of_lt f.size)
  have HW := Lib.hid hW
  have HL := Lib.hid h'.1
  have HLP := Lib.hid hp.1
  have L := Lib.hid (cursorAt A A' n c m c' sg t 0 W f.s1 f.t1 hn hm)
  have bel := f.b
  have hWs := f.size
  clear hW h h' f
  go_enter Try.func20, Try.ntmps20
  go_wp2_with fail
  go_step3
  go_wp2_with fail
  rw [← HW.out]
  refine L.out.mono ?_
  rintro e w1 ⟨bb, ⟨ht, P, rfl, hP, hc⟩ | ⟨ht, rfl⟩⟩
  · obtain ⟨hok, -, hpos⟩ := there_parts ht
    have HS := Lib.hid hok
    obtain ⟨R, hR⟩ : ∃ R, walkI sg t 0 path = R := ⟨_, rfl⟩
    have HR := Lib.hid (show placeI sg t path = R by unfold placeI; rw [if_pos hok, hR])
    have hars := hc.ars
    have S0 : HeadPi w P A n c A' m c' sg t Ap pn path R pn (.int .i64 0) w1 := ⟨0, 0, rfl, by omega, by omega, hR, hc, (hp.below bb).more hP, next_trans bel bb, by omega⟩
    have HS0 := Lib.hid S0
    clear S0 bb hp hc hR ht hok hpos bel L hWs hP
    go_wp2
    go_step3
    go_wp2
    go_loopg [18] pn (fun g i wr => HeadPi w P A n c A' m c' sg t Ap pn path R g i wr)
    case atStart => exact HS0.out
    case round =>
      obtain ⟨q, k, rfl, hk, hq, hwk, hc, hp, hb, hwP⟩ := hrel
      obtain ⟨G, hG⟩ : ∃ G, G = gk := ⟨_, rfl⟩
      subst hG
      clear HS0
      have HK := Lib.hid hk
      have HWK := Lib.hid hwk
      clear hk hwk
      by_cases hlt : k < pn
      · obtain ⟨b, off, s, rfl, hbb, hs, es⟩ := hp.spot hlt
        have hok := HS.out
        have hneg := (head_scan hok hq).1
        have hzb := ar_bd hars (t.getD q 0)
        obtain ⟨z, hz⟩ : ∃ z, arN sg t q = z := ⟨_, rfl⟩
        have hz0 : ar sg (t.getD q 0) = (z : Int) := by rw [← hz]; unfold arN; omega
        have HSTEP := Lib.hid (show path.drop k = s :: path.drop (k + 1) by rw [drop_step (by rw [HLP.out]; exact hlt), es.out])
        have HX : Hid (∀ j : Nat, j < z → scan sg 1 (t.drop (argP sg t j (q + 1))) = some (len1 sg t (argP sg t j (q + 1))) ∧ argP sg t (j + 1) (q + 1) = argP sg t j (q + 1) + len1 sg t (argP sg t j (q + 1)) ∧ argP sg t j (q + 1) < t.length) := Lib.hid (fun j hj => by
          obtain ⟨b1, b2, b3⟩ := arg_at hok hq (show j < arN sg t q by omega)
          exact ⟨(term_at hok b3).1, argP_succ _ _, b3⟩)
        have HZ := Lib.hid hz
        have HZ0 := Lib.hid hz0
        have hz3 : z ≤ 3 := by omega
        have HQL := Lib.hid hq
        have HA0 : Hid (argP sg t 0 (q + 1) = q + 1) := Lib.hid rfl
        clear hok hneg hzb hz hz0 es hq
        go_wp2_with fail
        refine (next P A n c A' m c' sg t q _ hc).mono ?_
        rintro e w2 ⟨hg, ⟨-, he, hc2⟩ | ⟨hk', -, -⟩⟩
        case inr => have := HQL.out; have := HL.out; omega
        rw [HZ0.out] at he
        subst he
        have hPw := hc.row.lt
        have hp2 := Seg.far hp hg (Nat.le_of_lt hPw) (fun j hj => by injection hj; omega)
        have hb2 := hb.grown hg (Nat.le_trans hwP (Nat.le_of_lt hPw)) (fun j hj => by injection hj; omega)
        clear hp hc hb hg hs hPw
        have HS1 := Lib.hid (show Cur w2 P A n c A' m c' sg t (argP sg t 0 (q + 1)) ∧ Seg w2 P (some ⟨b, off, none⟩) pn path ∧ Below w.heap.size w w2 from ⟨by rw [HA0.out]; exact hc2, hp2, hb2⟩)
        clear hc2 hp2 hb2
        go_wp2_with fail
        go_loopg [24] z (fun g i wr => ∃ j : Nat, i = .int .i64 j ∧ j + g = z ∧ (∀ j' : Nat, j' < j → (j' : Int) ≠ s) ∧ Cur wr P A n c A' m c' sg t (argP sg t j (q + 1)) ∧ Seg wr P (some ⟨b, off, none⟩) pn path ∧ Below w.heap.size w wr)
        case atStart => exact ⟨0, rfl, by omega, fun j' hj' => absurd hj' (Nat.not_lt_zero _), HS1.out⟩
        case round =>
          obtain ⟨j, rfl, hj, hne, hc, hp, hb⟩ := hrel
          clear HS1
          have HNE := Lib.hid hne
          have HJ := Lib.hid hj
          clear hne hj
          by_cases hjz : j < z
          · obtain ⟨x1, x2, x3⟩ := HX.out j hjz
            have X2 := Lib.hid x2
            have X1 := Lib.hid x1
            have X3 := Lib.hid x3
            clear x1 x2 x3
            by_cases hjs : (j : Int) = s
            · have S : HeadPi w P A n c A' m c' sg t (some ⟨b, off, none⟩) pn path R (G - 1) (.int .i64 ((k : Int) + 1)) wr :=
                ⟨argP sg t j (q + 1), k + 1, by simp, by have := HK.out; omega, X3.out, by rw [← HWK.out, HSTEP.out, ← hjs, walk_step (by rw [HZ.out]; exact hjz)], hc, hp, hb, hwP⟩
              have HSS := Lib.hid S
              have hgk := Lib.hid (show G - 1 < G by have := HK.out; omega)
              subst hjs
              clear S hc hp hb
              go_wp2
              go_roundg (G - 1)
              case measure => exact hgk.out
              case rel => exact HSS.out
            · obtain ⟨r, hr⟩ : ∃ r, argP sg t j (q + 1) = r := ⟨_, rfl⟩
              rw [hr] at hc X1 X2
              have hd : ((j : Int) == s) = false := by simp [hjs]
              have HJS := Lib.hid hjs
              clear hjs hr
              go_wp2_with fail
              refine (pass P A n c A' m c' sg t r _ hc).mono ?_
              rintro e w5 ⟨hg5, ⟨j', hj', rfl, hc5⟩ | ⟨hj', -, -⟩⟩
              case inr => rw [X1.out] at hj'; cases hj'
              have hj2 : len1 sg t r = j' := len1_eq hj'
              have hPw := hc.row.lt
              have S := Lib.hid (show Cur w5 P A n c A' m c' sg t (argP sg t (j + 1) (q + 1)) ∧ Seg w5 P (some ⟨b, off, none⟩) pn path ∧ Below w.heap.size w w5 from ⟨by rw [X2.out, hj2]; exact hc5, Seg.far hp hg5 (Nat.le_of_lt hPw) (fun j hj => by injection hj; omega), hb.grown hg5 (Nat.le_trans hwP (Nat.le_of_lt hPw)) (fun j hj => by injection hj; omega)⟩)
              have hgk := Lib.hid (show gk - 1 < gk ∧ j + 1 + (gk - 1) = z by have := HJ.out; omega)
              clear hc hp hb hg5 hj' hc5 hj2 hPw
              go_wp2
              go_roundg (gk - 1)
              case measure => exact hgk.out.1
              case rel => exact ⟨j + 1, by simp, hgk.out.2, fun j' hj' => by
                by_cases e : j' = j
                · subst e; exact HJS.out
                · exact HNE.out j' (by omega), S.out⟩
          · have F := Lib.hid (show GivesI w (placeI sg t path) (.returned (.int .i64 (-1))) wr from ⟨by
              rw [HR.out, ← HWK.out, HSTEP.out, walk_no]
              rintro ⟨e1, e2⟩
              rw [HZ0.out] at e2
              obtain ⟨jj, rfl⟩ := Int.eq_ofNat_of_zero_le e1
              exact HNE.out jj (by omega) rfl, hb⟩)
            clear hc hp hb
            go_wp2
            try rw [Exit.noGoto_ret]
            go_ret
            exact F.out
      · have hkp : k = pn := by have := HK.out; omega
        have F := Lib.hid (show GivesI w (placeI sg t path) (.returned (.int .i64 (q : Int))) wr from ⟨by rw [HR.out, ← HWK.out, List.drop_eq_nil_of_le (by rw [HLP.out]; omega)]; rfl, hb⟩)
        have cp : wr.cell? ⟨P, 2, none⟩ = some (.int .i64 (q : Int)) := hc.row.cell 2
        clear hc hp hb hkp hq
        go_wp2
        try rw [Exit.noGoto_ret]
        go_ret
        exact F.out
  · have hno : placeI sg t path = -1 := by
      unfold placeI
      cases hok : termOkB sg t with
      | false => rw [if_neg (by simp)]
      | true =>
        exfalso
        have h3 := (termOk_parts hok).2.2
        have h2 := scan_pos (q := 0) h3
        rw [there_yes hok (by omega) (by omega)] at ht
        cases ht
    have F := Lib.hid (show GivesI w (placeI sg t path) (.returned (.int .i64 (-1))) w1 from ⟨by rw [hno], next_trans bel bb⟩)
    clear bb L bel hp
    go_wp2
    try rw [Exit.noGoto_ret]
    go_ret
    exact F.out
end Go.Proofs.Ytobifgobipcmdaa.place
end

section
/-
  CONTRACTS: spec.DeepestOf, impl.DeepestOf. Conditions: the slices read as lists ('Seg'), at most 1048576 numbers. By an AI agent.
-/
namespace Go.Proofs.Ytobifgobipcmdaa.deep
open Go.RowKit Go.Proofs.Ytobifgobipcmdaa.base Go.Proofs.Ytobifgobipcmdaa.ints Go.Proofs.Ytobifgobipcmdaa.sig Go.Proofs.Ytobifgobipcmdaa.term Go.Proofs.Ytobifgobipcmdaa.arity Go.Proofs.Ytobifgobipcmdaa.endOf Go.Proofs.Ytobifgobipcmdaa.cursor Go.Proofs.Ytobifgobipcmdaa.termOk Go.Proofs.Ytobifgobipcmdaa.endAt Go.Proofs.Ytobifgobipcmdaa.inside Go.Proofs.Ytobifgobipcmdaa.marks Go.Proofs.Ytobifgobipcmdaa.app Go.Proofs.Ytobifgobipcmdaa.appAt Go.Proofs.Ytobifgobipcmdaa.sym Go.Proofs.Ytobifgobipcmdaa.args Go.Proofs.Ytobifgobipcmdaa.posMath Go.Proofs.Ytobifgobipcmdaa.pathSpec Go.Proofs.Ytobifgobipcmdaa.wayTo Go.Proofs.Ytobifgobipcmdaa.place
set_option maxRecDepth 100000

def deepI (sg t : List Int) : Int := if termOkB sg t = true then (deepN sg t t.length : Nat) else -1
theorem deep_no {sg t : List Int} (h : termOkB sg t = false) : deepI sg t = -1 := by unfold deepI; rw [if_neg (by rw [h]; simp)]
theorem deep_yes {sg t : List Int} (h : termOkB sg t = true) : deepI sg t = (deepN sg t t.length : Nat) := by unfold deepI; rw [if_pos h]
theorem way_pl {sg t : List Int} (hok : termOkB sg t = true) {a : Nat} (ha : a < t.length) : ∃ ab pa, Trail sg t a 0 ab pa ∧ pa.length = pl sg t a := by
  obtain ⟨ab, pa, hw⟩ := way_root hok ha
  exact ⟨ab, pa, hw, by unfold pl; rw [hw.aboveL hok ha, hw.len]⟩
theorem deep_lt {sg t : List Int} {k : Nat} (h : 0 < t.length) (hk : k ≤ t.length) : deepN sg t k < t.length := by
  have := deep_le (sg := sg) (t := t) k
  omega
theorem deep_up {sg t : List Int} {k : Nat} (h : pl sg t (deepN sg t k) < pl sg t k) : deepN sg t (k + 1) = k := by simp only [deepN]; rw [if_pos h]
theorem deep_same {sg t : List Int} {k : Nat} (h : ¬ pl sg t (deepN sg t k) < pl sg t k) : deepN sg t (k + 1) = deepN sg t k := by simp only [deepN]; rw [if_neg h]
theorem pl_zero {sg t : List Int} : pl sg t 0 = 0 := rfl

def HeadDp (w : World) (A : Option Addr) (n c : Nat) (sg : List Int) (A' : Option Addr) (m : Nat) (t : List Int) (g : Nat) (best k : Value) (wr : World) : Prop :=
  ∃ i : Nat, k = .int .i64 i ∧ i + g = m ∧ best = .int .i64 (deepN sg t i : Nat) ∧ Fr w wr A n c sg A' m t

set_option maxHeartbeats 1000000 in
theorem specDeepestOf (A A' : Option Addr) (n c m c' : Nat) (sg t : List Int) (w : World) (h : Seg w w.heap.size A n sg) (h' : Seg w w.heap.size A' m t) (hn : n ≤ 1048576) (hm : m ≤ 1048576) :
    Calls Try.prog 43 #[.agg #[.slice A n c], .slice A' m c'] w (GivesI w (deepI sg t)) := by
  obtain ⟨W, hW⟩ : ∃ W, W = w.alloc (.cells #[.slice A n c] 26) := ⟨_, rfl⟩
  have f : Fr w W A n c sg A' m t := by rw [hW]; exact Fr.start h h'
  have HW := Lib.hid hW
  have HL := Lib.hid h'.1
  have L := Lib.hid (specTermOk A A' n c m c' sg t W f.s1 f.t1 hn hm)
  clear hW h h'
  cases hok : termOkB sg t with
  | false =>
    have HS := Lib.hid hok
    have HR := Lib.hid (deep_no hok)
    clear hok
    go_enter Try.func43, Try.ntmps43
    go_wp2_with fail
    rw [← HW.out]
    refine L.out.mono ?_
    rintro e w1 ⟨he, bb⟩
    rw [HS.out] at he
    subst he
    have F := Lib.hid (show GivesI w (deepI sg t) (.returned (.int .i64 (-1))) w1 from ⟨by rw [HR.out], (f.next bb).b⟩)
    clear f L bb
    go_wp2
    go_ret
    exact F.out
  | true =>
    have HS := Lib.hid hok
    have HR := Lib.hid (deep_yes hok)
    have HT := Lib.hid (termOk_parts hok).2.1
    have h60 : m ≤ 60 := by have := HT.out; have := HL.out; omega
    clear hok
    go_enter Try.func43, Try.ntmps43
    go_wp2_with fail
    rw [← HW.out]
    refine L.out.mono ?_
    rintro e w1 ⟨he, bb⟩
    rw [HS.out] at he
    subst he
    have S0 : HeadDp w A n c sg A' m t m (.int .i64 0) (.int .i64 0) w1 := ⟨0, rfl, by omega, rfl, f.next bb⟩
    have HS0 := Lib.hid S0
    clear S0 f bb L
    go_wp2_with fail
    go_loopg [5, 6] m (fun g best k wr => HeadDp w A n c sg A' m t g best k wr)
    case atStart => exact HS0.out
    case round =>
      obtain ⟨i, rfl, hi, rfl, f⟩ := hrel
      clear HS0
      have HI := Lib.hid hi
      clear hi
      by_cases him : i < m
      · have hml := HL.out
        obtain ⟨ab1, pa1, tr1, l1⟩ := way_pl HS.out (show i < t.length by omega)
        have hbl : deepN sg t i < t.length := deep_lt (by omega) (by omega)
        obtain ⟨ab2, pa2, tr2, l2⟩ := way_pl HS.out hbl
        have HUP := Lib.hid (deep_up (sg := sg) (t := t) (k := i))
        have HSA := Lib.hid (deep_same (sg := sg) (t := t) (k := i))
        obtain ⟨d, hd⟩ : ∃ d, deepN sg t i = d := ⟨_, rfl⟩
        rw [hd] at hbl tr2 l2 HUP HSA
        have hd60 : d ≤ 60 := by omega
        rw [hd]
        have HD := Lib.hid hd
        have T1 := Lib.hid tr1
        have T2 := Lib.hid tr2
        have L1 := Lib.hid l1
        have L2 := Lib.hid l2
        have HBL := Lib.hid hbl
        have HIL := Lib.hid (show i < t.length by omega)
        replace f := f.drew
        have cA := f.cell
        clear tr1 tr2 l1 l2 hbl hml hd
        go_wp2_with fail
        go_region_held3 (fun w' => w'.cell? ⟨w.heap.size, 0, none⟩ = some (.slice A n c))
          (go_keep)
          (first
            | (go_at_call 62; have X := l3Path A A' n c m c' sg t i ab1 pa1 _ f.s1 f.t1 hn hm HS.out HIL.out T1.out; (with_reducible refine X.mono ?_); clear X; rintro e w2 ⟨A2, n2, c2, rfl, o2, bb2⟩; have f2 := f.next bb2; have cA2 : w2.cell? ⟨w.heap.size, 0, none⟩ = some (.slice A n c) := f2.cell)
            | (go_at_call 62; refine (l3Path A A' n c m c' sg t d ab2 pa2 _ f2.s1 f2.t1 hn hm HS.out HBL.out T2.out).mono ?_; rintro e w3 ⟨A3, n3, c3, rfl, o3, bb3⟩; have f3 := f2.next bb3; have cA3 : w3.cell? ⟨w.heap.size, 0, none⟩ = some (.slice A n c) := f3.cell))
        have e2 : n2 = pl sg t i := by rw [Own.len o2, L1.out]
        have e3 : n3 = pl sg t d := by rw [Own.len o3, L2.out]
        have E2 := Lib.hid e2
        have E3 := Lib.hid e3
        have hgk := Lib.hid (show gk - 1 < gk ∧ i + 1 + (gk - 1) = m by have := HI.out; omega)
        clear o2 o3 bb2 bb3 e2 e3 cA cA2 cA3 f f2
        by_cases hlt : n3 < n2
        · have S : HeadDp w A n c sg A' m t (gk - 1) (.int .i64 (i : Int)) (.int .i64 ((i : Int) + 1)) w3 := ⟨i + 1, by simp, hgk.out.2, by rw [HUP.out (by rw [← E2.out, ← E3.out]; exact hlt)], f3⟩
          have HSS := Lib.hid S
          clear S f3
          go_wp2
          go_roundg (gk - 1)
          case measure => exact hgk.out.1
          case rel => exact HSS.out
        · have S : HeadDp w A n c sg A' m t (gk - 1) (.int .i64 (d : Int)) (.int .i64 ((i : Int) + 1)) w3 := ⟨i + 1, by simp, hgk.out.2, by rw [HSA.out (by rw [← E2.out, ← E3.out]; exact hlt)], f3⟩
          have HSS := Lib.hid S
          have hle : decide ((n3 : Int) < (n2 : Int)) = false := by simp; omega
          clear S f3
          go_wp2
          go_roundg (gk - 1)
          case measure => exact hgk.out.1
          case rel => exact HSS.out
      · have him2 : i = t.length := by have := HI.out; have := HL.out; omega
        have F := Lib.hid (show GivesI w (deepI sg t) (.returned (.int .i64 (deepN sg t i : Nat))) wr from ⟨by rw [HR.out, him2], f.b⟩)
        clear f him2
        generalize deepN sg t i = d at *
        go_wp2
        go_ret
        exact F.out

def HeadDi (w : World) (A : Option Addr) (n c : Nat) (sg : List Int) (A' : Option Addr) (m : Nat) (t : List Int) (g : Nat) (best long k : Value) (wr : World) : Prop :=
  ∃ i : Nat, k = .int .i64 i ∧ i + g = m ∧ best = .int .i64 (deepN sg t i : Nat) ∧ long = .int .i64 (pl sg t (deepN sg t i) : Nat) ∧ Fr w wr A n c sg A' m t

set_option maxHeartbeats 1000000 in
theorem implDeepestOf (A A' : Option Addr) (n c m c' : Nat) (sg t : List Int) (w : World) (h : Seg w w.heap.size A n sg) (h' : Seg w w.heap.size A' m t) (hn : n ≤ 1048576) (hm : m ≤ 1048576) :
    Calls Try.prog 29 #[.agg #[.slice A n c], .slice A' m c'] w (GivesI w (deepI sg t)) := by
  obtain ⟨W, hW⟩ : ∃ W, W = w.alloc (.cells #[.slice A n c] 26) := ⟨_, rfl⟩
  have f : Fr w W A n c sg A' m t := by rw [hW]; exact Fr.start h h'
  have HW := Lib.hid hW
  have HL := Lib.hid h'.1
  have L := Lib.hid (implTermOk A A' n c m c' sg t W f.s1 f.t1 hn hm)
  clear hW h h'
  cases hok : termOkB sg t with
  | false =>
    have HS := Lib.hid hok
    have HR := Lib.hid (deep_no hok)
    clear hok
    go_enter Try.func29, Try.ntmps29
    go_wp2_with fail
    rw [← HW.out]
    refine L.out.mono ?_
    rintro e w1 ⟨he, bb⟩
    rw [HS.out] at he
    subst he
    have F := Lib.hid (show GivesI w (deepI sg t) (.returned (.int .i64 (-1))) w1 from ⟨by rw [HR.out], (f.next bb).b⟩)
    clear f L bb
    go_wp2
    go_ret
    exact F.out
  | true =>
    have HS := Lib.hid hok
    have HR := Lib.hid (deep_yes hok)
    have HT := Lib.hid (termOk_parts hok).2.1
    have h60 : m ≤ 60 := by have := HT.out; have := HL.out; omega
    clear hok
    go_enter Try.func29, Try.ntmps29
    go_wp2_with fail
    rw [← HW.out]
    refine L.out.mono ?_
    rintro e w1 ⟨he, bb⟩
    rw [HS.out] at he
    subst he
    have S0 : HeadDi w A n c sg A' m t m (.int .i64 0) (.int .i64 0) (.int .i64 0) w1 := ⟨0, rfl, by omega, rfl, rfl, f.next bb⟩
    have HS0 := Lib.hid S0
    clear S0 f bb L
    go_wp2_with fail
    go_loopg [5, 6, 15] m (fun g best long k wr => HeadDi w A n c sg A' m t g best long k wr)
    case atStart => exact HS0.out
    case round =>
      obtain ⟨i, rfl, hi, rfl, rfl, f⟩ := hrel
      clear HS0
      have HI := Lib.hid hi
      clear hi
      by_cases him : i < m
      · have hml := HL.out
        have hil : i < t.length := by omega
        obtain ⟨ab1, pa1, tr1, l1⟩ := way_pl HS.out hil
        have hbl : deepN sg t i < t.length := deep_lt (by omega) (by omega)
        have HUP := Lib.hid (deep_up (sg := sg) (t := t) (k := i))
        have HSA := Lib.hid (deep_same (sg := sg) (t := t) (k := i))
        obtain ⟨d, hd⟩ : ∃ d, deepN sg t i = d := ⟨_, rfl⟩
        rw [hd] at hbl HUP HSA
        rw [hd]
        have T1 := Lib.hid tr1
        have HP := Lib.hid (show PathIs sg t (i : Int) pa1 from .inl ⟨there_yes HS.out (by omega) (by omega), ab1, by rw [Int.toNat_natCast]; exact tr1⟩)
        have hl1 : pa1.length ≤ 60 := by have := tr1.le; omega
        have L1 := Lib.hid l1
        have hd60 : d ≤ 60 := by omega
        obtain ⟨z, hz⟩ : ∃ z, pl sg t d = z := ⟨_, rfl⟩
        rw [hz]
        have HZ := Lib.hid hz
        have cA := f.cell
        clear tr1 l1 hbl hml hd hz hil
        go_wp2_with fail
        refine (implPathOf A A' n c m c' sg t (i : Int) pa1 _ f.s1 f.t1 hn hm HP.out).mono ?_
        rintro e w2 ⟨A2, n2, c2, rfl, o2, bb⟩
        have e2 : n2 = pl sg t i := by rw [Own.len o2, L1.out]
        have E2 := Lib.hid e2
        have hgk := Lib.hid (show gk - 1 < gk ∧ i + 1 + (gk - 1) = m by have := HI.out; omega)
        replace f := f.next bb
        clear o2 bb e2 cA
        by_cases hlt : z < n2
        · have S : HeadDi w A n c sg A' m t (gk - 1) (.int .i64 (i : Int)) (.int .i64 (n2 : Int)) (.int .i64 ((i : Int) + 1)) w2 := ⟨i + 1, by simp, hgk.out.2, by rw [HUP.out (by rw [← E2.out, HZ.out]; exact hlt)], by rw [HUP.out (by rw [← E2.out, HZ.out]; exact hlt), E2.out], f⟩
          have HSS := Lib.hid S
          clear S f
          go_wp2
          go_roundg (gk - 1)
          case measure => exact hgk.out.1
          case rel => exact HSS.out
        · have S : HeadDi w A n c sg A' m t (gk - 1) (.int .i64 (d : Int)) (.int .i64 (z : Int)) (.int .i64 ((i : Int) + 1)) w2 := ⟨i + 1, by simp, hgk.out.2, by rw [HSA.out (by rw [← E2.out, HZ.out]; exact hlt)], by rw [HSA.out (by rw [← E2.out, HZ.out]; exact hlt), HZ.out], f⟩
          have HSS := Lib.hid S
          have hle : decide ((z : Int) < (n2 : Int)) = false := by simp; omega
          clear S f
          go_wp2
          go_roundg (gk - 1)
          case measure => exact hgk.out.1
          case rel => exact HSS.out
      · have him2 : i = t.length := by have := HI.out; have := HL.out; omega
        have F := Lib.hid (show GivesI w (deepI sg t) (.returned (.int .i64 (deepN sg t i : Nat))) wr from ⟨by rw [HR.out, him2], f.b⟩)
        clear f him2
        generalize deepN sg t i = d at *
        go_wp2
        go_ret
        exact F.out
end Go.Proofs.Ytobifgobipcmdaa.deep
end

section
/-
  THE WALK of laws.FnExactDeepestOf: it returns true, whatever the arguments, and writes nothing that was there. Conditions: the slices read as lists. Written by a program of mine (gen_exact.py). By an AI agent.
-/
namespace Go.Proofs.Ytobifgobipcmdaa.wDeepestOf
open Go.RowKit Go.Proofs.Ytobifgobipcmdaa.base Go.Proofs.Ytobifgobipcmdaa.ints Go.Proofs.Ytobifgobipcmdaa.sig Go.Proofs.Ytobifgobipcmdaa.cursor Go.Proofs.Ytobifgobipcmdaa.marks Go.Proofs.Ytobifgobipcmdaa.app Go.Proofs.Ytobifgobipcmdaa.sym Go.Proofs.Ytobifgobipcmdaa.appAt Go.Proofs.Ytobifgobipcmdaa.segs Go.Proofs.Ytobifgobipcmdaa.segsHelp Go.Proofs.Ytobifgobipcmdaa.segsMark Go.Proofs.Ytobifgobipcmdaa.kinds Go.Proofs.Ytobifgobipcmdaa.term Go.Proofs.Ytobifgobipcmdaa.termOk Go.Proofs.Ytobifgobipcmdaa.endAt Go.Proofs.Ytobifgobipcmdaa.inside Go.Proofs.Ytobifgobipcmdaa.args Go.Proofs.Ytobifgobipcmdaa.posMath Go.Proofs.Ytobifgobipcmdaa.pathSpec Go.Proofs.Ytobifgobipcmdaa.wayTo Go.Proofs.Ytobifgobipcmdaa.place Go.Proofs.Ytobifgobipcmdaa.deep
set_option maxRecDepth 100000

set_option maxHeartbeats 8000000 in
theorem law (a0 : Option Addr) (n0 c0 : Nat) (xs0 : List Int) (a1 : Option Addr) (n1 c1 : Nat) (xs1 : List Int) (w : World) (s0 : Seg w w.heap.size a0 n0 xs0) (hN0 : n0 ≤ 9223372036854775807) (s1 : Seg w w.heap.size a1 n1 xs1) (hN1 : n1 ≤ 9223372036854775807) :
    Calls Try.prog 11 #[.agg #[.slice a0 n0 c0], .slice a1 n1 c1] w (Fine w) := by
  obtain ⟨W, hW⟩ : ∃ W, W = w.alloc (.cells #[.slice a0 n0 c0] 39) := ⟨_, rfl⟩
  have rA0 : Row W (w.heap.size) 39 #[.slice a0 n0 c0] := by rw [hW]; have := Row.new (w) 39 #[.slice a0 n0 c0]; simpa using this
  have bW : Below w.heap.size w W := by rw [hW]; exact (Below.refl w.heap.size w).alloc (by simp) (.cells #[.slice a0 n0 c0] 39)
  have zA0 := rA0.lt
  replace s0 := s0.next bW
  have Hl0 := Lib.hid s0.1
  replace s1 := s1.next bW
  have Hl1 := Lib.hid s1.1
  have HW := Lib.hid hW
  clear hW
  obtain ⟨v, hv⟩ : ∃ v, deepI xs0 xs1 = v := ⟨_, rfl⟩
  have HV := Lib.hid hv
  clear hv
  have ev : (v != v) = false := by simp
  by_cases h1 : n1 ≤ 1048576
  case neg =>
    go_enter Try.func11, Try.ntmps11
    go_wp2_with fail
    rw [← HW.out]
    go_ret
    exact ⟨rfl, bW⟩
  go_enter Try.func11, Try.ntmps11
  go_wp2_with fail
  rw [← HW.out]
  clear HW
  have bel := Below.refl W.heap.size W
  have cA0 : W.cell? ⟨w.heap.size, 0, none⟩ = some (.slice a0 n0 c0) := (rA0.next bel).cell 0
  refine (szSig _ _ _ (1048576) _ hN0 (by omega) (by omega)).mono ?_
  rintro e w1 ⟨he, bb⟩
  replace bel := next_trans bel bb
  have zw1 := bb.size
  clear bb
  by_cases q0 : n0 ≤ 1048576
  case neg =>
    rw [if_pos (by omega)] at he
    subst he
    have F := Lib.hid (bW.trans (bel.mono bW.size))
    clear bel bW cA0
    go_wp2
    go_ret
    exact ⟨rfl, F.out⟩
  rw [if_neg (by omega)] at he
  subst he
  have h0 : n0 ≤ 1048576 := by omega
  clear cA0
  have cA0 : w1.cell? ⟨w.heap.size, 0, none⟩ = some (.slice a0 n0 c0) := (rA0.next bel).cell 0
  go_wp2_with fail
  refine (sigTo _ _ _ xs0 _ (s0.next bel) h0).mono ?_
  rintro e w2 ⟨gp0, rfl, op0, yp0, bb⟩
  replace bel := next_trans bel bb
  have zw2 := bb.size
  clear bb
  clear cA0
  have cA0 : w2.cell? ⟨w.heap.size, 0, none⟩ = some (.slice a0 n0 c0) := (rA0.next bel).cell 0
  go_wp2_with fail
  refine (intsTo _ _ _ xs1 _ (s1.next bel) h1).mono ?_
  rintro e w3 ⟨gp1, rfl, op1, yp1, bb⟩
  replace op0 := op0.next bb
  replace bel := next_trans bel bb
  have zw3 := bb.size
  clear bb
  clear cA0
  have cA0 : w3.cell? ⟨w.heap.size, 0, none⟩ = some (.slice a0 n0 c0) := (rA0.next bel).cell 0
  go_wp2_with fail
  refine (specDeepestOf _ _ _ _ _ _ xs0 xs1 _ op0.rd op1.rd h0 h1).mono ?_
  rintro e w4 ⟨he, bb⟩
  rw [HV.out] at he
  subst he
  replace op0 := op0.next bb
  replace op1 := op1.next bb
  replace bel := next_trans bel bb
  have zw4 := bb.size
  clear bb
  clear op0 op1
  clear cA0
  have cA0 : w4.cell? ⟨w.heap.size, 0, none⟩ = some (.slice a0 n0 c0) := (rA0.next bel).cell 0
  clear cA0
  have cA0 : w4.cell? ⟨w.heap.size, 0, none⟩ = some (.slice a0 n0 c0) := (rA0.next bel).cell 0
  go_wp2_with fail
  refine (sigTo _ _ _ xs0 _ (s0.next bel) h0).mono ?_
  rintro e w5 ⟨gx0, rfl, ox0, yx0, bb⟩
  replace bel := next_trans bel bb
  have zw5 := bb.size
  clear bb
  clear cA0
  have cA0 : w5.cell? ⟨w.heap.size, 0, none⟩ = some (.slice a0 n0 c0) := (rA0.next bel).cell 0
  have dA0 : (w5.alloc (.cells #[.slice (some ⟨gx0, 0, none⟩) n0 n0] 26)).cell? ⟨w.heap.size, 0, none⟩ = some (.slice a0 n0 c0) := ((rA0.next bel).alloc _).cell 0
  go_wp2_with fail
  obtain ⟨w6, hw⟩ : ∃ W, W = w5.alloc (.cells #[.slice (some ⟨gx0, 0, none⟩) n0 n0] 26) := ⟨_, rfl⟩
  rw [← hw]
  have rx0 : Row w6 w5.heap.size 26 #[.slice (some ⟨gx0, 0, none⟩) n0 n0] := by rw [hw]; exact Row.new _ _ _
  have bb : Below w5.heap.size w5 w6 := by rw [hw]; exact (Below.refl _ _).alloc (Nat.le_refl _) _
  have yrx0 : w5.heap.size < w6.heap.size := by rw [hw]; simp
  clear hw
  replace ox0 := ox0.next bb
  replace bel := next_trans bel bb
  have zw6 := bb.size
  clear bb
  clear dA0
  clear cA0
  have cA0 : w6.cell? ⟨w.heap.size, 0, none⟩ = some (.slice a0 n0 c0) := (rA0.next bel).cell 0
  have cx0 : w6.cell? ⟨w5.heap.size, 0, none⟩ = some (.slice (some ⟨gx0, 0, none⟩) n0 n0) := (rx0).cell 0
  refine (intsTo _ _ _ xs1 _ (s1.next bel) h1).mono ?_
  rintro e w7 ⟨gx1, rfl, ox1, yx1, bb⟩
  replace ox0 := ox0.next bb
  replace rx0 := rx0.next bb
  replace bel := next_trans bel bb
  have zw7 := bb.size
  clear bb
  clear cA0 cx0
  have cA0 : w7.cell? ⟨w.heap.size, 0, none⟩ = some (.slice a0 n0 c0) := (rA0.next bel).cell 0
  have cx0 : w7.cell? ⟨w5.heap.size, 0, none⟩ = some (.slice (some ⟨gx0, 0, none⟩) n0 n0) := (rx0).cell 0
  go_wp2_with fail
  refine (implDeepestOf _ _ _ _ _ _ xs0 xs1 _ ox0.rd ox1.rd h0 h1).mono ?_
  rintro e w8 ⟨he, bb⟩
  rw [HV.out] at he
  subst he
  replace ox0 := ox0.next bb
  replace rx0 := rx0.next bb
  replace ox1 := ox1.next bb
  replace bel := next_trans bel bb
  have zw8 := bb.size
  clear bb
  clear cA0 cx0
  have cA0 : w8.cell? ⟨w.heap.size, 0, none⟩ = some (.slice a0 n0 c0) := (rA0.next bel).cell 0
  have cx0 : w8.cell? ⟨w5.heap.size, 0, none⟩ = some (.slice (some ⟨gx0, 0, none⟩) n0 n0) := (rx0).cell 0
  go_wp2_with fail
  replace ox0 := ox0.drew
  replace rx0 := rx0.drew
  replace ox1 := ox1.drew
  replace bel := bel.drew
  have zdw8 := (drew_below w8).size
  go_region_held3 (fun w' => w'.cell? ⟨w5.heap.size, 0, none⟩ = some (.slice (some ⟨gx0, 0, none⟩) n0 n0) ∧ w'.cell? ⟨w.heap.size, 0, none⟩ = some (.slice a0 n0 c0))
    (go_keep)
    (first
      | (go_at_call 33; refine (sigTo _ _ _ xs0 _ (s0.next bel) h0).mono ?_; rintro e w9 ⟨gt0, rfl, ot, yt0, bb⟩; replace ox0 := ox0.next bb; replace rx0 := rx0.next bb; replace ox1 := ox1.next bb; replace bel := next_trans bel bb; have k0w9 : w9.cell? ⟨w.heap.size, 0, none⟩ = some (.slice a0 n0 c0) := (rA0.next bel).cell 0; have l0w9 : w9.cell? ⟨w5.heap.size, 0, none⟩ = some (.slice (some ⟨gx0, 0, none⟩) n0 n0) := rx0.cell 0; have zqw9 := bb.size; clear bb)
      | (go_at_call 36; refine (sigEq _ _ _ _ _ _ xs0 _ ox0.rd ot.rd h0).mono ?_; rintro e w10 ⟨rfl, bb⟩; replace ox0 := ox0.next bb; replace rx0 := rx0.next bb; replace ox1 := ox1.next bb; replace bel := next_trans bel bb; have k0w10 : w10.cell? ⟨w.heap.size, 0, none⟩ = some (.slice a0 n0 c0) := (rA0.next bel).cell 0; have l0w10 : w10.cell? ⟨w5.heap.size, 0, none⟩ = some (.slice (some ⟨gx0, 0, none⟩) n0 n0) := rx0.cell 0; have zqw10 := bb.size; clear bb ot))
  clear k0w9 l0w9 k0w10 l0w10
  clear ox0 rx0
  clear cA0 cx0
  have cA0 : w10.cell? ⟨w.heap.size, 0, none⟩ = some (.slice a0 n0 c0) := (rA0.next bel).cell 0
  go_wp2_with fail
  refine (intsTo _ _ _ xs1 _ (s1.next bel) h1).mono ?_
  rintro e w11 ⟨gt1, rfl, ot1, yt1, bb⟩
  replace ox1 := ox1.next bb
  replace bel := next_trans bel bb
  have zw11 := bb.size
  clear bb
  clear cA0
  have cA0 : w11.cell? ⟨w.heap.size, 0, none⟩ = some (.slice a0 n0 c0) := (rA0.next bel).cell 0
  go_wp2_with fail
  refine (intsEq _ _ _ _ _ _ xs1 _ ox1.rd ot1.rd h1).mono ?_
  rintro e w12 ⟨rfl, bb⟩
  replace ox1 := ox1.next bb
  replace ot1 := ot1.next bb
  replace bel := next_trans bel bb
  have zw12 := bb.size
  clear bb
  clear ot1 ox1
  clear cA0
  have cA0 : w12.cell? ⟨w.heap.size, 0, none⟩ = some (.slice a0 n0 c0) := (rA0.next bel).cell 0
  have F := Lib.hid (bW.trans (bel.mono bW.size))
  clear bel bW cA0
  go_wp2
  go_ret
  exact ⟨rfl, F.out⟩
end Go.Proofs.Ytobifgobipcmdaa.wDeepestOf
end
