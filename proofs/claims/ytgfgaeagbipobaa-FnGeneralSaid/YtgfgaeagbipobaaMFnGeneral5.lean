/-
  MERGED: my texts MatchImplC, Big, LawT, WFnGeneral, one behind the other, as they are. By an AI agent.
-/
import Derived.Test.YtgfgaeagbipobaaMFnGeneral4
import Derived.Deep.QuietTactic
import Derived.BigQuiet
namespace Go.Proofs.Ytgfgaeagbipobaa
section
open Go.Lib (hid)
namespace matchImplC
open Go.RowKit base ints sig same term termOk endAt inside marks app sym sub segs segsHelp kinds termFacts termMath posMath plainMath plain plainOf gives cursor fillMath matchMath matchSpec matchList matchMost whole takeMath take extended pathSpec matchImpl renMath varsOf variant anyOf matchImplB
set_option maxRecDepth 100000
theorem any_range {f : List Int → Bool} {ps : List (List Int)} : ∀ n, n ≤ ps.length → ((List.range n).any fun k => f (ps.getD k [])) = (ps.take n).any f
 | 0, _ => rfl
 | n + 1, h => by
  rw [List.range_succ, List.any_append, any_range n (by omega), List.take_succ_eq_append_getElem h, List.any_append]
  simp [List.getD, show n < ps.length by omega]
theorem best_any {sg : List Int} {ps : List (List Int)} {i : Nat} (hi : i ≤ ps.length) : bestB sg ps i = (!(ps.any fun q => moreB sg q (ps.getD i [])) && !((ps.take i).any fun q => variantB sg q (ps.getD i []))) := by
 have h1 := any_range (f := fun q => moreB sg q (ps.getD i [])) (ps := ps) ps.length (Nat.le_refl _)
 have h2 := any_range (f := fun q => variantB sg q (ps.getD i [])) (ps := ps) i hi
 rw [List.take_length] at h1
 rw [← h1, ← h2, Bool.eq_iff_iff]
 unfold bestB
 rw [List.all_eq_true, Bool.and_eq_true, Bool.not_eq_true', Bool.not_eq_true', List.any_eq_false, List.any_eq_false]
 constructor
 ·intro h
  refine ⟨fun k hk => ?_, fun k hk => ?_⟩
  ·have := h k hk
   rw [Bool.not_eq_true', Bool.or_eq_false_iff] at this
   rw [this.1]; simp
  ·rw [List.mem_range] at hk
   have := h k (List.mem_range.2 (by omega))
   rw [Bool.not_eq_true', Bool.or_eq_false_iff, decide_eq_true hk, Bool.true_and] at this
   unfold variantB
   rw [this.2]; simp
 ·rintro ⟨g1, g2⟩ k hk
  have a := g1 k hk
  rw [Bool.not_eq_true] at a
  rw [a, Bool.false_or]
  by_cases hki : k < i
  ·have b := g2 k (List.mem_range.2 hki)
   unfold variantB at b
   rw [Bool.not_eq_true] at b
   rw [b, Bool.and_false]; rfl
  ·rw [decide_eq_false hki]; rfl
theorem testMore (bs bp : Nat) (A D : Option Addr) (n c dn dc : Nat) (sg p : List Int) (w : World) (hcs : w.cell? ⟨bs, 0, none⟩ = some (.slice A n c)) (hcp : w.cell? ⟨bp, 0, none⟩ = some (.slice D dn dc)) (hs : Seg w w.heap.size A n sg) (hp : Seg w w.heap.size D dn p)
  (hn : n ≤ 1048576) (hdn : dn ≤ 1048576) (hcap : Cap D dn dc) : Tests 53 #[.pointer (some ⟨bs, 0, none⟩), .pointer (some ⟨bp, 0, none⟩)] w (fun q => moreB sg q p) := by
 intro W E en ec q hW hq hen hec
 have d1 : W.cell? ⟨bs, 0, none⟩ = some (.slice A n c) := (hW.cell (p := ⟨bs, 0, none⟩) (World.block_lt_of_cell? _ _ hcs)).trans hcs
 have d2 : W.cell? ⟨bp, 0, none⟩ = some (.slice D dn dc) := (hW.cell (p := ⟨bp, 0, none⟩) (World.block_lt_of_cell? _ _ hcp)).trans hcp
 have L := hid (implMoreGeneral A E D n c en ec dn dc sg q p W (hs.next hW) hq (hp.next hW) hn hen hdn hec.1 hec.2.1 hcap.1 hcap.2.1)
 clear hcs hcp hs hp hW hq hec hcap
 show Calls Try.prog 53 #[.slice E en ec, .pointer (some ⟨bs, 0, none⟩), .pointer (some ⟨bp, 0, none⟩)] W (Tells W (moreB sg q p))
 generalize moreB sg q p = v at *
 go_enter Try.func53, Try.ntmps53
 go_wp2_with fail
 refine L.out.mono ?_
 rintro e w1 ⟨rfl, bb⟩
 have B := hid bb
 clear L bb
 go_wp2
 go_ret
 exact ⟨rfl, B.out⟩
theorem testVariant (bs bp : Nat) (A D : Option Addr) (n c dn dc : Nat) (sg p : List Int) (w : World) (hcs : w.cell? ⟨bs, 0, none⟩ = some (.slice A n c)) (hcp : w.cell? ⟨bp, 0, none⟩ = some (.slice D dn dc)) (hs : Seg w w.heap.size A n sg) (hp : Seg w w.heap.size D dn p)
  (hn : n ≤ 1048576) (hdn : dn ≤ 1048576) : Tests 55 #[.pointer (some ⟨bs, 0, none⟩), .pointer (some ⟨bp, 0, none⟩)] w (fun q => variantB sg q p) := by
 intro W E en ec q hW hq hen hec
 have d1 : W.cell? ⟨bs, 0, none⟩ = some (.slice A n c) := (hW.cell (p := ⟨bs, 0, none⟩) (World.block_lt_of_cell? _ _ hcs)).trans hcs
 have d2 : W.cell? ⟨bp, 0, none⟩ = some (.slice D dn dc) := (hW.cell (p := ⟨bp, 0, none⟩) (World.block_lt_of_cell? _ _ hcp)).trans hcp
 have L := hid (implVariantIn A E D n c en ec dn dc sg q p W (hs.next hW) hq (hp.next hW) hn hen hdn)
 clear hcs hcp hs hp hW hq hec
 show Calls Try.prog 55 #[.slice E en ec, .pointer (some ⟨bs, 0, none⟩), .pointer (some ⟨bp, 0, none⟩)] W (Tells W (variantB sg q p))
 generalize variantB sg q p = v at *
 go_enter Try.func55, Try.ntmps55
 go_wp2_with fail
 refine L.out.mono ?_
 rintro e w1 ⟨rfl, bb⟩
 have B := hid bb
 clear L bb
 go_wp2
 go_ret
 exact ⟨rfl, B.out⟩
theorem segs_take {w : World} {B b off n i : Nat} {xss : List (List Int)} (h : Segs w B (some ⟨b, off, none⟩) n xss) (hi : i ≤ n) : Segs w B (some ⟨b, off, none⟩) i (xss.take i) := by
 refine ⟨by rw [List.length_take, h.1]; omega, fun h0 => ?_⟩
 obtain ⟨b', off', e, hb, hc⟩ := h.2 (by omega)
 refine ⟨b', off', e, hb, fun j hj => ?_⟩
 obtain ⟨A', n', c', h1, h2, h3⟩ := hc j (by omega)
 exact ⟨A', n', c', h1, by simpa [List.getD, List.getElem?_take, hj] using h2, h3⟩
theorem take_each {xss : List (List Int)} {M i : Nat} (h : ∀ j, (xss.getD j []).length ≤ M) (j : Nat) : ((xss.take i).getD j []).length ≤ M := by
 by_cases hj : j < i
 ·have := h j
  simpa [List.getD, List.getElem?_take, hj] using this
 ·simp [List.getD, List.getElem?_take, hj]
set_option maxHeartbeats 4000000 in
theorem implMostGeneral (A P : Option Addr) (n c pn pc : Nat) (sg : List Int) (ps : List (List Int)) (w : World) (h : Seg w w.heap.size A n sg) (hp : Segs w w.heap.size P pn ps) (hn : n ≤ 1048576) (htot : tot ps ≤ 1048576) (hpc : pn ≤ pc) (hpc2 : pc ≤ 9223372036854775807) :
  Calls Try.prog 18 #[.agg #[.slice A n c], .slice P pn pc] w (AnsList w (mgI sg ps)) := by
 obtain ⟨W, hW⟩ : ∃ W, W = w.alloc (.cells #[.slice A n c] 26) := ⟨_, rfl⟩
 have f : Fs w W A n c sg P pn ps := by rw [hW]; exact Fs.start h hp
 have HW := hid hW
 have HL := hid hp.1
 have HE := hid (tot_each htot)
 have cA := f.cell
 have cA0 : (w.alloc (.cells #[.slice A n c] 26)).cell? ⟨w.heap.size, 0, none⟩ = some (.slice A n c) := by rw [← hW]; exact cA
 have LP := hid (implTermsOk A P n c pn pc sg ps W f.s1 (f.s'.more (Nat.le_of_lt f.size)) hn htot)
 have HPOS : Hid (0 < pn → termsB sg ps = true → allB sg ps = true) := hid (fun h0 ht => by
  have h1 := (terms_parts ht).2 0 (by rw [hp.1]; exact h0)
  rw [all_terms (termOk_parts h1).1]; exact ht)
 clear hW h hp htot
 cases hall : termsB sg ps with
 | false =>
  have HS := hid hall
  have HF := hid (show mgI sg ps = [] by unfold mgI; rw [if_neg]; unfold allB; rw [show (decide (ps.length ≤ 12) && ps.all (termOkB sg)) = false from hall, Bool.and_false]; simp)
  clear hall
  go_enter Try.func18, Try.ntmps18
  go_wp2_with fail
  rw [← HW.out]
  refine LP.out.mono ?_
  rintro e w1 ⟨he, bb⟩
  rw [HS.out] at he
  subst he
  have F := hid (list_of (w := w) HF.out (Own.nil w1 w.heap.size) (Nat.le_refl _) (f.next bb).b)
  clear f bb LP cA cA0
  go_wp2
  go_ret
  exact F.out
 | true =>
  have HS := hid hall
  have hp12 : pn ≤ 12 := by have h1 := (terms_parts hall).1; rw [HL.out] at h1; exact h1
  have HF := hid (show mgI sg ps = mgN sg ps pn by
   by_cases h0 : 0 < pn
   ·unfold mgI; rw [if_pos (HPOS.out h0 hall), HL.out]
   ·have e : pn = 0 := by omega
    unfold mgI
    rw [HL.out, e]
    split <;> rfl)
  have hmf : ∀ (fn : Fn) (first cap : Array Value) (w : World), (Instr.makeFunc fn first cap).run Try.prog w = .ok (.func fn first cap) w := fun _ _ _ _ => rfl
  clear hall
  go_enter Try.func18, Try.ntmps18
  go_wp2_with fail
  rw [← HW.out]
  refine LP.out.mono ?_
  rintro e w2 ⟨he, bb⟩
  rw [HS.out] at he
  subst he
  have S0 : HeadMg w A n c sg P pn ps pn (.slice none 0 0) (.int .i64 0) w2 := ⟨0, none, 0, 0, rfl, by omega, rfl, Own.nil _ _, f.next bb⟩
  have HS0 := hid S0
  clear S0 f bb cA cA0 LP
  go_wp2_with fail
  go_loopg [5, 16] pn (fun g out k wr => HeadMg w A n c sg P pn ps g out k wr)
  case atStart => exact HS0.out
  case round =>
   obtain ⟨i, O, on, oc, rfl, hi, rfl, ho, f⟩ := hrel
   clear HS0
   have HI := hid hi
   clear hi
   have hon : on ≤ 12 := by have h1 := Own.len ho; have h2 := mg_len (sg := sg) (ps := ps) i; have := HI.out; omega
   by_cases hip : i < pn
   ·obtain ⟨b, off, D, dn, dc, rfl, hbb, hc, hsg, hcap⟩ := f.s'.spot hip
    have hdn : dn ≤ 1048576 := by have := HE.out i; rw [hsg.1] at this; exact this
    have hgk := hid (show gk - 1 < gk ∧ i + 1 + (gk - 1) = pn by have := HI.out; omega)
    obtain ⟨W5, hW5⟩ : ∃ W, W = wr.alloc (.cells #[.slice D dn dc] 24) := ⟨_, rfl⟩
    have B5 : Below wr.heap.size wr W5 := by rw [hW5]; exact (Below.refl _ _).alloc (Nat.le_refl _) _
    have f5 := f.next B5
    have ho5 := Own.next ho B5
    have cp : W5.cell? ⟨wr.heap.size, 0, none⟩ = some (.slice D dn dc) := by rw [hW5]; exact (Row.new _ _ _).cell 0
    have sp : Seg W5 W5.heap.size D dn (ps.getD i []) := (hsg.more (Nat.le_of_lt f.size)).next B5
    have s5 := f5.s'.more (Nat.le_of_lt f5.size)
    have LM := hid (containsFunc 53 #[.pointer (some ⟨w.heap.size, 0, none⟩), .pointer (some ⟨wr.heap.size, 0, none⟩)] (enters_of Try.func53 (by kernel_rfl) rfl) _ (some ⟨b, off, none⟩) pn pc ps W5 (testMore w.heap.size wr.heap.size A D n c dn dc sg (ps.getD i []) W5 f5.cell cp f5.s1 sp hn hdn hcap) s5 (by omega) HE.out)
    have TV := hid (testVariant w.heap.size wr.heap.size A D n c dn dc sg (ps.getD i []) W5 f5.cell cp f5.s1 sp hn hdn)
    have ST := hid (segs_take (i := i) s5 (by omega))
    have HB := hid (best_any (sg := sg) (ps := ps) (i := i) (by rw [HL.out]; omega))
    have HE2 := hid (show mgN sg ps (i + 1) = mgN sg ps i ++ (if bestB sg ps i = true then [(i : Int)] else []) from rfl)
    have HW5 := hid hW5
    have z0 := f.size
    clear hW5 f ho sp s5 cp hsg hcap B5
    obtain ⟨v1, hv1⟩ : ∃ v, (ps.any fun q => moreB sg q (ps.getD i [])) = v := ⟨_, rfl⟩
    have HV1 := hid hv1
    rw [hv1] at LM
    clear hv1
    cases v1 with
    | true =>
     have HN := hid (show bestB sg ps i = false by rw [HB.out, HV1.out]; rfl)
     go_wp2_with fail
     rw [← HW5.out]
     refine LM.out.mono ?_
     rintro e w6 ⟨rfl, bb⟩
     have S : HeadMg w A n c sg (some ⟨b, off, none⟩) pn ps (gk - 1) (.slice O on oc) (.int .i64 ((i : Int) + 1)) w6 := ⟨i + 1, O, on, oc, by simp, hgk.out.2, rfl, by rw [HE2.out, HN.out]; simpa using Own.next ho5 bb, f5.next bb⟩
     have HSS := hid S
     clear S ho5 f5 bb LM hc
     go_wp2
     go_roundg (gk - 1)
     case measure => exact hgk.out.1
     case rel => exact HSS.out
    | false =>
     have i0 : (0 : Int) ≤ (i : Int) := by omega
     have i1 : (i : Int) ≤ (pc : Int) := by omega
     have i3 : ¬ pc = 0 := by omega
     obtain ⟨v2, hv2⟩ : ∃ v, ((ps.take i).any fun q => variantB sg q (ps.getD i [])) = v := ⟨_, rfl⟩
     have HV2 := hid hv2
     clear hv2
     have HN := hid (show bestB sg ps i = !v2 by rw [HB.out, HV1.out, HV2.out]; rfl)
     go_wp2_with fail
     rw [← HW5.out]
     refine LM.out.mono ?_
     rintro e w6 ⟨rfl, bb⟩
     have LV := hid (containsFunc 55 #[.pointer (some ⟨w.heap.size, 0, none⟩), .pointer (some ⟨wr.heap.size, 0, none⟩)] (enters_of Try.func55 (by kernel_rfl) rfl) _ (some ⟨b, off, none⟩) i pc (ps.take i) w6 (TV.out.next bb) (ST.out.next bb) (by omega) (take_each HE.out))
     have f6 := f5.next bb
     have ho6 := Own.next ho5 bb
     rw [HV2.out] at LV
     clear bb f5 ho5 LM TV ST hc
     cases v2 with
     | true =>
      go_wp2_with fail
      refine LV.mono ?_
      rintro e w7 ⟨rfl, bb⟩
      have S : HeadMg w A n c sg (some ⟨b, off, none⟩) pn ps (gk - 1) (.slice O on oc) (.int .i64 ((i : Int) + 1)) w7 := ⟨i + 1, O, on, oc, by simp, hgk.out.2, rfl, by rw [HE2.out, HN.out]; simpa using Own.next ho6 bb, f6.next bb⟩
      have HSS := hid S
      clear S ho6 f6 bb LV
      go_wp2
      go_roundg (gk - 1)
      case measure => exact hgk.out.1
      case rel => exact HSS.out
     | false =>
      go_wp2_with fail
      refine LV.mono ?_
      rintro e w7 ⟨rfl, bb⟩
      have f7 := f6.next bb
      have ho7 := Own.next ho6 bb
      have z1 : w.heap.size + 1 ≤ w7.heap.size := f7.size
      clear bb LV f6 ho6
      go_wp2_with (at_builtin; refine app1 rfl _ _ rfl (w.heap.size + 1) O on oc _ rfl (Own.alloc ho7 _) w7.heap.size 1 (i : Int) rfl ((Row.new _ _ _).cell 0) (by omega) (by simp; omega) ?_; intro O' oc' w8 ho8 b8)
      have S : HeadMg w A n c sg (some ⟨b, off, none⟩) pn ps (gk - 1) (.slice O' (on + 1) oc') (.int .i64 ((i : Int) + 1)) w8 := ⟨i + 1, O', on + 1, oc', by simp, hgk.out.2, rfl, by rw [HE2.out, HN.out]; exact ho8, (f7.alloc _).over b8⟩
      have HSS := hid S
      clear S ho7 ho8 f7 b8
      go_wp2
      go_roundg (gk - 1)
      case measure => exact hgk.out.1
      case rel => exact HSS.out
   ·have hip2 : i = pn := by have := HI.out; omega
    have F := hid (list_of (w := w) (show mgI sg ps = mgN sg ps i by rw [HF.out, hip2]) ho (Nat.le_succ _) f.b)
    clear ho f hip2
    go_wp2
    go_ret
    exact F.out
end matchImplC
end
section
namespace bigs
open Go.RowKit base ints
theorem bigAns (A : Option Addr) (n c : Nat) (b : Bool) (w : World) (hb : decide (4096 < n) = b) (hn : n ≤ 9223372036854775807) : Calls Try.prog 7 #[.slice A n c] w fun e w' => w = w' ∧ e = .returned (.bool b) := by
 cases b with
 | true =>
  have h : (4096 : Int) < (n : Int) := by have := of_decide_eq_true hb; omega
  clear hb
  go_enter Try.func7, Try.ntmps7
  go_wp2
  go_ret
  exact ⟨rfl, rfl⟩
 | false =>
  have h : ¬ (4096 : Int) < (n : Int) := by have := of_decide_eq_false hb; omega
  have h2 : decide (4096 < n) = false := hb
  clear hb
  go_enter Try.func7, Try.ntmps7
  go_wp2
  go_ret
  exact ⟨rfl, rfl⟩
end bigs
end
section
namespace lawT
open Go.RowKit base ints segs
set_option maxRecDepth 100000
structure T1 (w : World) (v3 : Nat) (S : Option Addr) (sn sc : Nat) (sg : List Int) (O : Option Addr) (on : Nat) (p : List Int) (Q : Option Addr) (qn : Nat) (t : List Int) (wr : World) : Prop where
 s : Seg wr wr.heap.size S sn sg
 o : Seg wr wr.heap.size O on p
 q : Seg wr wr.heap.size Q qn t
 r3 : Row wr v3 26 #[.slice S sn sc]
 bel : Below w.heap.size w wr
section
variable {w : World} {v3 : Nat} {S : Option Addr} {sn sc : Nat} {sg : List Int} {O : Option Addr} {on : Nat} {p : List Int} {Q : Option Addr} {qn : Nat} {t : List Int} {wr w' : World}
theorem T1.next (f : T1 w v3 S sn sc sg O on p Q qn t wr) (hb : Below wr.heap.size wr w') : T1 w v3 S sn sc sg O on p Q qn t w' :=
 ⟨f.s.next hb, f.o.next hb, f.q.next hb, f.r3.next hb, next_trans f.bel hb⟩
end
structure Sv (wr : World) (v : Nat) (D : Option Addr) (dn dc : Nat) (xss : List (List Int)) : Prop where
 r : Row wr v 31 #[.slice D dn dc]
 s : Segs wr wr.heap.size D dn xss
section
variable {v : Nat} {D : Option Addr} {dn dc : Nat} {xss : List (List Int)} {wr w' : World}
theorem Sv.next (f : Sv wr v D dn dc xss) (hb : Below wr.heap.size wr w') : Sv w' v D dn dc xss := ⟨f.r.next hb, f.s.next hb⟩
end
theorem below_alloc (w : World) (x : Obj) : Below w.heap.size w (w.alloc x) := (Below.refl _ _).alloc (Nat.le_refl _) _
theorem below_drewN (w : World) (d : Nat) : Below w.heap.size w (w.drewN d) := ⟨rfl, rfl, rfl, Nat.le_refl _, fun _ _ => rfl⟩
theorem like (A A' : Option Addr) (n c c' : Nat) (xs : List Int) (w : World) (h : Seg w w.heap.size A n xs) (h' : Seg w w.heap.size A' n xs) (hn : n ≤ 1048576) :
  Calls Try.prog 19 #[.slice A n c, .slice A' n c'] w fun e w' => e = .returned (.bool true) ∧ ∃ d, w' = w.drewN d := by
 go_enter Try.func19, Try.ntmps19
 go_wp2
 go_loopw [5] (fun i wr => ∃ k d : Nat, k ≤ n ∧ i = .int .i64 k ∧ wr = w.drewN d) (fun i _ => n - (intOf i).toNat)
 case atStart => exact ⟨0, 0, Nat.zero_le _, rfl, rfl⟩
 case round =>
  obtain ⟨k, d, hk, rfl, rfl⟩ := hrel
  by_cases hlt : k < n
  ·obtain ⟨b, off, x, rfl, -, hx, ex⟩ := h.spot hlt
   obtain ⟨b', off', y, rfl, -, hy, ey⟩ := h'.spot hlt
   obtain rfl : x = y := by rw [← ex.out, ← ey.out]
   clear h h' ex ey
   go_wp2
   go_quiet (fail)
   go_wp2
   go_roundw
   case rel => exact ⟨k + 1, _, hlt, by simp, rfl⟩
   case measure => simp [intOf]; omega
  ·clear h h'
   go_wp2
   go_ret
   exact ⟨rfl, _, rfl⟩
end lawT
end
section
open Go.Lib (hid)
namespace wFnGeneral
open Go.RowKit base ints sig same term cursor termOk endAt sub marks app sym segs segsHelp dice inside Go.Proofs.Ytgfgaeagbipobaa.look drawSub drawVar drawGeneral matchMath matchSpec matchList matchMost matchImpl matchImplB matchImplC bigs lawT plainOf
set_option maxRecDepth 100000
theorem mg_mem {sg : List Int} {ps : List (List Int)} : ∀ {m : Nat} {x : Int}, x ∈ mgN sg ps m → ∃ j : Nat, j < m ∧ x = (j : Int)
 | 0, x, h => absurd h (List.not_mem_nil)
 | m + 1, x, h => by
  simp only [mgN] at h
  rcases List.mem_append.1 h with h | h
  ·obtain ⟨j, h1, h2⟩ := mg_mem h
   exact ⟨j, by omega, h2⟩
  ·split at h
   ·rw [List.mem_singleton] at h; exact ⟨m, by omega, h⟩
   ·exact absurd h (List.not_mem_nil)
theorem mg_in {sg : List Int} {ps : List (List Int)} {j : Nat} (hb : bestB sg ps j = true) : ∀ {m : Nat}, j < m → (j : Int) ∈ mgN sg ps m
 | 0, h => absurd h (Nat.not_lt_zero _)
 | m + 1, h => by
  simp only [mgN]
  by_cases e : j = m
  ·subst e
   rw [if_pos hb]
   exact List.mem_append_right _ (List.mem_singleton.2 rfl)
  ·exact List.mem_append_left _ (mg_in hb (by omega))
def hits (sg : List Int) (ps : List (List Int)) (i : Nat) (x : Int) : Bool := instB sg (ps.getD x.toNat []) (ps.getD i [])
theorem mg_any {sg : List Int} {ps : List (List Int)} {i : Nat} (hok : allB sg ps = true) (hi : i < ps.length) : (mgN sg ps ps.length).any (hits sg ps i) = true := by
 obtain ⟨k, h1, h2, h3⟩ := best_ex (all_parts hok).2.2 _ i (Nat.le_refl _) hi
 rw [List.any_eq_true]
 exact ⟨(k : Int), mg_in h2 h1, by unfold hits; rw [Int.toNat_natCast]; exact h3⟩
theorem any_succ {f : Int → Bool} {ls : List Int} {k : Nat} (hk : k < ls.length) : (ls.take (k + 1)).any f = ((ls.take k).any f || f (ls.getD k 0)) := by
 rw [List.take_succ_eq_append_getElem hk, List.any_append]
 simp [List.getD, hk]
theorem mg_all {sg : List Int} {ps : List (List Int)} (h : mgI sg ps ≠ []) : allB sg ps = true ∧ mgI sg ps = mgN sg ps ps.length := by
 unfold mgI at h ⊢
 by_cases e : allB sg ps = true
 ·rw [if_pos e] at h ⊢; exact ⟨e, rfl⟩
 ·rw [if_neg e] at h; exact absurd rfl h
theorem ma_some {sg : List Int} {ps : List (List Int)} {j : Nat} (hok : allB sg ps = true) (hj : j < ps.length) : 0 < (maI sg ps (ps.getD j [])).length := by
 have ht := (all_parts hok).2.2 j hj
 rw [ma_yes hok ht]
 have key : ∀ m, j < m → 0 < (maN sg ps (ps.getD j []) m).length := by
  intro m
  induction m with
  | zero => intro h; omega
  | succ m ih =>
   intro h
   simp only [maN, List.length_append]
   by_cases e : j = m
   ·subst e
    rw [inst_refl ht]; simp
   ·have := ih (by omega); omega
 exact key _ hj
structure T2 (w : World) (v3 : Nat) (S : Option Addr) (sn sc : Nat) (sg : List Int) (B : Option Addr) (m : Nat) (ps : List (List Int)) (L : Option Addr) (ln : Nat) (ls : List Int) (wr : World) : Prop where
 s : Seg wr wr.heap.size S sn sg
 b : Segs wr wr.heap.size B m ps
 l : Seg wr wr.heap.size L ln ls
 r3 : Row wr v3 26 #[.slice S sn sc]
 bel : Below w.heap.size w wr
section
variable {w : World} {v3 : Nat} {S : Option Addr} {sn sc : Nat} {sg : List Int} {B : Option Addr} {m : Nat} {ps : List (List Int)} {L : Option Addr} {ln : Nat} {ls : List Int} {wr w' : World}
theorem T2.next (f : T2 w v3 S sn sc sg B m ps L ln ls wr) (hb : Below wr.heap.size wr w') : T2 w v3 S sn sc sg B m ps L ln ls w' :=
 ⟨f.s.next hb, f.b.next hb, f.l.next hb, f.r3.next hb, next_trans f.bel hb⟩
theorem T2.drew (f : T2 w v3 S sn sc sg B m ps L ln ls wr) : T2 w v3 S sn sc sg B m ps L ln ls wr.drew := ⟨f.s, f.b, f.l, f.r3, f.bel.drew⟩
theorem T2.cell (f : T2 w v3 S sn sc sg B m ps L ln ls wr) : wr.cell? ⟨v3, 0, none⟩ = some (.slice S sn sc) := f.r3.cell 0
end
def HeadO (w : World) (v3 : Nat) (S : Option Addr) (sn sc : Nat) (sg : List Int) (B : Option Addr) (m : Nat) (ps : List (List Int)) (L : Option Addr) (ln : Nat) (ls : List Int) (g : Nat) (i_ : Value) (wr : World) : Prop :=
 ∃ i : Nat, i_ = .int .i64 i ∧ i + g = m ∧ T2 w v3 S sn sc sg B m ps L ln ls wr
def HeadI (w : World) (v3 : Nat) (S : Option Addr) (sn sc : Nat) (sg : List Int) (B : Option Addr) (m : Nat) (ps : List (List Int)) (L : Option Addr) (ln : Nat) (ls : List Int) (i : Nat) (g : Nat) (some_ k_ : Value) (wr : World) : Prop :=
 ∃ k : Nat, k_ = .int .i64 k ∧ k + g = ln ∧ some_ = .bool ((ls.take k).any (hits sg ps i)) ∧ T2 w v3 S sn sc sg B m ps L ln ls wr
set_option maxHeartbeats 8000000 in
theorem law (A : Option Addr) (n c : Nat) (_ : List Int) (w : World) (h : SegB w w.heap.size A n) (hN : n ≤ 9223372036854775807) :
  Calls Try.prog 4 #[.slice A n c] w (Fine w) := by
 by_cases hbig : n ≤ 4096
 ·have LB := hid (bigAns A n c false w (by simp; omega) hN)
  go_enter Try.func4, Try.ntmps4
  go_wp2_with fail
  refine LB.out.mono ?_
  rintro e w' ⟨rfl, rfl⟩
  clear LB
  go_wp2_with fail
  refine (drawMostGeneral A n c w h hbig).mono ?_
  rintro e w2 ⟨S, sn, sc, sg, B, m, cB, ps, rfl, s1, s2, hcB, hsn, hsm, b2⟩
  obtain ⟨v3, h3⟩ : ∃ v, w2.heap.size = v := ⟨_, rfl⟩
  obtain ⟨W, hW⟩ : ∃ W, W = w2.alloc (.cells #[.slice S sn sc] 26) := ⟨_, rfl⟩
  have T : T2 w v3 S sn sc sg B m ps none 0 [] W := by
   have bb : Below w2.heap.size w2 W := by rw [hW]; exact below_alloc _ _
   exact ⟨s1.next bb, s2.next bb, Seg.empty, by rw [hW, ← h3]; exact Row.new _ _ _, next_trans b2 bb⟩
  have HW := hid hW
  have H3 := hid h3
  have HM := hid s2.1
  have HE := hid hsm.2
  have hm := hsm.1
  have ht : tot ps ≤ 1048576 := by have h1 := tot_le (M := 65) hsm.2; rw [s2.1] at h1; have h2 : m * 65 ≤ 13 * 65 := Nat.mul_le_mul_right _ hm; omega
  have HTT := hid ht
  have c30 : (w2.alloc (.cells #[.slice S sn sc] 26)).cell? ⟨v3, 0, none⟩ = some (.slice S sn sc) := by rw [← hW]; exact T.cell
  have hc1 := hcB.1
  have hc2 := hcB.2.1
  clear h hW h3 b2 s1 s2 hcB hsm ht
  have c3 := T.cell
  obtain ⟨ls, hls⟩ : ∃ x, mgI sg ps = x := ⟨_, rfl⟩
  have HX := hid hls
  have hll : ls.length ≤ 13 := by
   rw [← hls]
   unfold mgI
   split
   ·exact Nat.le_trans (mg_len _) (by rw [HM.out]; exact hm)
   ·simp
  clear hls
  go_wp2_with fail
  rw [← HW.out, H3.out]
  refine (implMostGeneral S B sn sc m cB sg ps W T.s T.b (by omega) HTT.out hc1 hc2).mono ?_
  rintro e w4 ⟨L, ln, lc, rfl, ol, bb⟩
  rw [HX.out] at ol
  have sl := Own.seg ol
  have hln : ln ≤ 13 := by rw [Own.len ol]; exact hll
  replace T : T2 w v3 S sn sc sg B m ps L ln ls w4 := ⟨T.s.next bb, T.b.next bb, sl, T.r3.next bb, next_trans T.bel bb⟩
  clear bb ol c30 sl
  replace c3 := T.cell
  go_wp2_with fail
  refine (specMostGeneral S B sn sc m cB sg ps w4 T.s T.b (by omega) HTT.out).mono ?_
  rintro e w5 ⟨M, mn, mc, rfl, om, bb⟩
  rw [HX.out] at om
  have sm := Own.seg om
  obtain rfl : ln = mn := by rw [Own.len om, ← T.l.1]
  replace T := T.next bb
  clear bb om
  replace c3 := T.cell
  go_wp2_with fail
  refine (like L M ln lc mc ls w5 T.l sm (by omega)).mono ?_
  rintro e w6 ⟨rfl, d, rfl⟩
  have bb := below_drewN w5 d
  replace T := T.next bb
  clear bb sm
  generalize w5.drewN d = w6 at *
  replace c3 := T.cell
  by_cases hl0 : ln = 0
  ·subst hl0
   have hls0 : ls = [] := List.eq_nil_of_length_eq_zero T.l.1
   have HX0 := hid (HX.out.trans hls0)
   clear hls0
   by_cases hm0 : m = 0
   ·subst hm0
    have TB := hid T.bel
    clear T c3
    go_wp2_with fail
    go_ret
    exact ⟨rfl, TB.out⟩
   ·by_cases hm12 : 12 < m
    ·have TB := hid T.bel
     have hz : ((m : Int) == 0) = false := by simp; omega
     clear T c3
     go_wp2_with fail
     go_ret
     exact ⟨rfl, TB.out⟩
    ·have hz : ((m : Int) == 0) = false := by simp; omega
     go_wp2_with fail
     refine (specMostGeneral S B sn sc m cB sg ps _ T.s T.b (by omega) HTT.out).mono ?_
     rintro e w7 ⟨M', mn', mc', rfl, om, bb⟩
     rw [HX0.out] at om
     obtain rfl : mn' = 0 := Own.len om
     have TB := hid (T.next bb).bel
     clear T c3 om bb
     go_wp2_with fail
     go_ret
     exact ⟨rfl, TB.out⟩
  ·have hlz : ((ln : Int) == 0) = false := by simp; omega
   have hne : mgI sg ps ≠ [] := fun e => hl0 (by rw [← T.l.1, ← HX.out, e]; rfl)
   have HALL := hid (mg_all hne).1
   have HMG := hid (show ls = mgN sg ps m by rw [← HX.out, (mg_all hne).2, HM.out])
   have HLN := hid T.l.1
   have HEACH : Hid (∀ k, k < ln → ∃ j : Nat, j < m ∧ ls.getD k 0 = (j : Int)) := hid (fun k hk => by
    have hmem : ls.getD k 0 ∈ mgN sg ps m := by
     rw [← HMG.out]
     have : k < ls.length := by rw [HLN.out]; exact hk
     simp [List.getD, this]
    exact mg_mem hmem)
   have S0 : HeadO w v3 S sn sc sg B m ps L ln ls m (.int .i64 0) w6 := ⟨0, rfl, by omega, T⟩
   have HS0 := hid S0
   clear hne S0 T c3
   go_wp2_with fail
   go_loopg [6] m (fun g i wr => HeadO w v3 S sn sc sg B m ps L ln ls g i wr)
   case atStart => exact HS0.out
   case round =>
    obtain ⟨i, rfl, hi, T⟩ := hrel
    obtain ⟨G, hG⟩ : ∃ G, G = gk := ⟨_, rfl⟩
    subst hG
    clear HS0
    have HI := hid hi
    clear hi
    by_cases him : i < m
    ·have hGk := hid (show G - 1 < G ∧ i + 1 + (G - 1) = m by have := HI.out; omega)
     have S1 : HeadI w v3 S sn sc sg B m ps L ln ls i ln (.bool false) (.int .i64 0) wr := ⟨0, rfl, by omega, by rw [List.take_zero]; rfl, T⟩
     have HS1 := hid S1
     clear S1 T
     go_wp2_with fail
     go_loopg [7, 8] ln (fun g s k wr => HeadI w v3 S sn sc sg B m ps L ln ls i g s k wr)
     case atStart => exact HS1.out
     case round =>
      obtain ⟨k, rfl, hk, rfl, T⟩ := hrel
      clear HS1
      have HK := hid hk
      clear hk
      by_cases hkl : k < ln
      ·have hgk := hid (show gk - 1 < gk ∧ k + 1 + (gk - 1) = ln by have := HK.out; omega)
       obtain ⟨sv, hsv⟩ : ∃ b, (ls.take k).any (hits sg ps i) = b := ⟨_, rfl⟩
       have HAS := hid (show (ls.take (k + 1)).any (hits sg ps i) = (sv || hits sg ps i (ls.getD k 0)) by rw [any_succ (by rw [HLN.out]; exact hkl), hsv])
       rw [hsv]
       clear hsv
       cases sv with
       | true =>
        have HN := hid (fun d => (show T2 w v3 S sn sc sg B m ps L ln ls (wr.drewN d) from T.next (below_drewN wr d)))
        clear T
        go_wp2_with fail
        go_quiet (fail)
        have S2 : HeadI w v3 S sn sc sg B m ps L ln ls i (gk - 1) (.bool true) (.int .i64 ((k : Int) + 1)) (wr.drewN nq) := ⟨k + 1, by simp, hgk.out.2, by rw [HAS.out]; rfl, HN.out nq⟩
        have HS2 := hid S2
        clear S2 HN
        go_wp2
        go_roundg (gk - 1)
        case measure => exact hgk.out.1
        case rel => exact HS2.out
       | false =>
        obtain ⟨j, hj, hjx⟩ := HEACH.out k hkl
        obtain ⟨bl, ol, x, rfl, hbl, hx, ex⟩ := T.l.spot hkl
        obtain rfl : x = (j : Int) := by rw [← ex.out, hjx]
        obtain ⟨b, off, D, dn, dc, rfl, hbb, hcj, hsj, hcapj⟩ := T.b.spot hj
        obtain ⟨b', off', E, en, ec, e', -, hci, hsi, hcapi⟩ := T.b.spot him
        injection e' with e'
        injection e' with e1 e2
        subst e1 e2
        obtain ⟨yj, hyj⟩ : ∃ ys, ps.getD j [] = ys := ⟨_, rfl⟩
        obtain ⟨yi, hyi⟩ : ∃ ys, ps.getD i [] = ys := ⟨_, rfl⟩
        rw [hyj] at hsj
        rw [hyi] at hsi
        have hdn : dn ≤ 65 := by rw [← hsj.1, ← hyj]; exact HE.out j
        have hen : en ≤ 65 := by rw [← hsi.1, ← hyi]; exact HE.out i
        obtain ⟨bi, hbi⟩ : ∃ b, instB sg yj yi = b := ⟨_, rfl⟩
        have HBI := hid hbi
        have HA2 := hid (show (ls.take (k + 1)).any (hits sg ps i) = bi by rw [HAS.out, ex.out]; unfold hits; rw [Int.toNat_natCast, hyj, hyi, hbi]; rfl)
        have hci1 := hcapi.1
        have hci2 := hcapi.2.1
        have c3 := T.drew.cell
        have d1 : wr.drew.cell? ⟨bl, ol + k, none⟩ = some (.int .i64 (j : Int)) := hx
        have d2 : wr.drew.cell? ⟨b, off + j, none⟩ = some (.slice D dn dc) := hcj
        have d3 : wr.drew.cell? ⟨b, off + i, none⟩ = some (.slice E en ec) := hci
        have LI := hid (implInstanceIn S D E sn sc dn dc en ec sg yj yi wr.drew T.drew.s hsj.drew hsi.drew (by omega) (by omega) (by omega) hci1 hci2)
        have HT := hid T.drew
        have i0 : (0 : Int) ≤ (k : Int) := by omega
        have i1 : (k : Int) < (ln : Int) := by omega
        have i2 : (0 : Int) ≤ (j : Int) := by omega
        have i3 : (j : Int) < (m : Int) := by omega
        have i4 : (0 : Int) ≤ (i : Int) := by omega
        have i5 : (i : Int) < (m : Int) := by omega
        clear hsj hsi hcapj hcapi hx hcj hci hjx hyj hyi hbi T ex HAS
        go_wp2_with fail
        go_region_held3 (fun w' => w'.cell? ⟨v3, 0, none⟩ = some (.slice S sn sc) ∧ w'.cell? ⟨bl, ol + k, none⟩ = some (.int .i64 (j : Int)) ∧ w'.cell? ⟨b, off + j, none⟩ = some (.slice D dn dc) ∧ w'.cell? ⟨b, off + i, none⟩ = some (.slice E en ec))
         (first | exact ⟨by assumption, by assumption, by assumption, by assumption⟩ | go_keep)
         (first
          | (go_at_call 14; refine LI.out.mono ?_; rintro e w9 ⟨he, b9⟩; rw [HBI.out] at he; subst he; have T9 := HT.out.next b9; have c9 := T9.cell; have e1 : w9.cell? ⟨bl, ol + k, none⟩ = some (.int .i64 (j : Int)) := (b9.cell (p := ⟨bl, ol + k, none⟩) hbl).trans d1; have e2 : w9.cell? ⟨b, off + j, none⟩ = some (.slice D dn dc) := (b9.cell (p := ⟨b, off + j, none⟩) hbb).trans d2; have e3 : w9.cell? ⟨b, off + i, none⟩ = some (.slice E en ec) := (b9.cell (p := ⟨b, off + i, none⟩) hbb).trans d3))
        have S2 : HeadI w v3 S sn sc sg (some ⟨b, off, none⟩) m ps (some ⟨bl, ol, none⟩) ln ls i (gk - 1) (.bool bi) (.int .i64 ((k : Int) + 1)) w9 := ⟨k + 1, by simp, hgk.out.2, by rw [HA2.out], T9⟩
        have HS2 := hid S2
        clear S2 T9 HT LI b9 c9 e1 e2 e3 c3 d1 d2 d3
        go_wp2
        go_roundg (gk - 1)
        case measure => exact hgk.out.1
        case rel => exact HS2.out
      ·have hkn : k = ln := by have := HK.out; omega
       have HTR := hid (show (ls.take k).any (hits sg ps i) = true by
        rw [hkn, List.take_of_length_le (by rw [HLN.out]; exact Nat.le_refl _), HMG.out, ← HM.out]
        exact mg_any HALL.out (by rw [HM.out]; exact him))
       rw [HTR.out]
       have S3 : HeadO w v3 S sn sc sg B m ps L ln ls (G - 1) (.int .i64 ((i : Int) + 1)) wr := ⟨i + 1, by simp, hGk.out.2, T⟩
       have HS3 := hid S3
       clear S3 T hkn
       go_wp2
       go_roundg (G - 1)
       case measure => exact hGk.out.1
       case rel => exact HS3.out
    ·obtain ⟨j, hj, hjx⟩ := HEACH.out 0 (by omega)
     obtain ⟨bl, ol, x, rfl, hbl, hx, ex⟩ := T.l.spot (k := 0) (by omega)
     obtain rfl : x = (j : Int) := by rw [← ex.out, hjx]
     obtain ⟨b, off, D, dn, dc, rfl, hbb, hcj, hsj, hcapj⟩ := T.b.spot hj
     have hdn : dn ≤ 65 := by rw [← hsj.1]; exact HE.out j
     have HPOS := hid (ma_some (ps := ps) (j := j) HALL.out (by rw [HM.out]; exact hj))
     have hcj1 := hcapj.1
     have hcj2 := hcapj.2.1
     have c3 := T.drew.cell
     have d1 : wr.drew.cell? ⟨bl, ol, none⟩ = some (.int .i64 (j : Int)) := hx
     have d2 : wr.drew.cell? ⟨b, off + j, none⟩ = some (.slice D dn dc) := hcj
     have LI := hid (implMatchedAll S (some ⟨b, off, none⟩) D sn sc m cB dn dc sg ps (ps.getD j []) wr.drew T.drew.s T.drew.b hsj.drew (by omega) HTT.out (by omega) hcj1 hcj2)
     have HT := hid T.drew
     have i1 : (0 : Int) < (ln : Int) := by omega
     have i4 : 0 < ln := by omega
     have i2 : (0 : Int) ≤ (j : Int) := by omega
     have i3 : (j : Int) < (m : Int) := by omega
     clear hsj hcapj hx hcj hjx T ex
     go_wp2_with fail
     go_region_held3 (fun w' => w'.cell? ⟨v3, 0, none⟩ = some (.slice S sn sc) ∧ w'.cell? ⟨bl, ol, none⟩ = some (.int .i64 (j : Int)) ∧ w'.cell? ⟨b, off + j, none⟩ = some (.slice D dn dc))
      (first | exact ⟨by assumption, by assumption, by assumption⟩ | go_keep)
      (first
       | (go_at_call 21; refine LI.out.mono ?_; rintro e w9 ⟨X, xn, xc, rfl, ox, b9⟩; have T9 := HT.out.next b9; have c9 := T9.cell; have e1 : w9.cell? ⟨bl, ol, none⟩ = some (.int .i64 (j : Int)) := (b9.cell (p := ⟨bl, ol, none⟩) hbl).trans d1; have e2 : w9.cell? ⟨b, off + j, none⟩ = some (.slice D dn dc) := (b9.cell (p := ⟨b, off + j, none⟩) hbb).trans d2))
     have hx1 : (0 : Int) < (xn : Int) := by have := HPOS.out; rw [← Own.len ox] at this; omega
     have TB := hid T9.bel
     clear T9 HT LI b9 c9 e1 e2 c3 d1 d2 ox
     go_wp2
     go_ret
     exact ⟨by simp; omega, TB.out⟩
 ·have LB := hid (bigAns A n c true w (by simp; omega) hN)
  clear h
  go_enter Try.func4, Try.ntmps4
  go_wp2_with fail
  refine LB.out.mono ?_
  rintro e w' ⟨rfl, rfl⟩
  clear LB
  go_wp2
  go_ret
  exact ⟨rfl, Below.refl _ _⟩
end wFnGeneral
end
end Go.Proofs.Ytgfgaeagbipobaa
