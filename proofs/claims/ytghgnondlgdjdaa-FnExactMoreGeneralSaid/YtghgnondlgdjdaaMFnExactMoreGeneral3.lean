/-
  MERGED: my texts MatchImpl, MatchImplB, AnyOf, MatchImplC, MatchTot, WMoreGeneral, one behind the other, as they are. By an AI agent.
-/
import Derived.Test.YtghgnondlgdjdaaMFnExactMoreGeneral2
import Derived.Deep.WholeRow
import Derived.Shelf.Abstract
import Derived.Deep.RegionHeld3
namespace Go.Proofs.Ytghgnondlgdjdaa
section
open Go.Lib (hid)
namespace matchImpl
open Go.RowKit base ints sig same term termOk endAt inside marks app sym sub segs segsHelp kinds termFacts termMath posMath plainMath plain plainOf gives cursor fillMath matchMath matchSpec matchList matchMost whole takeMath take extended
set_option maxRecDepth 100000
theorem plain_s0 : plainL (givesL s0) 24 = [] := by
 have h : ∀ i, 0 ≤ i → givesL s0 i = vt i := fun i _ => gives_var (by rw [s0_get]; rfl)
 rw [plain_24 (m := 0) (by omega) h]
 rfl
theorem res_get (R : Option (List (List Int))) : plainL (givesL (R.getD s0)) 24 = resL R := by
 cases R with
 | none => exact plain_s0
 | some s => rfl
set_option maxHeartbeats 1000000 in
theorem implMatched (A P Q : Option Addr) (n c pn pc m mc : Nat) (sg p t : List Int) (w : World) (h : Seg w w.heap.size A n sg) (hp : Seg w w.heap.size P pn p) (ht : Seg w w.heap.size Q m t) (hn : n ≤ 1048576) (hpn : pn ≤ 1048576) (hm : m ≤ 1048576) (hmc : m ≤ mc) (hmc2 : mc ≤ 9223372036854775807) :
  Calls Try.prog 37 #[.agg #[.slice A n c], .slice P pn pc, .slice Q m mc] w (AnsM w (resL (matchO sg p t)) (instB sg p t)) := by
 obtain ⟨W, hW⟩ : ∃ W, W = (w.alloc (.cells #[.slice A n c] 32)).alloc (.cells #[.slice none 0 0] 30) := ⟨_, rfl⟩
 have M : Mr w W A n c sg P pn p Q m t := by rw [hW]; exact Mr.start h hp ht
 have HW := hid hW
 have L := hid (implTermOk A P n c pn pc sg p W M.ss M.sp hn hpn)
 have c0 : W.cell? ⟨w.heap.size, 0, none⟩ = some (.slice A n c) := M.r0.cell 0
 have c00 : ((w.alloc (.cells #[.slice A n c] 32)).alloc (.cells #[.slice none 0 0] 30)).cell? ⟨w.heap.size, 0, none⟩ = some (.slice A n c) := by rw [← hW]; exact c0
 clear hW h hp ht
 cases hokp : termOkB sg p with
 | false =>
  have HS := hid hokp
  clear hokp
  go_enter Try.func37, Try.ntmps37
  go_wp2_with fail
  rw [← HW.out]
  refine L.out.mono ?_
  rintro e w1 ⟨he, bb⟩
  rw [HS.out] at he
  subst he
  replace M := M.next bb
  have cR : w1.cell? ⟨w.heap.size + 1, 0, none⟩ = some (.slice none 0 0) := M.r1.cell 0
  have fR : w1.frozen? ⟨w.heap.size + 1, 0, none⟩ = false := M.r1.free 0
  have F1 := hid (ansM_off (w := w) (t := t) (.inl HS.out) M.b)
  have F2 := hid (ansM_off (w := w) (t := t) (.inl HS.out) ((M.b).setCell (p := ⟨w.heap.size + 1, 0, none⟩) (show w.heap.size ≤ w.heap.size + 1 by omega) (.slice none 0 0)))
  clear M L bb c0 c00
  go_wp2
  first
   | exact bodyPost_ret (v := .tuple #[.agg #[.slice none 0 0], .bool false]) (by simp [results, Try.results37, go_sem, cR]) rfl F1.out
   | exact bodyPost_ret (v := .tuple #[.agg #[.slice none 0 0], .bool false]) (by simp [results, Try.results37, go_sem, cR]) rfl F2.out
 | true =>
  have HSP := hid hokp
  have hp60 : pn ≤ 60 := by have h1 := (termOk_parts hokp).2.1; rw [M.sp.1] at h1; exact h1
  clear hokp
  cases hokt : termOkB sg t with
  | false =>
   have HS := hid hokt
   clear hokt
   go_enter Try.func37, Try.ntmps37
   go_wp2_with fail
   rw [← HW.out]
   refine L.out.mono ?_
   rintro e w1 ⟨he, bb⟩
   rw [HSP.out] at he
   subst he
   replace M := M.next bb
   clear bb L c0 c00
   have c0 : w1.cell? ⟨w.heap.size, 0, none⟩ = some (.slice A n c) := M.r0.cell 0
   go_wp2_with fail
   refine (implTermOk A Q n c m mc sg t _ M.ss M.st hn hm).mono ?_
   rintro e w2 ⟨he, bb⟩
   rw [HS.out] at he
   subst he
   replace M := M.next bb
   have cR : w2.cell? ⟨w.heap.size + 1, 0, none⟩ = some (.slice none 0 0) := M.r1.cell 0
   have fR : w2.frozen? ⟨w.heap.size + 1, 0, none⟩ = false := M.r1.free 0
   have F1 := hid (ansM_off (w := w) (p := p) (.inr HS.out) M.b)
   have F2 := hid (ansM_off (w := w) (p := p) (.inr HS.out) ((M.b).setCell (p := ⟨w.heap.size + 1, 0, none⟩) (show w.heap.size ≤ w.heap.size + 1 by omega) (.slice none 0 0)))
   clear M bb c0
   go_wp2
   first
    | exact bodyPost_ret (v := .tuple #[.agg #[.slice none 0 0], .bool false]) (by simp [results, Try.results37, go_sem, cR]) rfl F1.out
    | exact bodyPost_ret (v := .tuple #[.agg #[.slice none 0 0], .bool false]) (by simp [results, Try.results37, go_sem, cR]) rfl F2.out
  | true =>
   have HST := hid hokt
   have hm60 : m ≤ 60 := by have h1 := (termOk_parts hokt).2.1; rw [M.st.1] at h1; exact h1
   have HMO := hid (match_yes HSP.out hokt)
   have HIO := hid (show instB sg p t = (mst sg t p 0 s0).isSome by unfold instB; rw [HMO.out])
   clear hokt
   go_enter Try.func37, Try.ntmps37
   go_wp2_with fail
   rw [← HW.out]
   refine L.out.mono ?_
   rintro e w1 ⟨he, bb⟩
   rw [HSP.out] at he
   subst he
   replace M := M.next bb
   clear bb L c0 c00
   have c0 : w1.cell? ⟨w.heap.size, 0, none⟩ = some (.slice A n c) := M.r0.cell 0
   go_wp2_with fail
   refine (implTermOk A Q n c m mc sg t _ M.ss M.st hn hm).mono ?_
   rintro e w2 ⟨he, bb⟩
   rw [HST.out] at he
   subst he
   replace M := M.next bb
   clear bb c0
   have c0 : w2.cell? ⟨w.heap.size, 0, none⟩ = some (.slice A n c) := M.r0.cell 0
   have LX : Calls Try.prog 75 #[.agg z24, .slice P pn pc, .agg #[.slice A n c, .slice Q m mc, .int .i64 0]] w2 (AnsExt w2 (mst sg t p 0 s0)) :=
    extended A P Q n c pn pc m mc sg p t 0 z24 s0 w2 M.ss M.sp M.st hn hp60 hm60 hmc hmc2 (by rw [← M.st.1]; exact (term_len HST.out).1) HSP.out HST.out (TabR.new _ _) (fun j => by rw [s0_get]; simp)
   obtain ⟨R, hR⟩ : ∃ R, mst sg t p 0 s0 = R := ⟨_, rfl⟩
   rw [hR] at LX
   have HR := hid hR
   have HLX := hid LX
   clear LX hR
   have zw := M.r1.lt
   go_wp2_with (first
    | (refine rowBuild rfl 84 rfl z24 built_b ?_)
    | (go_at_call 75; refine HLX.out.mono ?_; rintro e w3 ⟨cs, rfl, tab, hsz, bb⟩; have one := hid tab.one; have h24 := hid tab.1; have bb3 := bb)
    | (refine rowAlloc rfl 84 rfl z24 zero_b ?_)
    | (refine rowStore rfl 84 _ _ rfl w3.heap.size cs z24 84 rfl rfl (heap_alloc_new w3 _) (by rw [h24.out]; exact size_b) (by rw [h24.out]; rfl) one.out ?_; rw [World.setRow_alloc_new])
    | (refine wpList_load_row rfl 84 _ rfl w3.heap.size rfl 84 cs (0, 0) _ (heap_alloc_new w3 _) Try.underlying84 rfl (by rw [h24.out]; exact size_b) ?_))
   have M3 := M.next bb
   have B4 : Below w3.heap.size w3 (w3.alloc (.cells cs 84)) := (Below.refl _ _).alloc (Nat.le_refl _) _
   have tab4 : TabR (w3.alloc (.cells cs 84)) (w3.alloc (.cells cs 84)).heap.size cs (R.getD s0) := (tab.below (B4.mono bb.size)).more (by have := bb.size; simp; omega)
   have LP := hid (plainB cs (R.getD s0) _ tab4 hsz)
   have M4 := M3.next B4
   have HI2 := hid (show instB sg p t = R.isSome by rw [HIO.out, HR.out])
   have HM2 := hid (show resL (matchO sg p t) = resL R by rw [HMO.out, HR.out])
   rw [res_get] at LP
   clear M M3 tab4 tab hsz bb bb3 one h24 HLX B4 c0
   refine LP.out.mono ?_
   rintro e w5 ⟨D, dn, dc, rfl, od, bb⟩
   have M5 := M4.next bb
   have z4 := M4.b.size
   have z5 := M4.r1.lt
   have cR : w5.cell? ⟨w.heap.size + 1, 0, none⟩ = some (.slice none 0 0) := M5.r1.cell 0
   have fR : w5.frozen? ⟨w.heap.size + 1, 0, none⟩ = false := M5.r1.free 0
   obtain ⟨b, hb⟩ : ∃ b, R.isSome = b := ⟨_, rfl⟩
   rw [hb]
   have F : AnsM w (resL (matchO sg p t)) (instB sg p t) (.returned (.tuple #[.agg #[.slice D dn dc], .bool b])) (w5.setCell ⟨w.heap.size + 1, 0, none⟩ (.slice D dn dc)) := by
    rw [HI2.out, HM2.out, hb]
    have hbt : Btw (w.heap.size + 1) (w.heap.size + 2) w5 (w5.setCell ⟨w.heap.size + 1, 0, none⟩ (.slice D dn dc)) := Btw.of_grown (grown_put (World.grownBy.refl _ _) _ _) (fun k hk => by injection hk; omega)
    have o2 := od.btw hbt (.inr (by simp at z5 ⊢; omega))
    exact ⟨D, dn, dc, rfl, o2.wider (by simp at z4 ⊢; omega) (by simp), (M5.b).setCell (p := ⟨w.heap.size + 1, 0, none⟩) (show w.heap.size ≤ w.heap.size + 1 by omega) _⟩
   have HF := hid F
   clear F od bb M4 M5 HIO hb LP
   go_wp2
   exact bodyPost_ret (v := .tuple #[.agg #[.slice D dn dc], .bool b]) (by simp [results, Try.results37, go_sem, cR]) rfl HF.out
set_option maxHeartbeats 1000000 in
theorem implInstanceIn (A P Q : Option Addr) (n c pn pc m mc : Nat) (sg p t : List Int) (w : World) (h : Seg w w.heap.size A n sg) (hp : Seg w w.heap.size P pn p) (ht : Seg w w.heap.size Q m t) (hn : n ≤ 1048576) (hpn : pn ≤ 1048576) (hm : m ≤ 1048576) (hmc : m ≤ mc) (hmc2 : mc ≤ 9223372036854775807) :
  Calls Try.prog 41 #[.agg #[.slice A n c], .slice P pn pc, .slice Q m mc] w (Tells w (instB sg p t)) := by
 obtain ⟨W, hW⟩ : ∃ W, W = w.alloc (.cells #[.slice A n c] 32) := ⟨_, rfl⟩
 have bW : Below w.heap.size w W := by rw [hW]; exact (Below.refl _ _).alloc (Nat.le_refl _) _
 have HW := hid hW
 have L := hid (implMatched A P Q n c pn pc m mc sg p t W (h.next bW) (hp.next bW) (ht.next bW) hn hpn hm hmc hmc2)
 clear hW h hp ht
 generalize instB sg p t = b at *
 go_enter Try.func41, Try.ntmps41
 go_wp2_with fail
 rw [← HW.out]
 refine L.out.mono ?_
 rintro e w1 ⟨D, dn, dc, rfl, od, bb⟩
 have F := hid (fun o => (show Tells w b (.returned (.bool b)) (w1.alloc o) from ⟨rfl, (next_trans bW bb).alloc (next_trans bW bb).size _⟩))
 clear od bb L bW
 go_wp2
 go_ret
 exact F.out _
set_option maxHeartbeats 1000000 in
theorem implMoreGeneral (A P Q : Option Addr) (n c pn pc m mc : Nat) (sg p t : List Int) (w : World) (h : Seg w w.heap.size A n sg) (hp : Seg w w.heap.size P pn p) (ht : Seg w w.heap.size Q m t) (hn : n ≤ 1048576) (hpn : pn ≤ 1048576) (hm : m ≤ 1048576) (hpc : pn ≤ pc) (hpc2 : pc ≤ 9223372036854775807) (hmc : m ≤ mc) (hmc2 : mc ≤ 9223372036854775807) :
  Calls Try.prog 50 #[.agg #[.slice A n c], .slice P pn pc, .slice Q m mc] w (Tells w (moreB sg p t)) := by
 obtain ⟨W, hW⟩ : ∃ W, W = w.alloc (.cells #[.slice A n c] 32) := ⟨_, rfl⟩
 have f : Fr w W A n c sg Q m t := by rw [hW]; exact Fr.start h ht
 have sp : Seg W W.heap.size P pn p := (hp.below f.b).more (Nat.le_of_lt f.size)
 have HW := hid hW
 have L := hid (implInstanceIn A P Q n c pn pc m mc sg p t W f.s1 sp f.t1 hn hpn hm hmc hmc2)
 clear hW h hp ht
 obtain ⟨b1, e1⟩ : ∃ b, instB sg p t = b := ⟨_, rfl⟩
 obtain ⟨b2, e2⟩ : ∃ b, instB sg t p = b := ⟨_, rfl⟩
 have HF := hid (show moreB sg p t = (b1 && !b2) by unfold moreB; rw [e1, e2])
 rw [e1] at L
 have E2 := hid e2
 clear e1 e2
 go_enter Try.func50, Try.ntmps50
 go_wp2_with fail
 rw [← HW.out]
 refine L.out.mono ?_
 rintro e w1 ⟨rfl, bb⟩
 replace f := f.next bb
 replace sp := sp.next bb
 have cA := f.cell
 clear bb L
 cases b1 with
 | false =>
  have F := hid (show Tells w (moreB sg p t) (.returned (.bool false)) w1 from ⟨by rw [HF.out]; rfl, f.b⟩)
  clear f sp cA
  go_wp2
  go_ret
  exact F.out
 | true =>
  go_wp2_with fail
  refine (implInstanceIn A Q P n c m mc pn pc sg t p _ f.s1 f.t1 sp hn hm hpn hpc hpc2).mono ?_
  rintro e w2 ⟨he, bb⟩
  rw [E2.out] at he
  subst he
  have F := hid (show Tells w (moreB sg p t) (.returned (.bool (!b2))) w2 from ⟨by rw [HF.out]; rfl, (f.next bb).b⟩)
  clear f sp cA bb
  go_wp2
  go_ret
  exact F.out
end matchImpl
end
section
namespace matchImplB
open Go.RowKit base ints sig same term termOk endAt inside marks app sym sub segs segsHelp kinds termFacts termMath posMath plainMath plain plainOf gives cursor fillMath matchMath matchSpec matchList matchMost whole takeMath take extended pathSpec matchImpl
set_option maxRecDepth 100000
end matchImplB
end
section
namespace anyOf
open Go.RowKit base ints sig segs segsHelp inside
set_option maxRecDepth 100000
def Tests (g : Nat) (lb : Array Value) (w : World) (f : List Int → Bool) : Prop :=
 ∀ (W : World) (D : Option Addr) (dn dc : Nat) (ys : List Int), Below w.heap.size w W → Seg W W.heap.size D dn ys → dn ≤ 1048576 → Cap D dn dc → Calls Try.prog g (#[.slice D dn dc] ++ lb) W (Tells W (f ys))
theorem Tests.next {g : Nat} {lb : Array Value} {w w' : World} {f : List Int → Bool} (h : Tests g lb w f) (hb : Below w.heap.size w w') : Tests g lb w' f :=
 fun W D dn dc ys hW hs hn hc => h W D dn dc ys (next_trans hb hW) hs hn hc
end anyOf
end
section
namespace matchImplC
open Go.RowKit base ints sig same term termOk endAt inside marks app sym sub segs segsHelp kinds termFacts termMath posMath plainMath plain plainOf gives cursor fillMath matchMath matchSpec matchList matchMost whole takeMath take extended pathSpec matchImpl renMath varsOf variant anyOf matchImplB
set_option maxRecDepth 100000
end matchImplC
end
section
namespace matchTot
open Go.RowKit base ints sig term termOk app sym sub segs segsHelp plainMath gives plainOf fillMath termFacts matchMath matchSpec
end matchTot
end
section
namespace wMoreGeneral
open Go.RowKit base ints sig cursor marks app sym appAt segs segsHelp segsMark kinds inside matchMath matchSpec matchList matchMost matchTot matchImpl matchImplB matchImplC
set_option maxRecDepth 100000
set_option maxHeartbeats 8000000 in
theorem law (a0 : Option Addr) (n0 c0 : Nat) (xs0 : List Int) (a1 : Option Addr) (n1 c1 : Nat) (xs1 : List Int) (a2 : Option Addr) (n2 c2 : Nat) (xs2 : List Int) (w : World) (s0 : Seg w w.heap.size a0 n0 xs0) (hN0 : n0 ≤ 9223372036854775807) (s1 : Seg w w.heap.size a1 n1 xs1) (hN1 : n1 ≤ 9223372036854775807) (s2 : Seg w w.heap.size a2 n2 xs2) (hN2 : n2 ≤ 9223372036854775807) :
  Calls Try.prog 10 #[.agg #[.slice a0 n0 c0], .slice a1 n1 c1, .slice a2 n2 c2] w (Fine w) := by
 obtain ⟨W, hW⟩ : ∃ W, W = w.alloc (.cells #[.slice a0 n0 c0] 24) := ⟨_, rfl⟩
 have rA0 : Row W (w.heap.size) 24 #[.slice a0 n0 c0] := by rw [hW]; have := Row.new (w) 24 #[.slice a0 n0 c0]; simpa using this
 have bW : Below w.heap.size w W := by rw [hW]; exact (Below.refl w.heap.size w).alloc (by simp) (.cells #[.slice a0 n0 c0] 24)
 have zA0 := rA0.lt
 replace s0 := s0.next bW
 have Hl0 := Lib.hid s0.1
 replace s1 := s1.next bW
 have Hl1 := Lib.hid s1.1
 replace s2 := s2.next bW
 have Hl2 := Lib.hid s2.1
 have HW := Lib.hid hW
 clear hW
 obtain ⟨v, hv⟩ : ∃ v, moreB xs0 xs1 xs2 = v := ⟨_, rfl⟩
 have HV := Lib.hid hv
 clear hv
 have ev : (v != v) = false := by simp
 by_cases h1 : n1 ≤ 1048576
 case neg =>
  go_enter Try.func10, Try.ntmps10
  go_wp2_with fail
  rw [← HW.out]
  go_ret
  exact ⟨rfl, bW⟩
 by_cases h2 : n2 ≤ 1048576
 case neg =>
  go_enter Try.func10, Try.ntmps10
  go_wp2_with fail
  rw [← HW.out]
  go_ret
  exact ⟨rfl, bW⟩
 go_enter Try.func10, Try.ntmps10
 go_wp2_with fail
 rw [← HW.out]
 clear HW
 have bel := Below.refl W.heap.size W
 have cA0 : W.cell? ⟨w.heap.size, 0, none⟩ = some (.slice a0 n0 c0) := (rA0.next bel).cell 0
 refine (szSig _ _ _ (1048576) _ hN0 (by omega) (by omega)).mono ?_
 rintro e w1 ⟨he, bb⟩
 replace bel := next_trans bel bb
 have zw1 := bb.size
 clear bb
 by_cases q0 : n0 ≤ 1048576
 case neg =>
  rw [if_pos (by omega)] at he
  subst he
  have F := Lib.hid (bW.trans (bel.mono bW.size))
  clear bel bW cA0
  go_wp2
  go_ret
  exact ⟨rfl, F.out⟩
 rw [if_neg (by omega)] at he
 subst he
 have h0 : n0 ≤ 1048576 := by omega
 clear cA0
 have cA0 : w1.cell? ⟨w.heap.size, 0, none⟩ = some (.slice a0 n0 c0) := (rA0.next bel).cell 0
 go_wp2_with fail
 refine (sigTo _ _ _ xs0 _ (s0.next bel) h0).mono ?_
 rintro e w2 ⟨gp0, rfl, op0, yp0, bb⟩
 replace bel := next_trans bel bb
 have zw2 := bb.size
 clear bb
 clear cA0
 have cA0 : w2.cell? ⟨w.heap.size, 0, none⟩ = some (.slice a0 n0 c0) := (rA0.next bel).cell 0
 go_wp2_with fail
 refine (intsTo _ _ _ xs1 _ (s1.next bel) h1).mono ?_
 rintro e w3 ⟨gp1, rfl, op1, yp1, bb⟩
 replace op0 := op0.next bb
 replace bel := next_trans bel bb
 have zw3 := bb.size
 clear bb
 clear cA0
 have cA0 : w3.cell? ⟨w.heap.size, 0, none⟩ = some (.slice a0 n0 c0) := (rA0.next bel).cell 0
 go_wp2_with fail
 refine (intsTo _ _ _ xs2 _ (s2.next bel) h2).mono ?_
 rintro e w4 ⟨gp2, rfl, op2, yp2, bb⟩
 replace op0 := op0.next bb
 replace op1 := op1.next bb
 replace bel := next_trans bel bb
 have zw4 := bb.size
 clear bb
 clear cA0
 have cA0 : w4.cell? ⟨w.heap.size, 0, none⟩ = some (.slice a0 n0 c0) := (rA0.next bel).cell 0
 go_wp2_with fail
 refine (specMoreGeneral _ _ _ _ _ _ _ _ _ xs0 xs1 xs2 _ op0.rd op1.rd op2.rd h0 h1 h2 (Nat.le_refl _) (by omega) (Nat.le_refl _) (by omega)).mono ?_
 rintro e w5 ⟨he, bb⟩
 rw [HV.out] at he
 subst he
 replace op0 := op0.next bb
 replace op1 := op1.next bb
 replace op2 := op2.next bb
 replace bel := next_trans bel bb
 have zw5 := bb.size
 clear bb
 clear op0 op1 op2
 clear cA0
 have cA0 : w5.cell? ⟨w.heap.size, 0, none⟩ = some (.slice a0 n0 c0) := (rA0.next bel).cell 0
 clear cA0
 have cA0 : w5.cell? ⟨w.heap.size, 0, none⟩ = some (.slice a0 n0 c0) := (rA0.next bel).cell 0
 go_wp2_with fail
 refine (sigTo _ _ _ xs0 _ (s0.next bel) h0).mono ?_
 rintro e w6 ⟨gx0, rfl, ox0, yx0, bb⟩
 replace bel := next_trans bel bb
 have zw6 := bb.size
 clear bb
 clear cA0
 have cA0 : w6.cell? ⟨w.heap.size, 0, none⟩ = some (.slice a0 n0 c0) := (rA0.next bel).cell 0
 have dA0 : (w6.alloc (.cells #[.slice (some ⟨gx0, 0, none⟩) n0 n0] 32)).cell? ⟨w.heap.size, 0, none⟩ = some (.slice a0 n0 c0) := ((rA0.next bel).alloc _).cell 0
 go_wp2_with fail
 obtain ⟨w7, hw⟩ : ∃ W, W = w6.alloc (.cells #[.slice (some ⟨gx0, 0, none⟩) n0 n0] 32) := ⟨_, rfl⟩
 rw [← hw]
 have rx0 : Row w7 w6.heap.size 32 #[.slice (some ⟨gx0, 0, none⟩) n0 n0] := by rw [hw]; exact Row.new _ _ _
 have bb : Below w6.heap.size w6 w7 := by rw [hw]; exact (Below.refl _ _).alloc (Nat.le_refl _) _
 have yrx0 : w6.heap.size < w7.heap.size := by rw [hw]; simp
 clear hw
 replace ox0 := ox0.next bb
 replace bel := next_trans bel bb
 have zw7 := bb.size
 clear bb
 clear dA0
 clear cA0
 have cA0 : w7.cell? ⟨w.heap.size, 0, none⟩ = some (.slice a0 n0 c0) := (rA0.next bel).cell 0
 have cx0 : w7.cell? ⟨w6.heap.size, 0, none⟩ = some (.slice (some ⟨gx0, 0, none⟩) n0 n0) := (rx0).cell 0
 refine (intsTo _ _ _ xs1 _ (s1.next bel) h1).mono ?_
 rintro e w8 ⟨gx1, rfl, ox1, yx1, bb⟩
 replace ox0 := ox0.next bb
 replace rx0 := rx0.next bb
 replace bel := next_trans bel bb
 have zw8 := bb.size
 clear bb
 clear cA0 cx0
 have cA0 : w8.cell? ⟨w.heap.size, 0, none⟩ = some (.slice a0 n0 c0) := (rA0.next bel).cell 0
 have cx0 : w8.cell? ⟨w6.heap.size, 0, none⟩ = some (.slice (some ⟨gx0, 0, none⟩) n0 n0) := (rx0).cell 0
 go_wp2_with fail
 refine (intsTo _ _ _ xs2 _ (s2.next bel) h2).mono ?_
 rintro e w9 ⟨gx2, rfl, ox2, yx2, bb⟩
 replace ox0 := ox0.next bb
 replace rx0 := rx0.next bb
 replace ox1 := ox1.next bb
 replace bel := next_trans bel bb
 have zw9 := bb.size
 clear bb
 clear cA0 cx0
 have cA0 : w9.cell? ⟨w.heap.size, 0, none⟩ = some (.slice a0 n0 c0) := (rA0.next bel).cell 0
 have cx0 : w9.cell? ⟨w6.heap.size, 0, none⟩ = some (.slice (some ⟨gx0, 0, none⟩) n0 n0) := (rx0).cell 0
 go_wp2_with fail
 refine (implMoreGeneral _ _ _ _ _ _ _ _ _ xs0 xs1 xs2 _ ox0.rd ox1.rd ox2.rd h0 h1 h2 (Nat.le_refl _) (by omega) (Nat.le_refl _) (by omega)).mono ?_
 rintro e w10 ⟨he, bb⟩
 rw [HV.out] at he
 subst he
 replace ox0 := ox0.next bb
 replace rx0 := rx0.next bb
 replace ox1 := ox1.next bb
 replace ox2 := ox2.next bb
 replace bel := next_trans bel bb
 have zw10 := bb.size
 clear bb
 clear cA0 cx0
 have cA0 : w10.cell? ⟨w.heap.size, 0, none⟩ = some (.slice a0 n0 c0) := (rA0.next bel).cell 0
 have cx0 : w10.cell? ⟨w6.heap.size, 0, none⟩ = some (.slice (some ⟨gx0, 0, none⟩) n0 n0) := (rx0).cell 0
 go_wp2_with fail
 replace ox0 := ox0.drew
 replace rx0 := rx0.drew
 replace ox1 := ox1.drew
 replace ox2 := ox2.drew
 replace bel := bel.drew
 have zdw10 := (drew_below w10).size
 go_region_held3 (fun w' => w'.cell? ⟨w6.heap.size, 0, none⟩ = some (.slice (some ⟨gx0, 0, none⟩) n0 n0) ∧ w'.cell? ⟨w.heap.size, 0, none⟩ = some (.slice a0 n0 c0))
  (go_keep)
  (first
   | (go_at_call 14; refine (sigTo _ _ _ xs0 _ (s0.next bel) h0).mono ?_; rintro e w11 ⟨gt0, rfl, ot, yt0, bb⟩; replace ox0 := ox0.next bb; replace rx0 := rx0.next bb; replace ox1 := ox1.next bb; replace ox2 := ox2.next bb; replace bel := next_trans bel bb; have k0w11 : w11.cell? ⟨w.heap.size, 0, none⟩ = some (.slice a0 n0 c0) := (rA0.next bel).cell 0; have l0w11 : w11.cell? ⟨w6.heap.size, 0, none⟩ = some (.slice (some ⟨gx0, 0, none⟩) n0 n0) := rx0.cell 0; have zqw11 := bb.size; clear bb)
   | (go_at_call 18; refine (sigEq _ _ _ _ _ _ xs0 _ ox0.rd ot.rd h0).mono ?_; rintro e w12 ⟨rfl, bb⟩; replace ox0 := ox0.next bb; replace rx0 := rx0.next bb; replace ox1 := ox1.next bb; replace ox2 := ox2.next bb; replace bel := next_trans bel bb; have k0w12 : w12.cell? ⟨w.heap.size, 0, none⟩ = some (.slice a0 n0 c0) := (rA0.next bel).cell 0; have l0w12 : w12.cell? ⟨w6.heap.size, 0, none⟩ = some (.slice (some ⟨gx0, 0, none⟩) n0 n0) := rx0.cell 0; have zqw12 := bb.size; clear bb ot))
 clear k0w11 l0w11 k0w12 l0w12
 clear ox0 rx0
 clear cA0 cx0
 have cA0 : w12.cell? ⟨w.heap.size, 0, none⟩ = some (.slice a0 n0 c0) := (rA0.next bel).cell 0
 go_wp2_with fail
 refine (intsTo _ _ _ xs1 _ (s1.next bel) h1).mono ?_
 rintro e w13 ⟨gt1, rfl, ot1, yt1, bb⟩
 replace ox1 := ox1.next bb
 replace ox2 := ox2.next bb
 replace bel := next_trans bel bb
 have zw13 := bb.size
 clear bb
 clear cA0
 have cA0 : w13.cell? ⟨w.heap.size, 0, none⟩ = some (.slice a0 n0 c0) := (rA0.next bel).cell 0
 go_wp2_with fail
 refine (intsEq _ _ _ _ _ _ xs1 _ ox1.rd ot1.rd h1).mono ?_
 rintro e w14 ⟨rfl, bb⟩
 replace ox1 := ox1.next bb
 replace ox2 := ox2.next bb
 replace ot1 := ot1.next bb
 replace bel := next_trans bel bb
 have zw14 := bb.size
 clear bb
 clear ot1 ox1
 clear cA0
 have cA0 : w14.cell? ⟨w.heap.size, 0, none⟩ = some (.slice a0 n0 c0) := (rA0.next bel).cell 0
 go_wp2_with fail
 refine (intsTo _ _ _ xs2 _ (s2.next bel) h2).mono ?_
 rintro e w15 ⟨gt2, rfl, ot2, yt2, bb⟩
 replace ox2 := ox2.next bb
 replace bel := next_trans bel bb
 have zw15 := bb.size
 clear bb
 clear cA0
 have cA0 : w15.cell? ⟨w.heap.size, 0, none⟩ = some (.slice a0 n0 c0) := (rA0.next bel).cell 0
 go_wp2_with fail
 refine (intsEq _ _ _ _ _ _ xs2 _ ox2.rd ot2.rd h2).mono ?_
 rintro e w16 ⟨rfl, bb⟩
 replace ox2 := ox2.next bb
 replace ot2 := ot2.next bb
 replace bel := next_trans bel bb
 have zw16 := bb.size
 clear bb
 clear ot2 ox2
 clear cA0
 have cA0 : w16.cell? ⟨w.heap.size, 0, none⟩ = some (.slice a0 n0 c0) := (rA0.next bel).cell 0
 have F := Lib.hid (bW.trans (bel.mono bW.size))
 clear bel bW cA0
 go_wp2
 go_ret
 exact ⟨rfl, F.out⟩
end wMoreGeneral
end
end Go.Proofs.Ytghgnondlgdjdaa
