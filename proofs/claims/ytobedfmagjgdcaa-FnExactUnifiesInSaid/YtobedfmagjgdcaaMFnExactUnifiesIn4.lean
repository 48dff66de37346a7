/-
  MERGED: my texts UnifImpl, GenMath, SameSubst, PlainFacts, RenPure, UnifLaw, UnifX, WUnifiesIn, one behind the other, as they are. By an AI agent.
-/
import Derived.Test.YtobedfmagjgdcaaMFnExactUnifiesIn3
import Derived.Defers
import Derived.Recover
import Derived.Deep.RegionHeld3
namespace Go.Proofs.Ytobedfmagjgdcaa
section
open Go.Lib (hid)
namespace unifImpl
open Go.RowKit base ints sig term termOk endAt cursor marks segs segsHelp kinds fillMath Go.Proofs.Ytobedfmagjgdcaa.look plainMath plain unifMath unifDom thn unifRep unifStep unifRun unified inside
set_option maxRecDepth 100000
theorem catch_panicking (u : TypeId) (pv : Value) (older : List PanicEntry) (w : World) :
  CallsD Try.prog 58 #[] (.panicking ({ v := .iface u pv, recovered := false } :: older)) w fun e u' w' =>
   e = .returned (.tuple #[]) ∧ u' = .panicking ({ v := .iface u pv, recovered := true } :: older) ∧ w' = w := by
 refine callsD_of_wpS Try.func58 rfl fun c₀ cs hu => ?_
 apply wpS_region
 simp [wpOpsS, go_sem, recoverD, hu, Try.ntmps58, Exit.thenS, bodyPostS, results, Try.results58]
theorem catch_idle (w : World) :
  CallsD Try.prog 58 #[] .returning w fun e u' w' => e = .returned (.tuple #[]) ∧ u' = .returning ∧ w' = w := by
 refine callsD_of_wpS Try.func58 rfl fun c₀ cs hu => ?_
 apply wpS_region
 cases c₀
 simp_all [wpOpsS, go_sem, recoverD, Try.ntmps58, Exit.thenS, bodyPostS, results, Try.results58]
set_option maxHeartbeats 2000000 in
theorem implUnified (A P Q : Option Addr) (n c pn pc m mc : Nat) (sg p t : List Int) (w : World) (v : Bool) (F : List (List Int)) (hU : IsU sg p t v F) (h : Seg w w.heap.size A n sg) (hp : Seg w w.heap.size P pn p) (ht : Seg w w.heap.size Q m t) (hn : n ≤ 1048576) (hpn : pn ≤ 1048576) (hm : m ≤ 1048576) (kp : Cap P pn pc) (kq : Cap Q m mc) :
  Calls Try.prog 24 #[.agg #[.slice A n c], .slice P pn pc, .slice Q m mc] w (AnsUB w F v) := by
 obtain ⟨W, hW⟩ : ∃ W, W = (w.alloc (.cells #[.slice A n c] 29)).alloc (.cells #[.slice none 0 0] 39) := ⟨_, rfl⟩
 have M : Mr w W A n c sg P pn p Q m t := by rw [hW]; exact Mr.start h hp ht
 have HW := hid hW
 have L := hid (implTermOk A P n c pn pc sg p W M.ss M.sp hn hpn)
 have c0 : W.cell? ⟨w.heap.size, 0, none⟩ = some (.slice A n c) := M.r0.cell 0
 have c00 : ((w.alloc (.cells #[.slice A n c] 29)).alloc (.cells #[.slice none 0 0] 39)).cell? ⟨w.heap.size, 0, none⟩ = some (.slice A n c) := by rw [← hW]; exact c0
 have HU := hid hU
 have hmf : ∀ (fn : Fn) (first cap : Array Value) (w : World), (Instr.makeFunc fn first cap).run Try.prog w = .ok (.func fn first cap) w := fun _ _ _ _ => rfl
 clear hU hW h hp ht
 cases hokp : termOkB sg p with
 | false =>
  have HS := hid hokp
  clear hokp
  go_enter_defers Try.func24, Try.ntmps24
  go_wp2_with fail
  rw [← HW.out]
  refine L.out.mono ?_
  rintro e w1 ⟨he, bb⟩
  rw [HS.out] at he
  subst he
  replace M := M.next bb
  have cR : w1.cell? ⟨w.heap.size + 1, 0, none⟩ = some (.slice none 0 0) := M.r1.cell 0
  have fR : w1.frozen? ⟨w.heap.size + 1, 0, none⟩ = false := M.r1.free 0
  have F1 := hid (ub_off (w := w) HU.out (.inl HS.out) M.b)
  have F2 := hid (ub_off (w := w) HU.out (.inl HS.out) ((M.b).setCell (p := ⟨w.heap.size + 1, 0, none⟩) (show w.heap.size ≤ w.heap.size + 1 by omega) (.slice none 0 0)))
  clear M L bb c0 c00
  go_wp2
  first
   | exact ⟨.tuple #[.agg #[.slice none 0 0], .bool false], by simp [results, Try.results24, go_sem, cR], F1.out⟩
   | exact ⟨.tuple #[.agg #[.slice none 0 0], .bool false], by simp [results, Try.results24, go_sem, cR], F2.out⟩
 | true =>
  have HSP := hid hokp
  have hp60 : pn ≤ 60 := by have h1 := (termOk_parts hokp).2.1; rw [M.sp.1] at h1; exact h1
  clear hokp
  cases hokt : termOkB sg t with
  | false =>
   have HS := hid hokt
   clear hokt
   go_enter_defers Try.func24, Try.ntmps24
   go_wp2_with fail
   rw [← HW.out]
   refine L.out.mono ?_
   rintro e w1 ⟨he, bb⟩
   rw [HSP.out] at he
   subst he
   replace M := M.next bb
   clear bb L c0 c00
   have c0 : w1.cell? ⟨w.heap.size, 0, none⟩ = some (.slice A n c) := M.r0.cell 0
   go_wp2_with fail
   refine (implTermOk A Q n c m mc sg t _ M.ss M.st hn hm).mono ?_
   rintro e w2 ⟨he, bb⟩
   rw [HS.out] at he
   subst he
   replace M := M.next bb
   have cR : w2.cell? ⟨w.heap.size + 1, 0, none⟩ = some (.slice none 0 0) := M.r1.cell 0
   have fR : w2.frozen? ⟨w.heap.size + 1, 0, none⟩ = false := M.r1.free 0
   have F1 := hid (ub_off (w := w) HU.out (.inr HS.out) M.b)
   have F2 := hid (ub_off (w := w) HU.out (.inr HS.out) ((M.b).setCell (p := ⟨w.heap.size + 1, 0, none⟩) (show w.heap.size ≤ w.heap.size + 1 by omega) (.slice none 0 0)))
   clear M bb c0
   go_wp2
   first
    | exact ⟨.tuple #[.agg #[.slice none 0 0], .bool false], by simp [results, Try.results24, go_sem, cR], F1.out⟩
    | exact ⟨.tuple #[.agg #[.slice none 0 0], .bool false], by simp [results, Try.results24, go_sem, cR], F2.out⟩
  | true =>
   have HST := hid hokt
   have hm60 : m ≤ 60 := by have h1 := (termOk_parts hokt).2.1; rw [M.st.1] at h1; exact h1
   clear hokt
   go_enter_defers Try.func24, Try.ntmps24
   go_wp2_with fail
   rw [← HW.out]
   refine L.out.mono ?_
   rintro e w1 ⟨he, bb⟩
   rw [HSP.out] at he
   subst he
   replace M := M.next bb
   clear bb L c0 c00
   have c0 : w1.cell? ⟨w.heap.size, 0, none⟩ = some (.slice A n c) := M.r0.cell 0
   go_wp2_with fail
   refine (implTermOk A Q n c m mc sg t _ M.ss M.st hn hm).mono ?_
   rintro e w2 ⟨he, bb⟩
   rw [HST.out] at he
   subst he
   replace M := M.next bb
   clear bb c0
   have c0 : w2.cell? ⟨w.heap.size, 0, none⟩ = some (.slice A n c) := M.r0.cell 0
   obtain ⟨W3, hW3⟩ : ∃ W3, W3 = w2.alloc (.cells #[.slice A n c, .slice P pn pc, .slice Q m mc, .func (.func 59) #[] #[]] 67) := ⟨_, rfl⟩
   have b3 : Below w2.heap.size w2 W3 := by rw [hW3]; exact (Below.refl _ _).alloc (Nat.le_refl _) _
   have r3 : Row W3 w2.heap.size 67 #[.slice A n c, .slice P pn pc, .slice Q m mc, .func (.func 59) #[] #[]] := by rw [hW3]; exact Row.new _ _ _
   have M3 := M.next b3
   have LR := hid (run w2.heap.size A P Q n c pn pc m mc _ _ sg p t p t vt W3 ⟨r3, M3.ss, M3.sp, M3.st, kp, kq, enters_of Try.func59 (by kernel_rfl) rfl, lookVar _ _⟩ (Wy.start HSP.out HST.out) hn)
   have HW3 := hid hW3
   have hz : w.heap.size + 1 < w2.heap.size := M.r1.lt
   have HM3 := hid M3
   clear M b3 r3 M3 hW3
   go_wp2_with fail
   rw [← HW3.out]
   refine LR.out.mono ?_
   rintro e w4 ⟨hg, ⟨x, L', P', pn', pc', Q', qn', qc', gl', lb', rfl, U, WW⟩ | ⟨hno, u, pv, rfl⟩⟩
   ·have hs3 : W3.heap.size = w2.heap.size + 1 := by rw [HW3.out]; simp
    have b4 : Below w.heap.size w w4 := HM3.out.b.grown hg (by omega) (fun k hk => by injection hk; omega)
    have r4 := Row.away HM3.out.r1 hg (fun e => by injection e; omega)
    have c3 := U.c3
    have LP := hid (plain gl' lb' U.eg L' w4 U.lk.looks (fun i => WW.part.sub.pos i) (fun i => Nat.le_trans (WW.each i) (by omega)))
    obtain ⟨hv, hF⟩ := isU_one HU.out (WW.done rfl)
    subst hv
    subst hF
    have HB4 := hid b4
    have HR4 := hid r4
    clear U WW hg LR HM3 HU b4 r4 c0
    go_wp2_with fail
    refine LP.out.mono ?_
    rintro e w5 ⟨O, on, oc, rfl, ho, b5⟩
    have r5 := HR4.out.next b5
    have cR : w5.cell? ⟨w.heap.size + 1, 0, none⟩ = some (.slice none 0 0) := r5.cell 0
    have fR : w5.frozen? ⟨w.heap.size + 1, 0, none⟩ = false := r5.free 0
    have hs4 := HR4.out.lt
    have B5 := next_trans HB4.out b5
    have F := hid (show AnsUB w (plainL L' 24) true (.returned (.tuple #[.agg #[.slice O on oc], .bool true])) (w5.setCell ⟨w.heap.size + 1, 0, none⟩ (.slice O on oc)) from
     ⟨O, on, oc, rfl, (owns_put ho r5 hs4 0 _).wider (by have := HB4.out.size; omega) (by simp), B5.setCell (p := ⟨w.heap.size + 1, 0, none⟩) (show w.heap.size ≤ w.heap.size + 1 by omega) _⟩)
    clear LP ho b5 r5 HB4 HR4 B5 hs4
    go_wp2
    refine leaves_cons (f := 58) (args := #[]) (by simp) (by simp [go_sem]) ?_
    refine (catch_idle _).mono ?_
    rintro e u' w'' ⟨rfl, rfl, rfl⟩
    exact ⟨.tuple #[.agg #[.slice O on oc], .bool true], by simp [results, Try.results24, go_sem, cR], F.out⟩
   ·have hs3 : W3.heap.size = w2.heap.size + 1 := by rw [HW3.out]; simp
    have b4 : Below w.heap.size w w4 := HM3.out.b.grown hg (by omega) (fun k hk => by injection hk; omega)
    have r4 := Row.away HM3.out.r1 hg (fun e => by injection e; omega)
    have cR : w4.cell? ⟨w.heap.size + 1, 0, none⟩ = some (.slice none 0 0) := r4.cell 0
    obtain ⟨hv, hF⟩ := isU_one HU.out (isU_no hno)
    subst hv
    subst hF
    have F := hid (show AnsUB w [] false (.returned (.tuple #[.agg #[.slice none 0 0], .bool false])) w4 from ⟨none, 0, 0, rfl, Owns.nil _ _ _, b4⟩)
    refine leaves_cons (f := 58) (args := #[]) (by simp) (by simp [go_sem]) ?_
    refine (catch_panicking u pv [] w4).mono ?_
    rintro e u' w'' ⟨rfl, rfl, rfl⟩
    exact ⟨.tuple #[.agg #[.slice none 0 0], .bool false], by simp [results, Try.results24, go_sem, cR], F.out⟩
set_option maxHeartbeats 1000000 in
theorem implUnifiesIn (A P Q : Option Addr) (n c pn pc m mc : Nat) (sg p t : List Int) (w : World) (v : Bool) (F : List (List Int)) (hU : IsU sg p t v F) (h : Seg w w.heap.size A n sg) (hp : Seg w w.heap.size P pn p) (ht : Seg w w.heap.size Q m t) (hn : n ≤ 1048576) (hpn : pn ≤ 1048576) (hm : m ≤ 1048576) (kp : Cap P pn pc) (kq : Cap Q m mc) :
  Calls Try.prog 29 #[.agg #[.slice A n c], .slice P pn pc, .slice Q m mc] w (Tells w v) := by
 obtain ⟨W, hW⟩ : ∃ W, W = w.alloc (.cells #[.slice A n c] 29) := ⟨_, rfl⟩
 have bW : Below w.heap.size w W := by rw [hW]; exact (Below.refl _ _).alloc (Nat.le_refl _) _
 have HW := hid hW
 have L := hid (implUnified A P Q n c pn pc m mc sg p t W v F hU (h.next bW) (hp.next bW) (ht.next bW) hn hpn hm kp kq)
 clear hU hW h hp ht
 go_enter Try.func29, Try.ntmps29
 go_wp2_with fail
 rw [← HW.out]
 refine L.out.mono ?_
 rintro e w1 ⟨D, dn, dc, rfl, od, bb⟩
 have F := hid (fun o => (show Tells w v (.returned (.bool v)) (w1.alloc o) from ⟨rfl, (next_trans bW bb).alloc (next_trans bW bb).size _⟩))
 have F0 := hid (show Tells w v (.returned (.bool v)) w1 from ⟨rfl, next_trans bW bb⟩)
 clear od bb L bW
 go_wp2
 go_ret
 first
  | exact F0.out
  | exact F.out _
end unifImpl
end
section
namespace genMath
open sig term termOk termFacts endAt sub termMath fillMath posMath renMath matchMath unifMath
abbrev Tb := List (List Int × List Int)
section
variable {sg : List Int} {T T' : Tb} {n : Nat} {u w g : List Int}
end
def f1 (T : Tb) (i : Nat) : List Int := (T.getD i ([], [])).1
def f2 (T : Tb) (i : Nat) : List Int := (T.getD i ([], [])).2
end genMath
end
section
namespace sameSubst
open Go.RowKit base ints sig same marks sym segs segsHelp kinds varsOf fillMath Go.Proofs.Ytobedfmagjgdcaa.look substOk gives
set_option maxRecDepth 100000
end sameSubst
end
section
namespace plainFacts
open Go.RowKit base ints sig term termOk termFacts fillMath plainMath plainOf substOk gives sameSubst compMath filled
end plainFacts
end
section
namespace renPure
open sig term termOk termFacts varsMath fillMath renMath
end renPure
end
section
namespace unifLaw
open sig term termOk termFacts endAt sub termMath fillMath posMath renMath renPure segsHelp substOk gives plainMath plainOf plainFacts filled sameSubst compMath matchMath unifMath genMath
end unifLaw
end
section
namespace unifX
open Go.RowKit base sig segs inside unifMath unified unifImpl
section
variable (A P Q : Option Addr) (n c pn pc m mc : Nat) (sg p t : List Int) (w : World) (h : Seg w w.heap.size A n sg) (hp : Seg w w.heap.size P pn p) (ht : Seg w w.heap.size Q m t) (hn : n ≤ 1048576) (hpn : pn ≤ 1048576) (hm : m ≤ 1048576) (kp : Cap P pn pc) (kq : Cap Q m mc) {v : Bool} {F : List (List Int)} (hU : IsU sg p t v F)
include h hp ht hn hpn hm kp kq hU
set_option linter.unusedSectionVars false
theorem specUnifiesInX : Calls Try.prog 28 #[.agg #[.slice A n c], .slice P pn pc, .slice Q m mc] w (Tells w v) :=
 specUnifiesIn A P Q n c pn pc m mc sg p t w v F hU h hp ht hn hpn hm
theorem implUnifiesInX : Calls Try.prog 29 #[.agg #[.slice A n c], .slice P pn pc, .slice Q m mc] w (Tells w v) :=
 implUnifiesIn A P Q n c pn pc m mc sg p t w v F hU h hp ht hn hpn hm kp kq
end
end unifX
end
section
namespace wUnifiesIn
open Go.RowKit base ints sig cursor marks app sym appAt segs segsHelp segsMark kinds inside unifMath unified unifImpl unifLaw unifX
set_option maxRecDepth 100000
set_option maxHeartbeats 8000000 in
theorem law (a0 : Option Addr) (n0 c0 : Nat) (xs0 : List Int) (a1 : Option Addr) (n1 c1 : Nat) (xs1 : List Int) (a2 : Option Addr) (n2 c2 : Nat) (xs2 : List Int) (w : World) (s0 : Seg w w.heap.size a0 n0 xs0) (hN0 : n0 ≤ 9223372036854775807) (s1 : Seg w w.heap.size a1 n1 xs1) (hN1 : n1 ≤ 9223372036854775807) (s2 : Seg w w.heap.size a2 n2 xs2) (hN2 : n2 ≤ 9223372036854775807) :
  Calls Try.prog 5 #[.agg #[.slice a0 n0 c0], .slice a1 n1 c1, .slice a2 n2 c2] w (Fine w) := by
 obtain ⟨vv, FF, hU⟩ := isU_ex xs0 xs1 xs2
 obtain ⟨W, hW⟩ : ∃ W, W = w.alloc (.cells #[.slice a0 n0 c0] 24) := ⟨_, rfl⟩
 have rA0 : Row W (w.heap.size) 24 #[.slice a0 n0 c0] := by rw [hW]; have := Row.new (w) 24 #[.slice a0 n0 c0]; simpa using this
 have bW : Below w.heap.size w W := by rw [hW]; exact (Below.refl w.heap.size w).alloc (by simp) (.cells #[.slice a0 n0 c0] 24)
 have zA0 := rA0.lt
 replace s0 := s0.next bW
 have Hl0 := Lib.hid s0.1
 replace s1 := s1.next bW
 have Hl1 := Lib.hid s1.1
 replace s2 := s2.next bW
 have Hl2 := Lib.hid s2.1
 have HW := Lib.hid hW
 clear hW
 obtain ⟨v, hv⟩ : ∃ v, vv = v := ⟨_, rfl⟩
 have HV := Lib.hid hv
 clear hv
 have ev : (v != v) = false := by simp
 by_cases h1 : n1 ≤ 1048576
 case neg =>
  go_enter Try.func5, Try.ntmps5
  go_wp2_with fail
  rw [← HW.out]
  go_ret
  exact ⟨rfl, bW⟩
 by_cases h2 : n2 ≤ 1048576
 case neg =>
  go_enter Try.func5, Try.ntmps5
  go_wp2_with fail
  rw [← HW.out]
  go_ret
  exact ⟨rfl, bW⟩
 go_enter Try.func5, Try.ntmps5
 go_wp2_with fail
 rw [← HW.out]
 clear HW
 have bel := Below.refl W.heap.size W
 have cA0 : W.cell? ⟨w.heap.size, 0, none⟩ = some (.slice a0 n0 c0) := (rA0.next bel).cell 0
 refine (szSig _ _ _ (1048576) _ hN0 (by omega) (by omega)).mono ?_
 rintro e w1 ⟨he, bb⟩
 replace bel := next_trans bel bb
 have zw1 := bb.size
 clear bb
 by_cases q0 : n0 ≤ 1048576
 case neg =>
  rw [if_pos (by omega)] at he
  subst he
  have F := Lib.hid (bW.trans (bel.mono bW.size))
  clear bel bW cA0
  go_wp2
  go_ret
  exact ⟨rfl, F.out⟩
 rw [if_neg (by omega)] at he
 subst he
 have h0 : n0 ≤ 1048576 := by omega
 clear cA0
 have cA0 : w1.cell? ⟨w.heap.size, 0, none⟩ = some (.slice a0 n0 c0) := (rA0.next bel).cell 0
 go_wp2_with fail
 refine (sigTo _ _ _ xs0 _ (s0.next bel) h0).mono ?_
 rintro e w2 ⟨gp0, rfl, op0, yp0, bb⟩
 replace bel := next_trans bel bb
 have zw2 := bb.size
 clear bb
 clear cA0
 have cA0 : w2.cell? ⟨w.heap.size, 0, none⟩ = some (.slice a0 n0 c0) := (rA0.next bel).cell 0
 go_wp2_with fail
 refine (intsTo _ _ _ xs1 _ (s1.next bel) h1).mono ?_
 rintro e w3 ⟨gp1, rfl, op1, yp1, bb⟩
 replace op0 := op0.next bb
 replace bel := next_trans bel bb
 have zw3 := bb.size
 clear bb
 clear cA0
 have cA0 : w3.cell? ⟨w.heap.size, 0, none⟩ = some (.slice a0 n0 c0) := (rA0.next bel).cell 0
 go_wp2_with fail
 refine (intsTo _ _ _ xs2 _ (s2.next bel) h2).mono ?_
 rintro e w4 ⟨gp2, rfl, op2, yp2, bb⟩
 replace op0 := op0.next bb
 replace op1 := op1.next bb
 replace bel := next_trans bel bb
 have zw4 := bb.size
 clear bb
 clear cA0
 have cA0 : w4.cell? ⟨w.heap.size, 0, none⟩ = some (.slice a0 n0 c0) := (rA0.next bel).cell 0
 go_wp2_with fail
 refine (specUnifiesInX _ _ _ _ _ _ _ _ _ xs0 xs1 xs2 _ op0.rd op1.rd op2.rd h0 h1 h2 ⟨Nat.le_refl _, by omega, fun e => by cases e⟩ ⟨Nat.le_refl _, by omega, fun e => by cases e⟩ hU).mono ?_
 rintro e w5 ⟨he, bb⟩
 rw [HV.out] at he
 subst he
 replace op0 := op0.next bb
 replace op1 := op1.next bb
 replace op2 := op2.next bb
 replace bel := next_trans bel bb
 have zw5 := bb.size
 clear bb
 clear op0 op1 op2
 clear cA0
 have cA0 : w5.cell? ⟨w.heap.size, 0, none⟩ = some (.slice a0 n0 c0) := (rA0.next bel).cell 0
 clear cA0
 have cA0 : w5.cell? ⟨w.heap.size, 0, none⟩ = some (.slice a0 n0 c0) := (rA0.next bel).cell 0
 go_wp2_with fail
 refine (sigTo _ _ _ xs0 _ (s0.next bel) h0).mono ?_
 rintro e w6 ⟨gx0, rfl, ox0, yx0, bb⟩
 replace bel := next_trans bel bb
 have zw6 := bb.size
 clear bb
 clear cA0
 have cA0 : w6.cell? ⟨w.heap.size, 0, none⟩ = some (.slice a0 n0 c0) := (rA0.next bel).cell 0
 have dA0 : (w6.alloc (.cells #[.slice (some ⟨gx0, 0, none⟩) n0 n0] 29)).cell? ⟨w.heap.size, 0, none⟩ = some (.slice a0 n0 c0) := ((rA0.next bel).alloc _).cell 0
 go_wp2_with fail
 obtain ⟨w7, hw⟩ : ∃ W, W = w6.alloc (.cells #[.slice (some ⟨gx0, 0, none⟩) n0 n0] 29) := ⟨_, rfl⟩
 rw [← hw]
 have rx0 : Row w7 w6.heap.size 29 #[.slice (some ⟨gx0, 0, none⟩) n0 n0] := by rw [hw]; exact Row.new _ _ _
 have bb : Below w6.heap.size w6 w7 := by rw [hw]; exact (Below.refl _ _).alloc (Nat.le_refl _) _
 have yrx0 : w6.heap.size < w7.heap.size := by rw [hw]; simp
 clear hw
 replace ox0 := ox0.next bb
 replace bel := next_trans bel bb
 have zw7 := bb.size
 clear bb
 clear dA0
 clear cA0
 have cA0 : w7.cell? ⟨w.heap.size, 0, none⟩ = some (.slice a0 n0 c0) := (rA0.next bel).cell 0
 have cx0 : w7.cell? ⟨w6.heap.size, 0, none⟩ = some (.slice (some ⟨gx0, 0, none⟩) n0 n0) := (rx0).cell 0
 refine (intsTo _ _ _ xs1 _ (s1.next bel) h1).mono ?_
 rintro e w8 ⟨gx1, rfl, ox1, yx1, bb⟩
 replace ox0 := ox0.next bb
 replace rx0 := rx0.next bb
 replace bel := next_trans bel bb
 have zw8 := bb.size
 clear bb
 clear cA0 cx0
 have cA0 : w8.cell? ⟨w.heap.size, 0, none⟩ = some (.slice a0 n0 c0) := (rA0.next bel).cell 0
 have cx0 : w8.cell? ⟨w6.heap.size, 0, none⟩ = some (.slice (some ⟨gx0, 0, none⟩) n0 n0) := (rx0).cell 0
 go_wp2_with fail
 refine (intsTo _ _ _ xs2 _ (s2.next bel) h2).mono ?_
 rintro e w9 ⟨gx2, rfl, ox2, yx2, bb⟩
 replace ox0 := ox0.next bb
 replace rx0 := rx0.next bb
 replace ox1 := ox1.next bb
 replace bel := next_trans bel bb
 have zw9 := bb.size
 clear bb
 clear cA0 cx0
 have cA0 : w9.cell? ⟨w.heap.size, 0, none⟩ = some (.slice a0 n0 c0) := (rA0.next bel).cell 0
 have cx0 : w9.cell? ⟨w6.heap.size, 0, none⟩ = some (.slice (some ⟨gx0, 0, none⟩) n0 n0) := (rx0).cell 0
 go_wp2_with fail
 refine (implUnifiesInX _ _ _ _ _ _ _ _ _ xs0 xs1 xs2 _ ox0.rd ox1.rd ox2.rd h0 h1 h2 ⟨Nat.le_refl _, by omega, fun e => by cases e⟩ ⟨Nat.le_refl _, by omega, fun e => by cases e⟩ hU).mono ?_
 rintro e w10 ⟨he, bb⟩
 rw [HV.out] at he
 subst he
 replace ox0 := ox0.next bb
 replace rx0 := rx0.next bb
 replace ox1 := ox1.next bb
 replace ox2 := ox2.next bb
 replace bel := next_trans bel bb
 have zw10 := bb.size
 clear bb
 clear cA0 cx0
 have cA0 : w10.cell? ⟨w.heap.size, 0, none⟩ = some (.slice a0 n0 c0) := (rA0.next bel).cell 0
 have cx0 : w10.cell? ⟨w6.heap.size, 0, none⟩ = some (.slice (some ⟨gx0, 0, none⟩) n0 n0) := (rx0).cell 0
 go_wp2_with fail
 replace ox0 := ox0.drew
 replace rx0 := rx0.drew
 replace ox1 := ox1.drew
 replace ox2 := ox2.drew
 replace bel := bel.drew
 have zdw10 := (drew_below w10).size
 go_region_held3 (fun w' => w'.cell? ⟨w6.heap.size, 0, none⟩ = some (.slice (some ⟨gx0, 0, none⟩) n0 n0) ∧ w'.cell? ⟨w.heap.size, 0, none⟩ = some (.slice a0 n0 c0))
  (go_keep)
  (first
   | (go_at_call 12; refine (sigTo _ _ _ xs0 _ (s0.next bel) h0).mono ?_; rintro e w11 ⟨gt0, rfl, ot, yt0, bb⟩; replace ox0 := ox0.next bb; replace rx0 := rx0.next bb; replace ox1 := ox1.next bb; replace ox2 := ox2.next bb; replace bel := next_trans bel bb; have k0w11 : w11.cell? ⟨w.heap.size, 0, none⟩ = some (.slice a0 n0 c0) := (rA0.next bel).cell 0; have l0w11 : w11.cell? ⟨w6.heap.size, 0, none⟩ = some (.slice (some ⟨gx0, 0, none⟩) n0 n0) := rx0.cell 0; have zqw11 := bb.size; clear bb)
   | (go_at_call 16; refine (sigEq _ _ _ _ _ _ xs0 _ ox0.rd ot.rd h0).mono ?_; rintro e w12 ⟨rfl, bb⟩; replace ox0 := ox0.next bb; replace rx0 := rx0.next bb; replace ox1 := ox1.next bb; replace ox2 := ox2.next bb; replace bel := next_trans bel bb; have k0w12 : w12.cell? ⟨w.heap.size, 0, none⟩ = some (.slice a0 n0 c0) := (rA0.next bel).cell 0; have l0w12 : w12.cell? ⟨w6.heap.size, 0, none⟩ = some (.slice (some ⟨gx0, 0, none⟩) n0 n0) := rx0.cell 0; have zqw12 := bb.size; clear bb ot))
 clear k0w11 l0w11 k0w12 l0w12
 clear ox0 rx0
 clear cA0 cx0
 have cA0 : w12.cell? ⟨w.heap.size, 0, none⟩ = some (.slice a0 n0 c0) := (rA0.next bel).cell 0
 go_wp2_with fail
 refine (intsTo _ _ _ xs1 _ (s1.next bel) h1).mono ?_
 rintro e w13 ⟨gt1, rfl, ot1, yt1, bb⟩
 replace ox1 := ox1.next bb
 replace ox2 := ox2.next bb
 replace bel := next_trans bel bb
 have zw13 := bb.size
 clear bb
 clear cA0
 have cA0 : w13.cell? ⟨w.heap.size, 0, none⟩ = some (.slice a0 n0 c0) := (rA0.next bel).cell 0
 go_wp2_with fail
 refine (intsEq _ _ _ _ _ _ xs1 _ ox1.rd ot1.rd h1).mono ?_
 rintro e w14 ⟨rfl, bb⟩
 replace ox1 := ox1.next bb
 replace ox2 := ox2.next bb
 replace ot1 := ot1.next bb
 replace bel := next_trans bel bb
 have zw14 := bb.size
 clear bb
 clear ot1 ox1
 clear cA0
 have cA0 : w14.cell? ⟨w.heap.size, 0, none⟩ = some (.slice a0 n0 c0) := (rA0.next bel).cell 0
 go_wp2_with fail
 refine (intsTo _ _ _ xs2 _ (s2.next bel) h2).mono ?_
 rintro e w15 ⟨gt2, rfl, ot2, yt2, bb⟩
 replace ox2 := ox2.next bb
 replace bel := next_trans bel bb
 have zw15 := bb.size
 clear bb
 clear cA0
 have cA0 : w15.cell? ⟨w.heap.size, 0, none⟩ = some (.slice a0 n0 c0) := (rA0.next bel).cell 0
 go_wp2_with fail
 refine (intsEq _ _ _ _ _ _ xs2 _ ox2.rd ot2.rd h2).mono ?_
 rintro e w16 ⟨rfl, bb⟩
 replace ox2 := ox2.next bb
 replace ot2 := ot2.next bb
 replace bel := next_trans bel bb
 have zw16 := bb.size
 clear bb
 clear ot2 ox2
 clear cA0
 have cA0 : w16.cell? ⟨w.heap.size, 0, none⟩ = some (.slice a0 n0 c0) := (rA0.next bel).cell 0
 have F := Lib.hid (bW.trans (bel.mono bW.size))
 clear bel bW cA0
 go_wp2
 go_ret
 exact ⟨rfl, F.out⟩
end wUnifiesIn
end
end Go.Proofs.Ytobedfmagjgdcaa
