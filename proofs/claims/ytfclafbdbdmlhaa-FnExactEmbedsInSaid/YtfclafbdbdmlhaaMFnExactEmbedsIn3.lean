/-
  MERGED: my texts RenImpl, Variant, MatchMost, MatchImpl, MatchImplB, AnyOf, MatchImplC, MatchTot, WEmbedsIn, one behind the other, as they are. By an AI agent.
-/
import Derived.Test.YtfclafbdbdmlhaaMFnExactEmbedsIn2
import Derived.Deep.RegionHeld3
import Derived.Deep.WholeRow
import Derived.Shelf.Abstract
namespace Go.Proofs.Ytfclafbdbdmlhaa
section
namespace renImpl
open Go.RowKit base ints sig cursor term termOk marks app appAt sym segs termFacts varsMath fillMath Go.Proofs.Ytfclafbdbdmlhaa.look renMath rename
set_option maxRecDepth 100000
structure Side (p : Nat) (r : Option Nat) (a b : World) : Prop where
 os : b.os = a.os
 tape : b.tape = a.tape
 output : b.output = a.output
 size : a.heap.size ≤ b.heap.size
 block : ∀ k, k < a.heap.size → k ≠ p → some k ≠ r → b.heap[k]? = a.heap[k]?
section
variable {p : Nat} {r : Option Nat} {a b c : World}
end
theorem Side.on {B : Nat} {r r' : Option Nat} {a b c : World} (h : Side B r a b) (hr : r' = r ∨ ∃ k, r' = some k ∧ a.heap.size ≤ k) (k : Side B r' b c) : Side B r a c :=
 ⟨k.os.trans h.os, k.tape.trans h.tape, k.output.trans h.output, Nat.le_trans h.size k.size, fun i hi hp hne => (k.block i (Nat.lt_of_lt_of_le hi h.size) hp (fun e => by
  rcases hr with e2 | ⟨q, e2, hq⟩
  ·exact hne (by rw [e, e2])
  ·rw [e2] at e; injection e with e; omega)).trans (h.block i hi hp hne)⟩
end renImpl
end
section
namespace variant
open Go.RowKit base ints sig same term termOk marks sym termFacts varsOf renMath rename renImpl
set_option maxRecDepth 100000
end variant
end
section
namespace matchMost
open Go.RowKit base ints sig term termOk endAt inside marks app sym segs segsHelp termFacts renMath varsOf variant pathSpec matchMath matchSpec matchList
set_option maxRecDepth 100000
end matchMost
end
section
namespace matchImpl
open Go.RowKit base ints sig same term termOk endAt inside marks app sym sub segs segsHelp kinds termFacts termMath posMath plainMath plain plainOf gives cursor fillMath matchMath matchSpec matchList matchMost whole takeMath take extended
set_option maxRecDepth 100000
end matchImpl
end
section
open Go.Lib (hid)
namespace matchImplB
open Go.RowKit base ints sig same term termOk endAt inside marks app sym sub segs segsHelp kinds termFacts termMath posMath plainMath plain plainOf gives cursor fillMath matchMath matchSpec matchList matchMost whole takeMath take extended pathSpec matchImpl
set_option maxRecDepth 100000
def HeadEi (w : World) (N : Nat) (A : Option Addr) (n c : Nat) (sg : List Int) (P : Option Addr) (pn : Nat) (p : List Int) (Q : Option Addr) (m : Nat) (t : List Int) (out k : Value) (wr : World) : Prop :=
 ∃ (i : Nat) (O : Option Addr) (on oc : Nat), k = .int .i64 i ∧ i ≤ m ∧ out = .slice O on oc ∧ Own wr (N + 1) (.slice O on oc) (embN sg p t i) ∧ Fr w wr A n c sg Q m t ∧ Seg wr w.heap.size P pn p ∧ Row wr N 93 z24
set_option maxHeartbeats 1000000 in
theorem implEmbedsIn (A P Q : Option Addr) (n c pn pc m mc : Nat) (sg p t : List Int) (w : World) (h : Seg w w.heap.size A n sg) (hp : Seg w w.heap.size P pn p) (ht : Seg w w.heap.size Q m t) (hn : n ≤ 1048576) (hpn : pn ≤ 1048576) (hm : m ≤ 1048576) (hmc : m ≤ mc) (hmc2 : mc ≤ 9223372036854775807) :
  Calls Try.prog 49 #[.agg #[.slice A n c], .slice P pn pc, .slice Q m mc] w (AnsList w (embI sg p t)) := by
 obtain ⟨W, hW⟩ : ∃ W, W = w.alloc (.cells #[.slice A n c] 26) := ⟨_, rfl⟩
 have f : Fr w W A n c sg Q m t := by rw [hW]; exact Fr.start h ht
 have sp : Seg W w.heap.size P pn p := hp.below f.b
 have HW := hid hW
 have HL := hid ht.1
 have cA := f.cell
 have cA0 : (w.alloc (.cells #[.slice A n c] 26)).cell? ⟨w.heap.size, 0, none⟩ = some (.slice A n c) := by rw [← hW]; exact cA
 have LP := hid (implTermOk A P n c pn pc sg p W f.s1 (sp.more (Nat.le_of_lt f.size)) hn hpn)
 clear hW h hp ht
 cases hokp : termOkB sg p with
 | false =>
  have HS := hid hokp
  have HF := hid (emb_no (t := t) (.inl hokp))
  clear hokp
  go_enter Try.func49, Try.ntmps49
  go_wp2_with fail
  rw [← HW.out]
  refine LP.out.mono ?_
  rintro e w1 ⟨he, bb⟩
  rw [HS.out] at he
  subst he
  have F := hid (list_of (w := w) HF.out (Own.nil w1 w.heap.size) (Nat.le_refl _) (f.next bb).b)
  clear f sp bb LP cA cA0
  go_wp2
  go_ret
  exact F.out
 | true =>
  have HSP := hid hokp
  have hp60 : pn ≤ 60 := by have h1 := (termOk_parts hokp).2.1; rw [sp.1] at h1; exact h1
  cases hokt : termOkB sg t with
  | false =>
   have HS := hid hokt
   have HF := hid (emb_no (p := p) (.inr hokt))
   clear hokp hokt
   go_enter Try.func49, Try.ntmps49
   go_wp2_with fail
   rw [← HW.out]
   refine LP.out.mono ?_
   rintro e w1 ⟨he, bb⟩
   rw [HSP.out] at he
   subst he
   replace f := f.next bb
   clear bb LP cA cA0 sp
   have cA := f.cell
   go_wp2_with fail
   refine (implTermOk A Q n c m mc sg t _ f.s1 f.t1 hn hm).mono ?_
   rintro e w2 ⟨he, bb⟩
   rw [HS.out] at he
   subst he
   have F := hid (list_of (w := w) HF.out (Own.nil w2 w.heap.size) (Nat.le_refl _) (f.next bb).b)
   clear f bb cA
   go_wp2
   go_ret
   exact F.out
  | true =>
   have HST := hid hokt
   have hm60 : m ≤ 60 := by have h1 := (termOk_parts hokt).2.1; rw [HL.out] at h1; exact h1
   have HF := hid (show embI sg p t = embN sg p t m by rw [emb_yes hokp hokt, HL.out])
   clear hokp hokt
   go_enter Try.func49, Try.ntmps49
   go_wp2_with fail
   rw [← HW.out]
   refine LP.out.mono ?_
   rintro e w1 ⟨he, bb⟩
   rw [HSP.out] at he
   subst he
   have bz : Below w.heap.size W w1 := bb.mono (Nat.le_of_lt f.size)
   replace f := f.next bb
   replace sp := sp.below bz
   clear bb bz LP cA cA0
   have cA := f.cell
   go_wp2_with fail
   refine (implTermOk A Q n c m mc sg t _ f.s1 f.t1 hn hm).mono ?_
   rintro e w2 ⟨he, bb⟩
   rw [HST.out] at he
   subst he
   have bz : Below w.heap.size w1 w2 := bb.mono (Nat.le_of_lt f.size)
   replace f := f.next bb
   replace sp := sp.below bz
   have zN := f.size
   have S0 : HeadEi w w2.heap.size A n c sg P pn p Q m t (.slice none 0 0) (.int .i64 0) (w2.alloc (.cells z24 93)) := ⟨0, none, 0, 0, rfl, Nat.zero_le _, rfl, Own.nil _ _, f.alloc _, sp.alloc (Nat.le_of_lt f.size) _, Row.new _ _ _⟩
   have HS0 := hid S0
   clear S0 f sp bb bz cA
   go_wp2_with (first | (refine rowAlloc rfl 93 rfl z24 zero_b ?_))
   go_loopw [8, 24] (fun out k wr => HeadEi w w2.heap.size A n c sg P pn p Q m t out k wr) (fun _ k _ => m - (intOf k).toNat)
   case atStart => exact HS0.out
   case round =>
    obtain ⟨i, O, on, oc, rfl, hi, rfl, ho, f, sp, rN⟩ := hrel
    clear HS0
    have hon : on ≤ 60 := by have h1 := Own.len ho; have h2 := emb_len (sg := sg) (p := p) (t := t) i; omega
    by_cases him : i < m
    ·obtain ⟨R, hR⟩ : ∃ R, mst sg t p i s0 = R := ⟨_, rfl⟩
     have HB := hid (show R.isSome = instB sg p (subL sg t i) by rw [← hR]; exact mst_at HSP.out HST.out (by rw [HL.out]; exact him))
     have LX := extended A P Q n c pn pc m mc sg p t i z24 s0 wr f.s1 (sp.more (Nat.le_of_lt f.size)) f.t1 hn hp60 hm60 hmc hmc2 him HSP.out HST.out (TabR.new _ _) (fun j => by rw [s0_get]; simp)
     rw [hR] at LX
     have HLX := hid LX
     have hrN := rN
     unfold Row at hrN
     have HRN := hid hrN
     have cA := f.cell
     have HO := hid ho
     have HFr := hid f
     have HP := hid sp
     have HN := hid rN
     have HE := hid (show embN sg p t (i + 1) = embN sg p t i ++ (if R.isSome = true then [(i : Int)] else []) by simp only [embN]; rw [HB.out])
     have zr : w2.heap.size < wr.heap.size := rN.lt
     clear LX hR f sp ho rN hrN HB
     obtain ⟨b, hb⟩ : ∃ b, R.isSome = b := ⟨_, rfl⟩
     have HBB := hid hb
     clear hb
     cases b with
     | false =>
      go_wp2_with (first
       | (refine wpList_load_row rfl 93 _ rfl w2.heap.size rfl 93 z24 (0, 0) _ HRN.out Try.underlying93 rfl (by rw [z24_size]; exact size_b) ?_)
       | (go_at_call 95; refine HLX.out.mono ?_; rintro e w3 ⟨cs, rfl, tab, hsz, bb⟩; rw [HBB.out]; have one := hid tab.one; have h24 := hid tab.1; have B4 := bb.alloc bb.size (.cells cs 93); clear tab hsz)
       | (refine rowAlloc rfl 93 rfl z24 zero_b ?_)
       | (refine rowStore rfl 93 _ _ rfl w3.heap.size cs z24 93 rfl rfl (heap_alloc_new w3 _) (by rw [h24.out]; exact size_b) (by rw [h24.out]; rfl) one.out ?_; rw [World.setRow_alloc_new]))
      have S : HeadEi w w2.heap.size A n c sg P pn p Q m t (.slice O on oc) (.int .i64 ((i : Int) + 1)) (w3.alloc (.cells cs 93)) :=
       ⟨i + 1, O, on, oc, by simp, him, rfl, by rw [HE.out, HBB.out]; simpa using Own.next HO.out B4, HFr.out.next B4, HP.out.below (B4.mono (Nat.le_of_lt HFr.out.size)), HN.out.next B4⟩
      have HSS := hid S
      clear S B4 bb one h24 HLX HO HFr HP HN HRN cA
      go_wp2
      go_roundw
      case rel => exact HSS.out
      case measure => simp [intOf]; omega
     | true =>
      go_wp2_with (first
       | (refine wpList_load_row rfl 93 _ rfl w2.heap.size rfl 93 z24 (0, 0) _ HRN.out Try.underlying93 rfl (by rw [z24_size]; exact size_b) ?_)
       | (go_at_call 95; refine HLX.out.mono ?_; rintro e w3 ⟨cs, rfl, tab, hsz, bb⟩; rw [HBB.out]; have one := hid tab.one; have h24 := hid tab.1; have B4 := bb.alloc bb.size (.cells cs 93); clear tab hsz)
       | (refine rowAlloc rfl 93 rfl z24 zero_b ?_)
       | (refine rowStore rfl 93 _ _ rfl w3.heap.size cs z24 93 rfl rfl (heap_alloc_new w3 _) (by rw [h24.out]; exact size_b) (by rw [h24.out]; rfl) one.out ?_; rw [World.setRow_alloc_new])
       | (at_builtin; refine app1 rfl _ _ rfl (w2.heap.size + 1) O on oc _ rfl (Own.alloc (Own.next HO.out B4) _) (w3.alloc (.cells cs 93)).heap.size 1 (i : Int) (by simp [Act.eval]) ((Row.new _ _ _).cell 0) (by omega) (by have := B4.size; simp at this ⊢; omega) ?_; intro O' oc' w7 ho7 b7))
      have S : HeadEi w w2.heap.size A n c sg P pn p Q m t (.slice O' (on + 1) oc') (.int .i64 ((i : Int) + 1)) w7 := by
       have f4 := HFr.out.next B4
       have p4 := HP.out.below (B4.mono (Nat.le_of_lt HFr.out.size))
       have n4 := HN.out.next B4
       refine ⟨i + 1, O', on + 1, oc', by simp, him, rfl, by rw [HE.out, HBB.out]; exact ho7, (f4.alloc _).over (b7.mono (by omega)), (p4.alloc (Nat.le_of_lt f4.size) _).below (b7.mono (by omega)), (n4.alloc _).below b7 (Nat.lt_succ_self _)⟩
      have HSS := hid S
      clear S ho7 b7 B4 bb one h24 HLX HO HFr HP HN HRN cA
      go_wp2
      go_roundw
      case rel => exact HSS.out
      case measure => simp [intOf]; omega
    ·have him2 : i = m := by omega
     have F := hid (list_of (w := w) (show embI sg p t = embN sg p t i by rw [HF.out, him2]) ho (by omega) f.b)
     clear ho f sp rN him2
     go_wp2
     go_ret
     exact F.out
end matchImplB
end
section
namespace anyOf
open Go.RowKit base ints sig segs segsHelp inside
set_option maxRecDepth 100000
def Tests (g : Nat) (lb : Array Value) (w : World) (f : List Int → Bool) : Prop :=
 ∀ (W : World) (D : Option Addr) (dn dc : Nat) (ys : List Int), Below w.heap.size w W → Seg W W.heap.size D dn ys → dn ≤ 1048576 → Cap D dn dc → Calls Try.prog g (#[.slice D dn dc] ++ lb) W (Tells W (f ys))
theorem Tests.next {g : Nat} {lb : Array Value} {w w' : World} {f : List Int → Bool} (h : Tests g lb w f) (hb : Below w.heap.size w w') : Tests g lb w' f :=
 fun W D dn dc ys hW hs hn hc => h W D dn dc ys (next_trans hb hW) hs hn hc
end anyOf
end
section
namespace matchImplC
open Go.RowKit base ints sig same term termOk endAt inside marks app sym sub segs segsHelp kinds termFacts termMath posMath plainMath plain plainOf gives cursor fillMath matchMath matchSpec matchList matchMost whole takeMath take extended pathSpec matchImpl renMath varsOf variant anyOf matchImplB
set_option maxRecDepth 100000
end matchImplC
end
section
namespace matchTot
open Go.RowKit base ints sig term termOk app sym sub segs segsHelp plainMath gives plainOf fillMath termFacts matchMath matchSpec
end matchTot
end
section
open Go.Lib (hid)
namespace wEmbedsIn
open Go.RowKit base ints sig cursor marks app sym appAt segs segsHelp segsMark kinds inside matchMath matchSpec matchList matchMost matchTot matchImpl matchImplB matchImplC
set_option maxRecDepth 100000
set_option maxHeartbeats 8000000 in
theorem law (a0 : Option Addr) (n0 c0 : Nat) (xs0 : List Int) (a1 : Option Addr) (n1 c1 : Nat) (xs1 : List Int) (a2 : Option Addr) (n2 c2 : Nat) (xs2 : List Int) (w : World) (s0 : Seg w w.heap.size a0 n0 xs0) (hN0 : n0 ≤ 9223372036854775807) (s1 : Seg w w.heap.size a1 n1 xs1) (hN1 : n1 ≤ 9223372036854775807) (s2 : Seg w w.heap.size a2 n2 xs2) (hN2 : n2 ≤ 9223372036854775807) :
  Calls Try.prog 9 #[.agg #[.slice a0 n0 c0], .slice a1 n1 c1, .slice a2 n2 c2] w (Fine w) := by
 obtain ⟨W, hW⟩ : ∃ W, W = w.alloc (.cells #[.slice a0 n0 c0] 33) := ⟨_, rfl⟩
 have rA0 : Row W (w.heap.size) 33 #[.slice a0 n0 c0] := by rw [hW]; have := Row.new (w) 33 #[.slice a0 n0 c0]; simpa using this
 have bW : Below w.heap.size w W := by rw [hW]; exact (Below.refl w.heap.size w).alloc (by simp) (.cells #[.slice a0 n0 c0] 33)
 have zA0 := rA0.lt
 replace s0 := s0.next bW
 have Hl0 := hid s0.1
 replace s1 := s1.next bW
 have Hl1 := hid s1.1
 replace s2 := s2.next bW
 have Hl2 := hid s2.1
 have HW := hid hW
 clear hW
 by_cases h1 : n1 ≤ 1048576
 case neg =>
  go_enter Try.func9, Try.ntmps9
  go_wp2_with fail
  rw [← HW.out]
  go_ret
  exact ⟨rfl, bW⟩
 by_cases h2 : n2 ≤ 1048576
 case neg =>
  go_enter Try.func9, Try.ntmps9
  go_wp2_with fail
  rw [← HW.out]
  go_ret
  exact ⟨rfl, bW⟩
 go_enter Try.func9, Try.ntmps9
 go_wp2_with fail
 rw [← HW.out]
 clear HW
 have bel := Below.refl W.heap.size W
 have cA0 : W.cell? ⟨w.heap.size, 0, none⟩ = some (.slice a0 n0 c0) := (rA0.next bel).cell 0
 refine (szSig _ _ _ (1048576) _ hN0 (by omega) (by omega)).mono ?_
 rintro e w1 ⟨he, bb⟩
 replace bel := next_trans bel bb
 have zw1 := bb.size
 clear bb
 by_cases q0 : n0 ≤ 1048576
 case neg =>
  rw [if_pos (by omega)] at he
  subst he
  have F := hid (bW.trans (bel.mono bW.size))
  clear bel bW cA0
  go_wp2
  go_ret
  exact ⟨rfl, F.out⟩
 rw [if_neg (by omega)] at he
 subst he
 have h0 : n0 ≤ 1048576 := by omega
 clear cA0
 have cA0 : w1.cell? ⟨w.heap.size, 0, none⟩ = some (.slice a0 n0 c0) := (rA0.next bel).cell 0
 have hlen : (embI xs0 xs1 xs2).length ≤ 1048576 := by unfold embI; split; exact Nat.le_trans (emb_len _) (by rw [Hl2.out]; exact h2); simp
 obtain ⟨ys, hys⟩ : ∃ ys, embI xs0 xs1 xs2 = ys := ⟨_, rfl⟩
 rw [hys] at hlen
 have HY := hid hys
 clear hys
 replace hlen := hid hlen
 go_wp2_with fail
 refine (sigTo _ _ _ xs0 _ (s0.next bel) h0).mono ?_
 rintro e w2 ⟨gp0, rfl, op0, yp0, bb⟩
 replace bel := next_trans bel bb
 have zw2 := bb.size
 clear bb
 clear cA0
 have cA0 : w2.cell? ⟨w.heap.size, 0, none⟩ = some (.slice a0 n0 c0) := (rA0.next bel).cell 0
 go_wp2_with fail
 refine (intsTo _ _ _ xs1 _ (s1.next bel) h1).mono ?_
 rintro e w3 ⟨gp1, rfl, op1, yp1, bb⟩
 replace op0 := op0.next bb
 replace bel := next_trans bel bb
 have zw3 := bb.size
 clear bb
 clear cA0
 have cA0 : w3.cell? ⟨w.heap.size, 0, none⟩ = some (.slice a0 n0 c0) := (rA0.next bel).cell 0
 go_wp2_with fail
 refine (intsTo _ _ _ xs2 _ (s2.next bel) h2).mono ?_
 rintro e w4 ⟨gp2, rfl, op2, yp2, bb⟩
 replace op0 := op0.next bb
 replace op1 := op1.next bb
 replace bel := next_trans bel bb
 have zw4 := bb.size
 clear bb
 clear cA0
 have cA0 : w4.cell? ⟨w.heap.size, 0, none⟩ = some (.slice a0 n0 c0) := (rA0.next bel).cell 0
 go_wp2_with fail
 refine (specEmbedsIn _ _ _ _ _ _ _ _ _ xs0 xs1 xs2 _ op0.rd op1.rd op2.rd h0 h1 h2 (Nat.le_refl _) (by omega)).mono ?_
 rintro e w5 ⟨A0, m0, d0, he, o0, bb⟩
 subst he
 replace op0 := op0.next bb
 replace op1 := op1.next bb
 replace op2 := op2.next bb
 replace bel := next_trans bel bb
 have zw5 := bb.size
 clear bb
 rw [HY.out] at o0
 have sw := Own.seg o0
 clear o0
 clear op0 op1 op2
 clear cA0
 have cA0 : w5.cell? ⟨w.heap.size, 0, none⟩ = some (.slice a0 n0 c0) := (rA0.next bel).cell 0
 obtain ⟨Aw, mw, dw, eA, em, ed⟩ : ∃ A m d, A = A0 ∧ m = m0 ∧ d = d0 := ⟨_, _, _, rfl, rfl, rfl⟩
 subst eA em ed
 have belw := Below.refl w5.heap.size w5
 clear cA0
 have cA0 : w5.cell? ⟨w.heap.size, 0, none⟩ = some (.slice a0 n0 c0) := (rA0.next bel).cell 0
 go_wp2_with fail
 refine (sigTo _ _ _ xs0 _ (s0.next bel) h0).mono ?_
 rintro e w6 ⟨gx0, rfl, ox0, yx0, bb⟩
 replace bel := next_trans bel bb
 replace belw := next_trans belw bb
 have zw6 := bb.size
 clear bb
 clear cA0
 have cA0 : w6.cell? ⟨w.heap.size, 0, none⟩ = some (.slice a0 n0 c0) := (rA0.next bel).cell 0
 have dA0 : (w6.alloc (.cells #[.slice (some ⟨gx0, 0, none⟩) n0 n0] 26)).cell? ⟨w.heap.size, 0, none⟩ = some (.slice a0 n0 c0) := ((rA0.next bel).alloc _).cell 0
 go_wp2_with fail
 obtain ⟨w7, hw⟩ : ∃ W, W = w6.alloc (.cells #[.slice (some ⟨gx0, 0, none⟩) n0 n0] 26) := ⟨_, rfl⟩
 rw [← hw]
 have rx0 : Row w7 w6.heap.size 26 #[.slice (some ⟨gx0, 0, none⟩) n0 n0] := by rw [hw]; exact Row.new _ _ _
 have bb : Below w6.heap.size w6 w7 := by rw [hw]; exact (Below.refl _ _).alloc (Nat.le_refl _) _
 have yrx0 : w6.heap.size < w7.heap.size := by rw [hw]; simp
 clear hw
 replace ox0 := ox0.next bb
 replace bel := next_trans bel bb
 replace belw := next_trans belw bb
 have zw7 := bb.size
 clear bb
 clear dA0
 clear cA0
 have cA0 : w7.cell? ⟨w.heap.size, 0, none⟩ = some (.slice a0 n0 c0) := (rA0.next bel).cell 0
 have cx0 : w7.cell? ⟨w6.heap.size, 0, none⟩ = some (.slice (some ⟨gx0, 0, none⟩) n0 n0) := (rx0).cell 0
 refine (intsTo _ _ _ xs1 _ (s1.next bel) h1).mono ?_
 rintro e w8 ⟨gx1, rfl, ox1, yx1, bb⟩
 replace ox0 := ox0.next bb
 replace rx0 := rx0.next bb
 replace bel := next_trans bel bb
 replace belw := next_trans belw bb
 have zw8 := bb.size
 clear bb
 clear cA0 cx0
 have cA0 : w8.cell? ⟨w.heap.size, 0, none⟩ = some (.slice a0 n0 c0) := (rA0.next bel).cell 0
 have cx0 : w8.cell? ⟨w6.heap.size, 0, none⟩ = some (.slice (some ⟨gx0, 0, none⟩) n0 n0) := (rx0).cell 0
 go_wp2_with fail
 refine (intsTo _ _ _ xs2 _ (s2.next bel) h2).mono ?_
 rintro e w9 ⟨gx2, rfl, ox2, yx2, bb⟩
 replace ox0 := ox0.next bb
 replace rx0 := rx0.next bb
 replace ox1 := ox1.next bb
 replace bel := next_trans bel bb
 replace belw := next_trans belw bb
 have zw9 := bb.size
 clear bb
 clear cA0 cx0
 have cA0 : w9.cell? ⟨w.heap.size, 0, none⟩ = some (.slice a0 n0 c0) := (rA0.next bel).cell 0
 have cx0 : w9.cell? ⟨w6.heap.size, 0, none⟩ = some (.slice (some ⟨gx0, 0, none⟩) n0 n0) := (rx0).cell 0
 go_wp2_with fail
 refine (implEmbedsIn _ _ _ _ _ _ _ _ _ xs0 xs1 xs2 _ ox0.rd ox1.rd ox2.rd h0 h1 h2 (Nat.le_refl _) (by omega)).mono ?_
 rintro e w10 ⟨A0, m0, d0, he, o0, bb⟩
 subst he
 replace ox0 := ox0.next bb
 replace rx0 := rx0.next bb
 replace ox1 := ox1.next bb
 replace ox2 := ox2.next bb
 replace bel := next_trans bel bb
 replace belw := next_trans belw bb
 have zw10 := bb.size
 clear bb
 rw [HY.out] at o0
 have og := Ownd.of_own o0
 clear o0
 obtain ⟨Ag, mg, dg, eA, em, ed⟩ : ∃ A m d, A = A0 ∧ m = m0 ∧ d = d0 := ⟨_, _, _, rfl, rfl, rfl⟩
 subst eA em ed
 clear cA0 cx0
 have cA0 : w10.cell? ⟨w.heap.size, 0, none⟩ = some (.slice a0 n0 c0) := (rA0.next bel).cell 0
 have cx0 : w10.cell? ⟨w6.heap.size, 0, none⟩ = some (.slice (some ⟨gx0, 0, none⟩) n0 n0) := (rx0).cell 0
 have hlenn : mg ≤ 1048576 := by rw [← og.rd.1]; exact hlen.out
 go_wp2_with fail
 refine (intsEq _ _ _ _ _ _ ys _ og.rd (sw.next belw) hlenn).mono ?_
 rintro e w11 ⟨rfl, bb⟩
 replace ox0 := ox0.next bb
 replace rx0 := rx0.next bb
 replace ox1 := ox1.next bb
 replace ox2 := ox2.next bb
 replace og := og.next bb
 replace bel := next_trans bel bb
 replace belw := next_trans belw bb
 have zw11 := bb.size
 clear bb
 clear cA0 cx0
 have cA0 : w11.cell? ⟨w.heap.size, 0, none⟩ = some (.slice a0 n0 c0) := (rA0.next bel).cell 0
 have cx0 : w11.cell? ⟨w6.heap.size, 0, none⟩ = some (.slice (some ⟨gx0, 0, none⟩) n0 n0) := (rx0).cell 0
 go_wp2_with fail
 replace ox0 := ox0.drew
 replace rx0 := rx0.drew
 replace ox1 := ox1.drew
 replace ox2 := ox2.drew
 replace og := og.drew
 replace bel := bel.drew
 replace belw := belw.drew
 have zdw11 := (drew_below w11).size
 go_region_held3 (fun w' => w'.cell? ⟨w6.heap.size, 0, none⟩ = some (.slice (some ⟨gx0, 0, none⟩) n0 n0) ∧ w'.cell? ⟨w.heap.size, 0, none⟩ = some (.slice a0 n0 c0))
  (go_keep)
  (first
   | (go_at_call 24; refine (sigTo _ _ _ xs0 _ (s0.next bel) h0).mono ?_; rintro e w12 ⟨gt0, rfl, ot, yt0, bb⟩; replace ox0 := ox0.next bb; replace rx0 := rx0.next bb; replace ox1 := ox1.next bb; replace ox2 := ox2.next bb; replace og := og.next bb; replace bel := next_trans bel bb; replace belw := next_trans belw bb; have k0w12 : w12.cell? ⟨w.heap.size, 0, none⟩ = some (.slice a0 n0 c0) := (rA0.next bel).cell 0; have l0w12 : w12.cell? ⟨w6.heap.size, 0, none⟩ = some (.slice (some ⟨gx0, 0, none⟩) n0 n0) := rx0.cell 0; have zqw12 := bb.size; clear bb)
   | (go_at_call 27; refine (sigEq _ _ _ _ _ _ xs0 _ ox0.rd ot.rd h0).mono ?_; rintro e w13 ⟨rfl, bb⟩; replace ox0 := ox0.next bb; replace rx0 := rx0.next bb; replace ox1 := ox1.next bb; replace ox2 := ox2.next bb; replace og := og.next bb; replace bel := next_trans bel bb; replace belw := next_trans belw bb; have k0w13 : w13.cell? ⟨w.heap.size, 0, none⟩ = some (.slice a0 n0 c0) := (rA0.next bel).cell 0; have l0w13 : w13.cell? ⟨w6.heap.size, 0, none⟩ = some (.slice (some ⟨gx0, 0, none⟩) n0 n0) := rx0.cell 0; have zqw13 := bb.size; clear bb ot))
 clear k0w12 l0w12 k0w13 l0w13
 clear cA0 cx0
 have cA0 : w13.cell? ⟨w.heap.size, 0, none⟩ = some (.slice a0 n0 c0) := (rA0.next bel).cell 0
 have cx0 : w13.cell? ⟨w6.heap.size, 0, none⟩ = some (.slice (some ⟨gx0, 0, none⟩) n0 n0) := (rx0).cell 0
 go_wp2_with fail
 refine (intsTo _ _ _ xs1 _ (s1.next bel) h1).mono ?_
 rintro e w14 ⟨gt1, rfl, ot1, yt1, bb⟩
 replace ox0 := ox0.next bb
 replace rx0 := rx0.next bb
 replace ox1 := ox1.next bb
 replace ox2 := ox2.next bb
 replace og := og.next bb
 replace bel := next_trans bel bb
 replace belw := next_trans belw bb
 have zw14 := bb.size
 clear bb
 clear cA0 cx0
 have cA0 : w14.cell? ⟨w.heap.size, 0, none⟩ = some (.slice a0 n0 c0) := (rA0.next bel).cell 0
 have cx0 : w14.cell? ⟨w6.heap.size, 0, none⟩ = some (.slice (some ⟨gx0, 0, none⟩) n0 n0) := (rx0).cell 0
 go_wp2_with fail
 refine (intsEq _ _ _ _ _ _ xs1 _ ox1.rd ot1.rd h1).mono ?_
 rintro e w15 ⟨rfl, bb⟩
 replace ox0 := ox0.next bb
 replace rx0 := rx0.next bb
 replace ox1 := ox1.next bb
 replace ox2 := ox2.next bb
 replace og := og.next bb
 replace ot1 := ot1.next bb
 replace bel := next_trans bel bb
 replace belw := next_trans belw bb
 have zw15 := bb.size
 clear bb
 clear ot1
 clear cA0 cx0
 have cA0 : w15.cell? ⟨w.heap.size, 0, none⟩ = some (.slice a0 n0 c0) := (rA0.next bel).cell 0
 have cx0 : w15.cell? ⟨w6.heap.size, 0, none⟩ = some (.slice (some ⟨gx0, 0, none⟩) n0 n0) := (rx0).cell 0
 go_wp2_with fail
 refine (intsTo _ _ _ xs2 _ (s2.next bel) h2).mono ?_
 rintro e w16 ⟨gt2, rfl, ot2, yt2, bb⟩
 replace ox0 := ox0.next bb
 replace rx0 := rx0.next bb
 replace ox1 := ox1.next bb
 replace ox2 := ox2.next bb
 replace og := og.next bb
 replace bel := next_trans bel bb
 replace belw := next_trans belw bb
 have zw16 := bb.size
 clear bb
 clear cA0 cx0
 have cA0 : w16.cell? ⟨w.heap.size, 0, none⟩ = some (.slice a0 n0 c0) := (rA0.next bel).cell 0
 have cx0 : w16.cell? ⟨w6.heap.size, 0, none⟩ = some (.slice (some ⟨gx0, 0, none⟩) n0 n0) := (rx0).cell 0
 go_wp2_with fail
 refine (intsEq _ _ _ _ _ _ xs2 _ ox2.rd ot2.rd h2).mono ?_
 rintro e w17 ⟨rfl, bb⟩
 replace ox0 := ox0.next bb
 replace rx0 := rx0.next bb
 replace ox1 := ox1.next bb
 replace ox2 := ox2.next bb
 replace og := og.next bb
 replace ot2 := ot2.next bb
 replace bel := next_trans bel bb
 replace belw := next_trans belw bb
 have zw17 := bb.size
 clear bb
 clear ot2
 clear cA0 cx0
 have cA0 : w17.cell? ⟨w.heap.size, 0, none⟩ = some (.slice a0 n0 c0) := (rA0.next bel).cell 0
 have cx0 : w17.cell? ⟨w6.heap.size, 0, none⟩ = some (.slice (some ⟨gx0, 0, none⟩) n0 n0) := (rx0).cell 0
 go_wp2_with fail
 refine (sigMark (w5.heap.size) (w6.heap.size) _ _ _ xs0 (1) _ ox0 h0 (by omega) (by omega)).mono ?_
 rintro e w18 ⟨he, -, bt⟩
 subst he
 clear ox0
 replace rx0 := Row.btw rx0 bt (by omega)
 replace ox1 := ox1.btw bt (by omega)
 replace ox2 := ox2.btw bt (by omega)
 replace og := og.btw bt (by omega)
 replace bel := Below.btw bel bt (by omega) bel.size
 replace belw := Below.btw belw bt (by omega) belw.size
 have zw18 := bt.size
 clear bt
 clear cA0 cx0
 have cA0 : w18.cell? ⟨w.heap.size, 0, none⟩ = some (.slice a0 n0 c0) := (rA0.next bel).cell 0
 have cx0 : w18.cell? ⟨w6.heap.size, 0, none⟩ = some (.slice (some ⟨gx0, 0, none⟩) n0 n0) := (rx0).cell 0
 go_wp2_with fail
 refine (intsMark (w7.heap.size) (w8.heap.size) _ _ _ xs1 (1 + (n0 : Int)) _ ox1 h1 (by omega) (by omega)).mono ?_
 rintro e w19 ⟨he, -, bt⟩
 subst he
 clear ox1
 replace rx0 := Row.btw rx0 bt (by omega)
 replace ox2 := ox2.btw bt (by omega)
 replace og := og.btw bt (by omega)
 replace bel := Below.btw bel bt (by omega) bel.size
 replace belw := Below.btw belw bt (by omega) belw.size
 have zw19 := bt.size
 clear bt
 clear cA0 cx0
 have cA0 : w19.cell? ⟨w.heap.size, 0, none⟩ = some (.slice a0 n0 c0) := (rA0.next bel).cell 0
 have cx0 : w19.cell? ⟨w6.heap.size, 0, none⟩ = some (.slice (some ⟨gx0, 0, none⟩) n0 n0) := (rx0).cell 0
 go_wp2_with fail
 refine (intsMark (w8.heap.size) (w9.heap.size) _ _ _ xs2 (1 + (n0 : Int) + (n1 : Int)) _ ox2 h2 (by omega) (by omega)).mono ?_
 rintro e w20 ⟨he, -, bt⟩
 subst he
 clear ox2
 replace rx0 := Row.btw rx0 bt (by omega)
 replace og := og.btw bt (by omega)
 replace bel := Below.btw bel bt (by omega) bel.size
 replace belw := Below.btw belw bt (by omega) belw.size
 have zw20 := bt.size
 clear bt
 clear cA0 cx0
 have cA0 : w20.cell? ⟨w.heap.size, 0, none⟩ = some (.slice a0 n0 c0) := (rA0.next bel).cell 0
 have cx0 : w20.cell? ⟨w6.heap.size, 0, none⟩ = some (.slice (some ⟨gx0, 0, none⟩) n0 n0) := (rx0).cell 0
 clear rx0
 clear cA0 cx0
 have cA0 : w20.cell? ⟨w.heap.size, 0, none⟩ = some (.slice a0 n0 c0) := (rA0.next bel).cell 0
 go_wp2_with fail
 refine (intsEq _ _ _ _ _ _ ys _ og.rd (sw.next belw) hlenn).mono ?_
 rintro e w21 ⟨rfl, bb⟩
 replace og := og.next bb
 replace bel := next_trans bel bb
 replace belw := next_trans belw bb
 have zw21 := bb.size
 clear bb
 clear cA0
 have cA0 : w21.cell? ⟨w.heap.size, 0, none⟩ = some (.slice a0 n0 c0) := (rA0.next bel).cell 0
 go_wp2_with fail
 refine (intsMark (w9.heap.size) (w10.heap.size) _ _ _ ys 1 _ og hlenn (by omega) (by omega)).mono ?_
 rintro e w22 ⟨he, om, bt⟩
 subst he
 clear og
 replace bel := Below.btw bel bt (by omega) bel.size
 replace belw := Below.btw belw bt (by omega) belw.size
 have zw22 := bt.size
 clear bt
 clear cA0
 have cA0 : w22.cell? ⟨w.heap.size, 0, none⟩ = some (.slice a0 n0 c0) := (rA0.next bel).cell 0
 go_wp2_with fail
 refine (intsHeld _ _ _ 1 _ om.rd hlenn (by omega) (by omega)).mono ?_
 rintro e w23 ⟨rfl, bb⟩
 replace om := om.next bb
 replace bel := next_trans bel bb
 replace belw := next_trans belw bb
 have zw23 := bb.size
 clear bb
 clear cA0
 have cA0 : w23.cell? ⟨w.heap.size, 0, none⟩ = some (.slice a0 n0 c0) := (rA0.next bel).cell 0
 go_wp2_with fail
 refine (sigTo _ _ _ xs0 _ (s0.next bel) h0).mono ?_
 rintro e w24 ⟨gp0, rfl, op0, yp0, bb⟩
 replace om := om.next bb
 replace bel := next_trans bel bb
 replace belw := next_trans belw bb
 have zw24 := bb.size
 clear bb
 clear cA0
 have cA0 : w24.cell? ⟨w.heap.size, 0, none⟩ = some (.slice a0 n0 c0) := (rA0.next bel).cell 0
 go_wp2_with fail
 refine (intsTo _ _ _ xs1 _ (s1.next bel) h1).mono ?_
 rintro e w25 ⟨gp1, rfl, op1, yp1, bb⟩
 replace om := om.next bb
 replace op0 := op0.next bb
 replace bel := next_trans bel bb
 replace belw := next_trans belw bb
 have zw25 := bb.size
 clear bb
 clear cA0
 have cA0 : w25.cell? ⟨w.heap.size, 0, none⟩ = some (.slice a0 n0 c0) := (rA0.next bel).cell 0
 go_wp2_with fail
 refine (intsTo _ _ _ xs2 _ (s2.next bel) h2).mono ?_
 rintro e w26 ⟨gp2, rfl, op2, yp2, bb⟩
 replace om := om.next bb
 replace op0 := op0.next bb
 replace op1 := op1.next bb
 replace bel := next_trans bel bb
 replace belw := next_trans belw bb
 have zw26 := bb.size
 clear bb
 clear cA0
 have cA0 : w26.cell? ⟨w.heap.size, 0, none⟩ = some (.slice a0 n0 c0) := (rA0.next bel).cell 0
 go_wp2_with fail
 refine (implEmbedsIn _ _ _ _ _ _ _ _ _ xs0 xs1 xs2 _ op0.rd op1.rd op2.rd h0 h1 h2 (Nat.le_refl _) (by omega)).mono ?_
 rintro e w27 ⟨A0, m0, d0, he, o0, bb⟩
 subst he
 replace om := om.next bb
 replace op0 := op0.next bb
 replace op1 := op1.next bb
 replace op2 := op2.next bb
 replace bel := next_trans bel bb
 replace belw := next_trans belw bb
 have zw27 := bb.size
 clear bb
 rw [HY.out] at o0
 have sh := Own.seg o0
 clear o0
 clear op0 op1 op2
 clear cA0
 have cA0 : w27.cell? ⟨w.heap.size, 0, none⟩ = some (.slice a0 n0 c0) := (rA0.next bel).cell 0
 obtain ⟨Ah, mh, dh, eA, em, ed⟩ : ∃ A m d, A = A0 ∧ m = m0 ∧ d = d0 := ⟨_, _, _, rfl, rfl, rfl⟩
 subst eA em ed
 have belh := Below.refl w27.heap.size w27
 clear cA0
 have cA0 : w27.cell? ⟨w.heap.size, 0, none⟩ = some (.slice a0 n0 c0) := (rA0.next bel).cell 0
 go_wp2_with fail
 refine (intsEq _ _ _ _ _ _ ys _ (sh.next belh) (sw.next belw) (by rw [← sh.1]; exact hlen.out)).mono ?_
 rintro e w28 ⟨rfl, bb⟩
 replace om := om.next bb
 replace bel := next_trans bel bb
 replace belw := next_trans belw bb
 replace belh := next_trans belh bb
 have zw28 := bb.size
 clear bb
 clear cA0
 have cA0 : w28.cell? ⟨w.heap.size, 0, none⟩ = some (.slice a0 n0 c0) := (rA0.next bel).cell 0
 go_wp2_with fail
 refine (intsHeld _ _ _ 1 _ om.rd hlenn (by omega) (by omega)).mono ?_
 rintro e w29 ⟨rfl, bb⟩
 replace om := om.next bb
 replace bel := next_trans bel bb
 replace belw := next_trans belw bb
 replace belh := next_trans belh bb
 have zw29 := bb.size
 clear bb
 clear cA0
 have cA0 : w29.cell? ⟨w.heap.size, 0, none⟩ = some (.slice a0 n0 c0) := (rA0.next bel).cell 0
 have F := hid (bW.trans (bel.mono bW.size))
 clear bel belw belh om bW cA0
 go_wp2
 go_ret
 exact ⟨rfl, F.out⟩
end wEmbedsIn
end
end Go.Proofs.Ytfclafbdbdmlhaa
