/-
  MERGED: my texts RuleImplE, KboOrI, KboOrX, WKboOrients, OpenX, one behind the other, as they are. By an AI agent.
-/
import Derived.Test.YtiimbmkofpnebaaMFnExactKboOrients5
import Derived.Deep.WholeRow
import Derived.Deep.RegionHeld3
import Derived.ProofKit
import Derived.OpenShut
import Derived.Lib.SmallJoins
import Derived.Deep.Slices
import Derived.Deep.Fields
namespace Go.Proofs.Ytiimbmkofpnebaa
section
namespace ruleImpl
open Go.RowKit base ints sig term termOk marks app appAt sym segs termFacts varsMath varsOf rename same count linear shape kindsR ruleMath ruleSpec anyR
set_option maxRecDepth 100000
theorem boxN {w w1 : World} {T : TypeId} {cs : Array Value} (bel : Below w.heap.size w w1) : Row (w1.alloc (.cells cs T)) w1.heap.size T cs ∧ Below w.heap.size w (w1.alloc (.cells cs T)) ∧ Below w1.heap.size w1 (w1.alloc (.cells cs T)) :=
 ⟨Row.new _ _ _, bel.alloc bel.size _, (Below.refl _ _).alloc (Nat.le_refl _) _⟩
end ruleImpl
end
section
open Go.Lib (hid)
namespace kboOrI
open Go.RowKit base ints sig term termOk termFacts marks sym segs kinds varsOf ruleMath ruleSpec ruleImpl anyR forest rankMath rankSpec shape drawX kindsR kindsK stk kboMath kboLink kboOft kboWt kboOk kboScale kboFun kboX kboAll kboOr
set_option maxRecDepth 100000
theorem meth (x : Array Value) : ∀ (n : Nat) (w : World), (method (n + 1) 96 (.agg x) "loop.example/g00895/impl.exceeds").run Try.prog w = .ok (144, .agg x) w := fun _ _ => by kernel_rfl
set_option maxHeartbeats 2000000 in
theorem isNot (g : Nat) (l r : Value) (x : Rl) (sc : Array Value) (z : Bool) (W : World) (hr : Row W g 141 #[.iface 96 (.agg sc)]) (h : Rd W W.heap.size sRule [l, r] x) (hz : sz sRule x ≤ 1048576)
  (LE : ∀ W1, Below W.heap.size W W1 → Calls Try.prog 144 #[.agg sc, l, r] W1 (AnsB W1 z)) :
  Calls Try.prog 118 #[.agg #[l, r], .pointer (some ⟨g, 0, none⟩)] W (AnsB W (!z)) := by
 obtain ⟨A1, n1, c1, A2, n2, c2, rfl, rfl, s1, k1, s2, k2, hn1, hn2⟩ := rd_rule h hz
 obtain ⟨W1, hW, rA, bel⟩ := box1 W 85 #[.slice A1 n1 c1, .slice A2 n2 c2]
 have cg := (hr.next bel).cell 0
 have c0 : W1.cell? ⟨W.heap.size, 0, none⟩ = some (.slice A1 n1 c1) := rA.cell 0
 have c1 : W1.cell? ⟨W.heap.size, 1, none⟩ = some (.slice A2 n2 c2) := rA.cell 1
 have HW := hid hW
 have L := hid (LE W1 bel)
 rw [hW] at cg c0 c1
 have hm := meth sc
 clear hW h hz s1 s2 k1 k2 hr rA LE
 go_enter Try.func118, Try.ntmps118
 go_wp2_with fail
 rw [← HW.out]
 clear c0 c1 cg
 refine L.out.mono ?_
 rintro e w2 ⟨rfl, bb⟩
 have F := hid (next_trans bel bb)
 clear bel bb L
 go_wp2
 go_ret
 exact ⟨rfl, F.out⟩
set_option maxHeartbeats 4000000 in
theorem orients (a v : Value) (d : Dat sSystem) (sc : Array Value) (f : Rl → Bool) (w : World) (h : Rd w w.heap.size sSystem [a, v] d) (hz : sz sSystem d ≤ 1048576)
  (LE : sysOkB d.1 d.2 = true → ∀ (W' : World) (l r : Value) (x : Rl), Below w.heap.size w W' → x ∈ d.2 → Rd W' W'.heap.size sRule [l, r] x → Calls Try.prog 144 #[.agg sc, l, r] W' (AnsB W' (f x))) :
  Calls Try.prog 79 #[.agg #[a, v], .iface 96 (.agg sc)] w (AnsB w (sysOkB d.1 d.2 && !(d.2.any fun x => !f x))) := by
 have hzs := sys_szs hz
 obtain ⟨W, hW, rA, rB, bel⟩ := box2 w 51 141 #[a, v] #[.iface 96 (.agg sc)]
 have SO := fun (w1 : World) (bb : Below w.heap.size w w1) => systemOf a v d w1 (h.next bb) hz
 have LT := fun (ok : sysOkB d.1 d.2 = true) (w1 : World) (bb : Below W.heap.size W w1) => some_ 118 #[] #[.pointer (some ⟨w.heap.size + 1, 0, none⟩)] (fun _ _ => rfl) (fun x => !f x) a v d w1
  (fun W' l r (x : Rl) hW' hx hr => isNot (w.heap.size + 1) l r x sc (f x) W' (rB.next (next_trans bb hW')) hr (sz_mem hzs.2 hx) (fun W1 b1 => LE ok W1 l r x (next_trans (next_trans bel (next_trans bb hW')) b1) hx (hr.next b1))) (h.next (next_trans bel bb)) hz
 obtain ⟨A, n, c, V, m, cv, rfl, rfl, -⟩ := rd_sys h hz
 have HW := hid hW
 have L := hid (SO W bel)
 have HLT := hid LT
 have hmf := makeFn
 have BW := hid bel
 have k0 : W.cell? ⟨w.heap.size, 0, none⟩ = some (.slice A n c) := rA.cell 0
 have k1 : W.cell? ⟨w.heap.size, 1, none⟩ = some (.slice V m cv) := rA.cell 1
 rw [hW] at k0 k1
 clear hW h hz SO LT hzs LE bel rB
 go_enter Try.func79, Try.ntmps79
 go_wp2_with fail
 rw [← HW.out]
 clear k0 k1
 refine L.out.mono ?_
 cases ok : sysOkB d.1 d.2 with
 | false =>
  have HO := hid ok
  rintro e w1 ⟨rfl, bb⟩
  have F := hid (boxN (T := 114) (cs := #[.slice none 0 0, .slice none 0 0]) (next_trans BW.out bb)).2.1
  simp only [sysV, if_true, Bool.false_eq_true, if_false]
  clear bb rA L HLT ok
  go_wp2
  go_ret
  exact ⟨by rw [HO.out]; rfl, F.out⟩
 | true =>
  have HO := hid ok
  rintro e w1 ⟨rfl, bb⟩
  obtain ⟨rS, belS, bS⟩ := boxN (T := 114) (cs := #[.slice A n c, .slice V m cv]) (next_trans BW.out bb)
  have L2 := hid (HLT.out ok _ (next_trans bb bS))
  have c0 := rS.cell 0
  have c1 := rS.cell 1
  simp only [sysV, if_true]
  clear bb rA L HLT ok rS bS
  go_wp2_with fail
  refine L2.out.mono ?_
  rintro e w2 ⟨he, bb⟩
  obtain ⟨z, hzz⟩ : ∃ z, d.2.any (fun x => !f x) = z := ⟨_, rfl⟩
  rw [show (List.any d.2 fun x => !f x) = z from hzz] at he
  have HZ := hid hzz
  subst he
  have F := hid (next_trans belS bb)
  clear bb belS L2 c0 c1 hzz
  go_wp2
  go_ret
  exact ⟨by rw [HO.out, show (List.any d.2 fun x => !f x) = z from HZ.out]; rfl, F.out⟩
theorem or_any {sg sy rk : List Int} {v : Int} {rs : List Rl} : (!(rs.any fun x => !decide (0 < kwhy sg v sy rk x.1 x.2))) = kOrB sg v sy rk rs := by
 unfold kOrB
 induction rs with
 | nil => rfl
 | cons x rs ih => rw [List.any_cons, List.all_cons, ← ih]; simp
structure RP (w : World) (ca cb : Array Value) (wr : World) : Prop where
 a : Row wr w.heap.size 51 ca
 b : Row wr (w.heap.size + 1) 32 cb
 l : Below w.heap.size w wr
theorem RP.next {w wr w' : World} {ca cb : Array Value} (h : RP w ca cb wr) (hb : Below wr.heap.size wr w') : RP w ca cb w' := ⟨h.a.next hb, h.b.next hb, next_trans h.l hb⟩
set_option maxHeartbeats 4000000 in
theorem implKboOrients (a u : Value) (d : Dat sSystem) (Y R : Option Addr) (yn yc rn rc : Nat) (v : Int) (sy rk : List Int) (w : World) (h : Rd w w.heap.size sSystem [a, u] d) (hz : sz sSystem d ≤ 1048576) (hY : Seg w w.heap.size Y yn sy) (hR : Seg w w.heap.size R rn rk) (hyn : yn ≤ 1048576) (hrn : rn ≤ 1048576) :
  Calls Try.prog 32 #[.agg #[a, u], .agg #[.int .i64 v, .slice Y yn yc, .slice R rn rc]] w (AnsB w (kOrientB d.1 d.2 v sy rk)) := by
 have h0 := h
 have hzs := sys_szs hz
 obtain ⟨A, n, c, A', m, c', rfl, rfl, hs, hc, hc', hm, hn, hm1, hrs, hsg, hE⟩ := rd_sys h hz
 obtain ⟨W, hW, rA, rB, bel⟩ := box2 w 51 32 #[.slice A n c, .slice A' m c'] #[.int .i64 v, .slice Y yn yc, .slice R rn rc]
 have q : RP w #[.slice A n c, .slice A' m c'] #[.int .i64 v, .slice Y yn yc, .slice R rn rc] W := ⟨rA, rB, bel⟩
 have k0 : W.cell? ⟨w.heap.size, 0, none⟩ = some (.slice A n c) := rA.cell 0
 have k2 : W.cell? ⟨w.heap.size + 1, 0, none⟩ = some (.int .i64 v) := rB.cell 0
 have k3 : W.cell? ⟨w.heap.size + 1, 1, none⟩ = some (.slice Y yn yc) := rB.cell 1
 have k4 : W.cell? ⟨w.heap.size + 1, 2, none⟩ = some (.slice R rn rc) := rB.cell 2
 rw [hW] at k0 k2 k3 k4
 have HW := hid hW
 have L1 := hid (scale2 A Y R n c yn yc rn rc v d.1 sy rk W (hs.next bel) (hY.next bel) (hR.next bel) hn hyn hrn)
 have LO := hid (fun (w1 : World) (bb : Below w.heap.size w w1) (hw : wB d.1 v sy rk = true) => orients (.slice A n c) (.slice A' m c') d #[.slice A n c, .slice R rn rc, .int .i64 v, .slice Y yn yc] (fun x => decide (0 < kwhy d.1 v sy rk x.1 x.2)) w1 (h0.next bb) hz (fun hok W' l r x bW hx hr => by
  obtain ⟨TL, tn, tc, TR, sn, sc, rfl, rfl, sL, cL, sR, cRr, hln, hrn2⟩ := rd_rule hr (sz_mem hzs.2 hx)
  have ht := (rule_parts ((sys_parts hok).2.2 x hx)).1
  have hs2 := (rule_parts ((sys_parts hok).2.2 x hx)).2.1
  exact kboWhyI.exceeds A Y R TL TR n c yn yc rn rc tn sn tc sc v _ W' (fun w3 b3 => kboWhyI.why A Y R n c yn yc rn rc v d.1 sy rk (fun b => b < W'.heap.size) (sig_arities (prec_parts (w_parts hw).1).1).1 hw hn (x.1.length + 1) TL TR tn tc sn sc x.1 x.2 w3 (Nat.lt_succ_self _) (hs.next (next_trans (next_trans bb bW) b3)) (hY.next (next_trans (next_trans bb bW) b3)) (hR.next (next_trans (next_trans bb bW) b3)) ((kboAll.seg_rdq sL cL).keep (Keep.below b3 fun b hb => hb)) ((kboAll.seg_rdq sR cRr).keep (Keep.below b3 fun b hb => hb)) (fun b hb => Nat.lt_of_lt_of_le hb b3.size) hln hrn2 (fo_term ht) (fo_term hs2) (vars24 ht) (vars24 hs2))))
 clear hW h h0 hz hs hc hc' hm hE hrs hsg hY hR rA rB bel hzs
 cases hb : wB d.1 v sy rk with
 | false =>
  have HB := hid hb
  clear hb
  go_enter Try.func32, Try.ntmps32
  go_wp2_with fail
  rw [← HW.out]
  clear k0 k2 k3 k4
  refine (L1.out.2 HB.out).mono ?_
  rintro e w1 ⟨rfl, bb⟩
  replace q := q.next bb
  clear bb L1
  obtain ⟨w2, hw2, rs, bb⟩ := box_one w1 96 #[.slice none 0 0, .slice none 0 0, .int .i64 0, .slice none 0 0]
  have H2 := hid hw2
  replace q := q.next bb
  clear hw2 bb
  go_wp2_with (first
   | (refine whole.rowStore rfl 96 _ _ rfl w1.heap.size #[.slice none 0 0, .slice none 0 0, .int .i64 0, .slice none 0 0] #[.slice none 0 0, .slice none 0 0, .int .i64 0, .slice none 0 0] 96 rfl rfl (heap_alloc_new w1 _) size_s rfl (by simp [Value.oneCell']) ?_; rw [World.setRow_alloc_new]; rw [← H2.out]; refine (?_ : Hid _).out))
  refine hid ?_
  clear H2
  have F := hid (show AnsB w (kOrientB d.1 d.2 v sy rk) (.returned (.bool false)) w2 from ⟨by unfold kOrientB; rw [HB.out]; simp, q.l⟩)
  clear q rs
  go_wp2
  go_ret
  exact F.out
 | true =>
  have HB := hid hb
  clear hb
  go_enter Try.func32, Try.ntmps32
  go_wp2_with fail
  rw [← HW.out]
  clear k0 k2 k3 k4
  refine (L1.out.1 HB.out).mono ?_
  rintro e w1 ⟨rfl, bb⟩
  replace q := q.next bb
  clear bb L1
  obtain ⟨w2, hw2, rs, bb⟩ := box_one w1 96 #[.slice A n c, .slice R rn rc, .int .i64 v, .slice Y yn yc]
  have H2 := hid hw2
  replace q := q.next bb
  clear hw2 bb
  go_wp2_with (first
   | (refine whole.rowStore rfl 96 _ _ rfl w1.heap.size #[.slice A n c, .slice R rn rc, .int .i64 v, .slice Y yn yc] #[.slice none 0 0, .slice none 0 0, .int .i64 0, .slice none 0 0] 96 rfl rfl (heap_alloc_new w1 _) size_s rfl (by simp [Value.oneCell']) ?_; rw [World.setRow_alloc_new]; rw [← H2.out]; refine (?_ : Hid _).out))
  refine hid ?_
  clear H2
  have k0 : w2.cell? ⟨w.heap.size, 0, none⟩ = some (.slice A n c) := q.a.cell 0
  have k1 : w2.cell? ⟨w.heap.size, 1, none⟩ = some (.slice A' m c') := q.a.cell 1
  have m0 : w2.cell? ⟨w1.heap.size, 0, none⟩ = some (.slice A n c) := rs.cell 0
  have m1 : w2.cell? ⟨w1.heap.size, 1, none⟩ = some (.slice R rn rc) := rs.cell 1
  have m2 : w2.cell? ⟨w1.heap.size, 2, none⟩ = some (.int .i64 v) := rs.cell 2
  have m3 : w2.cell? ⟨w1.heap.size, 3, none⟩ = some (.slice Y yn yc) := rs.cell 3
  have L3 := hid (LO.out w2 q.l HB.out)
  have Q := hid q.l
  clear q rs
  go_wp2_with fail
  refine L3.out.mono ?_
  rintro e w3 ⟨rfl, bb⟩
  have F := hid (show AnsB w (kOrientB d.1 d.2 v sy rk) (.returned (.bool (sysOkB d.1 d.2 && !(d.2.any fun x => !decide (0 < kwhy d.1 v sy rk x.1 x.2))))) w3 from ⟨by unfold kOrientB; rw [or_any, HB.out]; simp, next_trans Q.out bb⟩)
  obtain ⟨z, hz⟩ : ∃ z, (sysOkB d.1 d.2 && !(d.2.any fun x => !decide (0 < kwhy d.1 v sy rk x.1 x.2))) = z := ⟨_, rfl⟩
  rw [hz] at F ⊢
  clear bb k0 k1 m0 m1 m2 m3 hz
  go_wp2
  go_ret
  exact F.out
end kboOrI
end
section
namespace kboOrX
open Go.RowKit base ints sig term termOk termFacts marks sym segs kinds varsOf ruleMath ruleSpec ruleImpl anyR forest rankMath rankSpec shape drawX kindsR kindsK stk kboMath kboLink kboOft kboWt kboOk kboScale kboFun kboX kboAll kboOr kboOrS kboOrI
theorem specKboOrientsX (a u s r : Value) (d0 : Dat sSystem) (d1 : Dat sWeights) (w : World) (h0 : Rd w w.heap.size sSystem [a, u] d0) (h1 : Rd w w.heap.size sWeights [.int .i64 d1.1, s, r] d1) (z0 : sz sSystem d0 ≤ 1048576) (z1 : sz sWeights d1 ≤ 1048576) :
  Calls Try.prog 33 #[.agg #[a, u], .agg #[.int .i64 d1.1, s, r]] w (AnsB w (kOrientB d0.1 d0.2 d1.1 d1.2.1 d1.2.2)) := by
 obtain ⟨Y, yn, yc, R, rn, rc, rfl, rfl, hY, hR, hyn, hrn, -⟩ := rd_w h1 z1
 exact specKboOrients a u d0 Y R yn yc rn rc d1.1 d1.2.1 d1.2.2 w h0 z0 hY hR hyn hrn
theorem implKboOrientsX (a u s r : Value) (d0 : Dat sSystem) (d1 : Dat sWeights) (w : World) (h0 : Rd w w.heap.size sSystem [a, u] d0) (h1 : Rd w w.heap.size sWeights [.int .i64 d1.1, s, r] d1) (z0 : sz sSystem d0 ≤ 1048576) (z1 : sz sWeights d1 ≤ 1048576) :
  Calls Try.prog 32 #[.agg #[a, u], .agg #[.int .i64 d1.1, s, r]] w (AnsB w (kOrientB d0.1 d0.2 d1.1 d1.2.1 d1.2.2)) := by
 obtain ⟨Y, yn, yc, R, rn, rc, rfl, rfl, hY, hR, hyn, hrn, -⟩ := rd_w h1 z1
 exact implKboOrients a u d0 Y R yn yc rn rc d1.1 d1.2.1 d1.2.2 w h0 z0 hY hR hyn hrn
end kboOrX
end
section
open Go.Lib (hid)
namespace wKboOrients
open Go.RowKit base ints sig cursor marks app sym appAt segs segsHelp segsMark kinds shape varsOf kindsR kindsK ruleMath kboLink kboOr kboOrX
set_option maxRecDepth 100000
set_option maxHeartbeats 8000000 in
theorem law (v0_0 v0_1 : Value) (d0 : Dat sSystem) (v1_0 v1_1 : Value) (d1 : Dat sWeights) (w : World) (s0 : Rd w w.heap.size sSystem [v0_0, v0_1] d0) (s1 : Rd w w.heap.size sWeights [.int .i64 d1.1, v1_0, v1_1] d1) :
  Calls Try.prog 11 #[.agg #[v0_0, v0_1], .agg #[.int .i64 d1.1, v1_0, v1_1]] w (Fine w) := by
 obtain ⟨W, hW⟩ : ∃ W, W = (w.alloc (.cells #[v0_0, v0_1] 73)).alloc (.cells #[.int .i64 d1.1, v1_0, v1_1] 59) := ⟨_, rfl⟩
 have rA0 : Row W (w.heap.size) 73 #[v0_0, v0_1] := by rw [hW]; have := (Row.new (w) 73 #[v0_0, v0_1]).alloc (.cells #[.int .i64 d1.1, v1_0, v1_1] 59); simpa using this
 have rA1 : Row W (w.heap.size + 1) 59 #[.int .i64 d1.1, v1_0, v1_1] := by rw [hW]; have := Row.new (w.alloc (.cells #[v0_0, v0_1] 73)) 59 #[.int .i64 d1.1, v1_0, v1_1]; simpa using this
 have bW : Below w.heap.size w W := by rw [hW]; exact ((Below.refl w.heap.size w).alloc (by simp) (.cells #[v0_0, v0_1] 73)).alloc (by simp) (.cells #[.int .i64 d1.1, v1_0, v1_1] 59)
 have zA0 := rA0.lt
 have zA1 := rA1.lt
 replace s0 := s0.next bW
 replace s1 := s1.next bW
 have HW := hid hW
 clear hW
 obtain ⟨t0, ht0⟩ : ∃ z, sz sSystem d0 = z := ⟨_, rfl⟩
 have HT0 := hid ht0
 clear ht0
 obtain ⟨t1, ht1⟩ : ∃ z, sz sWeights d1 = z := ⟨_, rfl⟩
 have HT1 := hid ht1
 clear ht1
 obtain ⟨v, hv⟩ : ∃ v, kOrientB d0.1 d0.2 d1.1 d1.2.1 d1.2.2 = v := ⟨_, rfl⟩
 have HV := hid hv
 clear hv
 have ev : (v != v) = false := by simp
 go_enter Try.func11, Try.ntmps11
 go_wp2_with fail
 rw [← HW.out]
 clear HW
 have bel := Below.refl W.heap.size W
 have cA0_0 : W.cell? ⟨w.heap.size, 0, none⟩ = some (v0_0) := (rA0.next bel).cell 0
 have cA0_1 : W.cell? ⟨w.heap.size, 1, none⟩ = some (v0_1) := (rA0.next bel).cell 1
 have cA1_0 : W.cell? ⟨w.heap.size + 1, 0, none⟩ = some (.int .i64 d1.1) := (rA1.next bel).cell 0
 have cA1_1 : W.cell? ⟨w.heap.size + 1, 1, none⟩ = some (v1_0) := (rA1.next bel).cell 1
 have cA1_2 : W.cell? ⟨w.heap.size + 1, 2, none⟩ = some (v1_1) := (rA1.next bel).cell 2
 refine (szK_System _ _ d0 (1048576) _ (s0.next bel) (by omega) (by omega)).mono ?_
 rintro e w1 ⟨he, bb⟩
 rw [HT0.out] at he
 replace bel := next_trans bel bb
 have zw1 := bb.size
 clear bb
 by_cases q0 : t0 ≤ 1048576
 case neg =>
  rw [if_pos (by omega)] at he
  subst he
  have F := hid (bW.trans (bel.mono bW.size))
  clear bel bW cA0_0 cA0_1 cA1_0 cA1_1 cA1_2
  go_wp2
  go_ret
  exact ⟨rfl, F.out⟩
 rw [if_neg (by omega)] at he
 subst he
 have h0 : Hid (sz sSystem d0 ≤ 1048576) := hid (by rw [HT0.out]; omega)
 clear cA0_0 cA0_1 cA1_0 cA1_1 cA1_2
 have cA0_0 : w1.cell? ⟨w.heap.size, 0, none⟩ = some (v0_0) := (rA0.next bel).cell 0
 have cA0_1 : w1.cell? ⟨w.heap.size, 1, none⟩ = some (v0_1) := (rA0.next bel).cell 1
 have cA1_0 : w1.cell? ⟨w.heap.size + 1, 0, none⟩ = some (.int .i64 d1.1) := (rA1.next bel).cell 0
 have cA1_1 : w1.cell? ⟨w.heap.size + 1, 1, none⟩ = some (v1_0) := (rA1.next bel).cell 1
 have cA1_2 : w1.cell? ⟨w.heap.size + 1, 2, none⟩ = some (v1_1) := (rA1.next bel).cell 2
 go_wp2_with fail
 refine (szK_Weights _ _ d1 (1048576 - (t0 : Int)) _ (s1.next bel) (by omega) (by omega)).mono ?_
 rintro e w2 ⟨he, bb⟩
 rw [HT1.out] at he
 replace bel := next_trans bel bb
 have zw2 := bb.size
 clear bb
 by_cases q1 : t0 + t1 ≤ 1048576
 case neg =>
  rw [if_pos (by omega)] at he
  subst he
  have F := hid (bW.trans (bel.mono bW.size))
  clear bel bW cA0_0 cA0_1 cA1_0 cA1_1 cA1_2
  go_wp2
  go_ret
  exact ⟨rfl, F.out⟩
 rw [if_neg (by omega)] at he
 subst he
 have h1 : Hid (sz sWeights d1 ≤ 1048576) := hid (by rw [HT1.out]; omega)
 clear cA0_0 cA0_1 cA1_0 cA1_1 cA1_2
 have cA0_0 : w2.cell? ⟨w.heap.size, 0, none⟩ = some (v0_0) := (rA0.next bel).cell 0
 have cA0_1 : w2.cell? ⟨w.heap.size, 1, none⟩ = some (v0_1) := (rA0.next bel).cell 1
 have cA1_0 : w2.cell? ⟨w.heap.size + 1, 0, none⟩ = some (.int .i64 d1.1) := (rA1.next bel).cell 0
 have cA1_1 : w2.cell? ⟨w.heap.size + 1, 1, none⟩ = some (v1_0) := (rA1.next bel).cell 1
 have cA1_2 : w2.cell? ⟨w.heap.size + 1, 2, none⟩ = some (v1_1) := (rA1.next bel).cell 2
 go_wp2_with fail
 replace bel := bel.drew
 have zdw2 := (drew_below w2).size
 go_region_held3 (fun w' => w'.cell? ⟨w.heap.size, 0, none⟩ = some (v0_0) ∧ w'.cell? ⟨w.heap.size, 1, none⟩ = some (v0_1) ∧ w'.cell? ⟨w.heap.size + 1, 0, none⟩ = some (.int .i64 d1.1) ∧ w'.cell? ⟨w.heap.size + 1, 1, none⟩ = some (v1_0) ∧ w'.cell? ⟨w.heap.size + 1, 2, none⟩ = some (v1_1))
  (go_keep)
  (first
   | (go_at_call_of 49 (Value.agg #[v0_0, v0_1]); refine (toK_System _ _ d0 _ (s0.next bel) h0.out).mono ?_; rintro e w3 ⟨p0A0, p0n0, p0c0, p0A1, p0n1, p0c1, rfl, op0, bb⟩; replace bel := next_trans bel bb; have cA0_0w3 : w3.cell? ⟨w.heap.size, 0, none⟩ = some (v0_0) := (rA0.next bel).cell 0; have cA0_1w3 : w3.cell? ⟨w.heap.size, 1, none⟩ = some (v0_1) := (rA0.next bel).cell 1; have cA1_0w3 : w3.cell? ⟨w.heap.size + 1, 0, none⟩ = some (.int .i64 d1.1) := (rA1.next bel).cell 0; have cA1_1w3 : w3.cell? ⟨w.heap.size + 1, 1, none⟩ = some (v1_0) := (rA1.next bel).cell 1; have cA1_2w3 : w3.cell? ⟨w.heap.size + 1, 2, none⟩ = some (v1_1) := (rA1.next bel).cell 2; have zqw3 := bb.size; clear bb)
   | (go_at_call_of 39 (Value.agg #[.int .i64 d1.1, v1_0, v1_1]); refine (toK_Weights _ _ d1 _ (s1.next bel) h1.out).mono ?_; rintro e w4 ⟨p1A0, p1n0, p1c0, p1A1, p1n1, p1c1, rfl, op1, bb⟩; replace op0 := op0.next bb; replace bel := next_trans bel bb; have cA0_0w4 : w4.cell? ⟨w.heap.size, 0, none⟩ = some (v0_0) := (rA0.next bel).cell 0; have cA0_1w4 : w4.cell? ⟨w.heap.size, 1, none⟩ = some (v0_1) := (rA0.next bel).cell 1; have cA1_0w4 : w4.cell? ⟨w.heap.size + 1, 0, none⟩ = some (.int .i64 d1.1) := (rA1.next bel).cell 0; have cA1_1w4 : w4.cell? ⟨w.heap.size + 1, 1, none⟩ = some (v1_0) := (rA1.next bel).cell 1; have cA1_2w4 : w4.cell? ⟨w.heap.size + 1, 2, none⟩ = some (v1_1) := (rA1.next bel).cell 2; have zqw4 := bb.size; clear bb)
   | (go_at_call 33; refine (specKboOrientsX _ _ _ _ d0 d1 _ op0.rd op1.rd h0.out h1.out).mono ?_; rintro e w5 ⟨he, bb⟩; rw [HV.out] at he; subst he; replace bel := next_trans bel bb; have cA0_0w5 : w5.cell? ⟨w.heap.size, 0, none⟩ = some (v0_0) := (rA0.next bel).cell 0; have cA0_1w5 : w5.cell? ⟨w.heap.size, 1, none⟩ = some (v0_1) := (rA0.next bel).cell 1; have cA1_0w5 : w5.cell? ⟨w.heap.size + 1, 0, none⟩ = some (.int .i64 d1.1) := (rA1.next bel).cell 0; have cA1_1w5 : w5.cell? ⟨w.heap.size + 1, 1, none⟩ = some (v1_0) := (rA1.next bel).cell 1; have cA1_2w5 : w5.cell? ⟨w.heap.size + 1, 2, none⟩ = some (v1_1) := (rA1.next bel).cell 2; have zqw5 := bb.size; clear bb op0 op1))
 clear cA0_0 cA0_1 cA1_0 cA1_1 cA1_2 cA0_0w5 cA0_1w5 cA1_0w5 cA1_1w5 cA1_2w5
 have cA0_0 : w5.cell? ⟨w.heap.size, 0, none⟩ = some (v0_0) := (rA0.next bel).cell 0
 have cA0_1 : w5.cell? ⟨w.heap.size, 1, none⟩ = some (v0_1) := (rA0.next bel).cell 1
 have cA1_0 : w5.cell? ⟨w.heap.size + 1, 0, none⟩ = some (.int .i64 d1.1) := (rA1.next bel).cell 0
 have cA1_1 : w5.cell? ⟨w.heap.size + 1, 1, none⟩ = some (v1_0) := (rA1.next bel).cell 1
 have cA1_2 : w5.cell? ⟨w.heap.size + 1, 2, none⟩ = some (v1_1) := (rA1.next bel).cell 2
 go_wp2_with fail
 refine (toK_System _ _ d0 _ (s0.next bel) h0.out).mono ?_
 rintro e w6 ⟨x0A0, x0n0, x0c0, x0A1, x0n1, x0c1, rfl, ox0, bb⟩
 replace bel := next_trans bel bb
 have zw6 := bb.size
 clear bb
 clear cA0_0 cA0_1 cA1_0 cA1_1 cA1_2
 have cA0_0 : w6.cell? ⟨w.heap.size, 0, none⟩ = some (v0_0) := (rA0.next bel).cell 0
 have cA0_1 : w6.cell? ⟨w.heap.size, 1, none⟩ = some (v0_1) := (rA0.next bel).cell 1
 have cA1_0 : w6.cell? ⟨w.heap.size + 1, 0, none⟩ = some (.int .i64 d1.1) := (rA1.next bel).cell 0
 have cA1_1 : w6.cell? ⟨w.heap.size + 1, 1, none⟩ = some (v1_0) := (rA1.next bel).cell 1
 have cA1_2 : w6.cell? ⟨w.heap.size + 1, 2, none⟩ = some (v1_1) := (rA1.next bel).cell 2
 have dA0_0 : (w6.alloc (.cells #[.slice x0A0 x0n0 x0c0, .slice x0A1 x0n1 x0c1] 51)).cell? ⟨w.heap.size, 0, none⟩ = some (v0_0) := ((rA0.next bel).alloc _).cell 0
 have dA0_1 : (w6.alloc (.cells #[.slice x0A0 x0n0 x0c0, .slice x0A1 x0n1 x0c1] 51)).cell? ⟨w.heap.size, 1, none⟩ = some (v0_1) := ((rA0.next bel).alloc _).cell 1
 have dA1_0 : (w6.alloc (.cells #[.slice x0A0 x0n0 x0c0, .slice x0A1 x0n1 x0c1] 51)).cell? ⟨w.heap.size + 1, 0, none⟩ = some (.int .i64 d1.1) := ((rA1.next bel).alloc _).cell 0
 have dA1_1 : (w6.alloc (.cells #[.slice x0A0 x0n0 x0c0, .slice x0A1 x0n1 x0c1] 51)).cell? ⟨w.heap.size + 1, 1, none⟩ = some (v1_0) := ((rA1.next bel).alloc _).cell 1
 have dA1_2 : (w6.alloc (.cells #[.slice x0A0 x0n0 x0c0, .slice x0A1 x0n1 x0c1] 51)).cell? ⟨w.heap.size + 1, 2, none⟩ = some (v1_1) := ((rA1.next bel).alloc _).cell 2
 go_wp2_with fail
 obtain ⟨w7, hw⟩ : ∃ W, W = w6.alloc (.cells #[.slice x0A0 x0n0 x0c0, .slice x0A1 x0n1 x0c1] 51) := ⟨_, rfl⟩
 rw [← hw]
 have rx0 : Row w7 w6.heap.size 51 #[.slice x0A0 x0n0 x0c0, .slice x0A1 x0n1 x0c1] := by rw [hw]; exact Row.new _ _ _
 have bb : Below w6.heap.size w6 w7 := by rw [hw]; exact (Below.refl _ _).alloc (Nat.le_refl _) _
 have yrx0 : w6.heap.size < w7.heap.size := by rw [hw]; simp
 clear hw
 replace ox0 := ox0.next bb
 replace bel := next_trans bel bb
 have zw7 := bb.size
 clear bb
 clear dA0_0 dA0_1 dA1_0 dA1_1 dA1_2
 clear cA0_0 cA0_1 cA1_0 cA1_1 cA1_2
 have cA0_0 : w7.cell? ⟨w.heap.size, 0, none⟩ = some (v0_0) := (rA0.next bel).cell 0
 have cA0_1 : w7.cell? ⟨w.heap.size, 1, none⟩ = some (v0_1) := (rA0.next bel).cell 1
 have cA1_0 : w7.cell? ⟨w.heap.size + 1, 0, none⟩ = some (.int .i64 d1.1) := (rA1.next bel).cell 0
 have cA1_1 : w7.cell? ⟨w.heap.size + 1, 1, none⟩ = some (v1_0) := (rA1.next bel).cell 1
 have cA1_2 : w7.cell? ⟨w.heap.size + 1, 2, none⟩ = some (v1_1) := (rA1.next bel).cell 2
 have cx0_0 : w7.cell? ⟨w6.heap.size, 0, none⟩ = some (.slice x0A0 x0n0 x0c0) := (rx0).cell 0
 have cx0_1 : w7.cell? ⟨w6.heap.size, 1, none⟩ = some (.slice x0A1 x0n1 x0c1) := (rx0).cell 1
 refine (toK_Weights _ _ d1 _ (s1.next bel) h1.out).mono ?_
 rintro e w8 ⟨x1A0, x1n0, x1c0, x1A1, x1n1, x1c1, rfl, ox1, bb⟩
 replace ox0 := ox0.next bb
 replace rx0 := rx0.next bb
 replace bel := next_trans bel bb
 have zw8 := bb.size
 clear bb
 clear cA0_0 cA0_1 cA1_0 cA1_1 cA1_2 cx0_0 cx0_1
 have cA0_0 : w8.cell? ⟨w.heap.size, 0, none⟩ = some (v0_0) := (rA0.next bel).cell 0
 have cA0_1 : w8.cell? ⟨w.heap.size, 1, none⟩ = some (v0_1) := (rA0.next bel).cell 1
 have cA1_0 : w8.cell? ⟨w.heap.size + 1, 0, none⟩ = some (.int .i64 d1.1) := (rA1.next bel).cell 0
 have cA1_1 : w8.cell? ⟨w.heap.size + 1, 1, none⟩ = some (v1_0) := (rA1.next bel).cell 1
 have cA1_2 : w8.cell? ⟨w.heap.size + 1, 2, none⟩ = some (v1_1) := (rA1.next bel).cell 2
 have cx0_0 : w8.cell? ⟨w6.heap.size, 0, none⟩ = some (.slice x0A0 x0n0 x0c0) := (rx0).cell 0
 have cx0_1 : w8.cell? ⟨w6.heap.size, 1, none⟩ = some (.slice x0A1 x0n1 x0c1) := (rx0).cell 1
 have dA0_0 : (w8.alloc (.cells #[.int .i64 d1.1, .slice x1A0 x1n0 x1c0, .slice x1A1 x1n1 x1c1] 32)).cell? ⟨w.heap.size, 0, none⟩ = some (v0_0) := ((rA0.next bel).alloc _).cell 0
 have dA0_1 : (w8.alloc (.cells #[.int .i64 d1.1, .slice x1A0 x1n0 x1c0, .slice x1A1 x1n1 x1c1] 32)).cell? ⟨w.heap.size, 1, none⟩ = some (v0_1) := ((rA0.next bel).alloc _).cell 1
 have dA1_0 : (w8.alloc (.cells #[.int .i64 d1.1, .slice x1A0 x1n0 x1c0, .slice x1A1 x1n1 x1c1] 32)).cell? ⟨w.heap.size + 1, 0, none⟩ = some (.int .i64 d1.1) := ((rA1.next bel).alloc _).cell 0
 have dA1_1 : (w8.alloc (.cells #[.int .i64 d1.1, .slice x1A0 x1n0 x1c0, .slice x1A1 x1n1 x1c1] 32)).cell? ⟨w.heap.size + 1, 1, none⟩ = some (v1_0) := ((rA1.next bel).alloc _).cell 1
 have dA1_2 : (w8.alloc (.cells #[.int .i64 d1.1, .slice x1A0 x1n0 x1c0, .slice x1A1 x1n1 x1c1] 32)).cell? ⟨w.heap.size + 1, 2, none⟩ = some (v1_1) := ((rA1.next bel).alloc _).cell 2
 have dx0_0 : (w8.alloc (.cells #[.int .i64 d1.1, .slice x1A0 x1n0 x1c0, .slice x1A1 x1n1 x1c1] 32)).cell? ⟨w6.heap.size, 0, none⟩ = some (.slice x0A0 x0n0 x0c0) := ((rx0).alloc _).cell 0
 have dx0_1 : (w8.alloc (.cells #[.int .i64 d1.1, .slice x1A0 x1n0 x1c0, .slice x1A1 x1n1 x1c1] 32)).cell? ⟨w6.heap.size, 1, none⟩ = some (.slice x0A1 x0n1 x0c1) := ((rx0).alloc _).cell 1
 go_wp2_with fail
 obtain ⟨w9, hw⟩ : ∃ W, W = w8.alloc (.cells #[.int .i64 d1.1, .slice x1A0 x1n0 x1c0, .slice x1A1 x1n1 x1c1] 32) := ⟨_, rfl⟩
 rw [← hw]
 have rx1 : Row w9 w8.heap.size 32 #[.int .i64 d1.1, .slice x1A0 x1n0 x1c0, .slice x1A1 x1n1 x1c1] := by rw [hw]; exact Row.new _ _ _
 have bb : Below w8.heap.size w8 w9 := by rw [hw]; exact (Below.refl _ _).alloc (Nat.le_refl _) _
 have yrx1 : w8.heap.size < w9.heap.size := by rw [hw]; simp
 clear hw
 replace ox0 := ox0.next bb
 replace rx0 := rx0.next bb
 replace ox1 := ox1.next bb
 replace bel := next_trans bel bb
 have zw9 := bb.size
 clear bb
 clear dA0_0 dA0_1 dA1_0 dA1_1 dA1_2 dx0_0 dx0_1
 clear cA0_0 cA0_1 cA1_0 cA1_1 cA1_2 cx0_0 cx0_1
 have cA0_0 : w9.cell? ⟨w.heap.size, 0, none⟩ = some (v0_0) := (rA0.next bel).cell 0
 have cA0_1 : w9.cell? ⟨w.heap.size, 1, none⟩ = some (v0_1) := (rA0.next bel).cell 1
 have cA1_0 : w9.cell? ⟨w.heap.size + 1, 0, none⟩ = some (.int .i64 d1.1) := (rA1.next bel).cell 0
 have cA1_1 : w9.cell? ⟨w.heap.size + 1, 1, none⟩ = some (v1_0) := (rA1.next bel).cell 1
 have cA1_2 : w9.cell? ⟨w.heap.size + 1, 2, none⟩ = some (v1_1) := (rA1.next bel).cell 2
 have cx0_0 : w9.cell? ⟨w6.heap.size, 0, none⟩ = some (.slice x0A0 x0n0 x0c0) := (rx0).cell 0
 have cx0_1 : w9.cell? ⟨w6.heap.size, 1, none⟩ = some (.slice x0A1 x0n1 x0c1) := (rx0).cell 1
 have cx1_0 : w9.cell? ⟨w8.heap.size, 0, none⟩ = some (.int .i64 d1.1) := (rx1).cell 0
 have cx1_1 : w9.cell? ⟨w8.heap.size, 1, none⟩ = some (.slice x1A0 x1n0 x1c0) := (rx1).cell 1
 have cx1_2 : w9.cell? ⟨w8.heap.size, 2, none⟩ = some (.slice x1A1 x1n1 x1c1) := (rx1).cell 2
 refine (implKboOrientsX _ _ _ _ d0 d1 _ ox0.rd ox1.rd h0.out h1.out).mono ?_
 rintro e w10 ⟨he, bb⟩
 rw [HV.out] at he
 subst he
 replace ox0 := ox0.next bb
 replace rx0 := rx0.next bb
 replace ox1 := ox1.next bb
 replace rx1 := rx1.next bb
 replace bel := next_trans bel bb
 have zw10 := bb.size
 clear bb
 clear cA0_0 cA0_1 cA1_0 cA1_1 cA1_2 cx0_0 cx0_1 cx1_0 cx1_1 cx1_2
 have cA0_0 : w10.cell? ⟨w.heap.size, 0, none⟩ = some (v0_0) := (rA0.next bel).cell 0
 have cA0_1 : w10.cell? ⟨w.heap.size, 1, none⟩ = some (v0_1) := (rA0.next bel).cell 1
 have cA1_0 : w10.cell? ⟨w.heap.size + 1, 0, none⟩ = some (.int .i64 d1.1) := (rA1.next bel).cell 0
 have cA1_1 : w10.cell? ⟨w.heap.size + 1, 1, none⟩ = some (v1_0) := (rA1.next bel).cell 1
 have cA1_2 : w10.cell? ⟨w.heap.size + 1, 2, none⟩ = some (v1_1) := (rA1.next bel).cell 2
 have cx0_0 : w10.cell? ⟨w6.heap.size, 0, none⟩ = some (.slice x0A0 x0n0 x0c0) := (rx0).cell 0
 have cx0_1 : w10.cell? ⟨w6.heap.size, 1, none⟩ = some (.slice x0A1 x0n1 x0c1) := (rx0).cell 1
 have cx1_0 : w10.cell? ⟨w8.heap.size, 0, none⟩ = some (.int .i64 d1.1) := (rx1).cell 0
 have cx1_1 : w10.cell? ⟨w8.heap.size, 1, none⟩ = some (.slice x1A0 x1n0 x1c0) := (rx1).cell 1
 have cx1_2 : w10.cell? ⟨w8.heap.size, 2, none⟩ = some (.slice x1A1 x1n1 x1c1) := (rx1).cell 2
 go_wp2_with fail
 replace ox0 := ox0.drew
 replace rx0 := rx0.drew
 replace ox1 := ox1.drew
 replace rx1 := rx1.drew
 replace bel := bel.drew
 have zdw10 := (drew_below w10).size
 go_region_held3 (fun w' => w'.cell? ⟨w6.heap.size, 0, none⟩ = some (.slice x0A0 x0n0 x0c0) ∧ w'.cell? ⟨w6.heap.size, 1, none⟩ = some (.slice x0A1 x0n1 x0c1) ∧ w'.cell? ⟨w.heap.size, 0, none⟩ = some (v0_0) ∧ w'.cell? ⟨w.heap.size, 1, none⟩ = some (v0_1))
  (go_keep)
  (first
   | (go_at_call 49; refine (toK_System _ _ d0 _ (s0.next bel) h0.out).mono ?_; rintro e w11 ⟨t0A0, t0n0, t0c0, t0A1, t0n1, t0c1, rfl, ot, bb⟩; replace ox0 := ox0.next bb; replace rx0 := rx0.next bb; replace ox1 := ox1.next bb; replace rx1 := rx1.next bb; replace bel := next_trans bel bb; have k0_0w11 : w11.cell? ⟨w.heap.size, 0, none⟩ = some (v0_0) := (rA0.next bel).cell 0; have k0_1w11 : w11.cell? ⟨w.heap.size, 1, none⟩ = some (v0_1) := (rA0.next bel).cell 1; have l0_0w11 : w11.cell? ⟨w6.heap.size, 0, none⟩ = some (.slice x0A0 x0n0 x0c0) := rx0.cell 0; have l0_1w11 : w11.cell? ⟨w6.heap.size, 1, none⟩ = some (.slice x0A1 x0n1 x0c1) := rx0.cell 1; have zqw11 := bb.size; clear bb)
   | (go_at_call 50; refine (eqK_System _ _ _ _ d0 _ ox0.rd ot.rd h0.out).mono ?_; rintro e w12 ⟨rfl, bb⟩; replace ox0 := ox0.next bb; replace rx0 := rx0.next bb; replace ox1 := ox1.next bb; replace rx1 := rx1.next bb; replace bel := next_trans bel bb; have k0_0w12 : w12.cell? ⟨w.heap.size, 0, none⟩ = some (v0_0) := (rA0.next bel).cell 0; have k0_1w12 : w12.cell? ⟨w.heap.size, 1, none⟩ = some (v0_1) := (rA0.next bel).cell 1; have l0_0w12 : w12.cell? ⟨w6.heap.size, 0, none⟩ = some (.slice x0A0 x0n0 x0c0) := rx0.cell 0; have l0_1w12 : w12.cell? ⟨w6.heap.size, 1, none⟩ = some (.slice x0A1 x0n1 x0c1) := rx0.cell 1; have zqw12 := bb.size; clear bb ot))
 clear k0_0w11 l0_0w11 k0_1w11 l0_1w11 k0_0w12 l0_0w12 k0_1w12 l0_1w12
 clear ox0 rx0
 clear cA0_0 cA0_1 cA1_0 cA1_1 cA1_2 cx0_0 cx0_1 cx1_0 cx1_1 cx1_2
 have cA0_0 : w12.cell? ⟨w.heap.size, 0, none⟩ = some (v0_0) := (rA0.next bel).cell 0
 have cA0_1 : w12.cell? ⟨w.heap.size, 1, none⟩ = some (v0_1) := (rA0.next bel).cell 1
 have cA1_0 : w12.cell? ⟨w.heap.size + 1, 0, none⟩ = some (.int .i64 d1.1) := (rA1.next bel).cell 0
 have cA1_1 : w12.cell? ⟨w.heap.size + 1, 1, none⟩ = some (v1_0) := (rA1.next bel).cell 1
 have cA1_2 : w12.cell? ⟨w.heap.size + 1, 2, none⟩ = some (v1_1) := (rA1.next bel).cell 2
 have cx1_0 : w12.cell? ⟨w8.heap.size, 0, none⟩ = some (.int .i64 d1.1) := (rx1).cell 0
 have cx1_1 : w12.cell? ⟨w8.heap.size, 1, none⟩ = some (.slice x1A0 x1n0 x1c0) := (rx1).cell 1
 have cx1_2 : w12.cell? ⟨w8.heap.size, 2, none⟩ = some (.slice x1A1 x1n1 x1c1) := (rx1).cell 2
 go_wp2_with fail
 replace ox1 := ox1.drew
 replace rx1 := rx1.drew
 replace bel := bel.drew
 have zdw12 := (drew_below w12).size
 go_region_held3 (fun w' => w'.cell? ⟨w8.heap.size, 0, none⟩ = some (.int .i64 d1.1) ∧ w'.cell? ⟨w8.heap.size, 1, none⟩ = some (.slice x1A0 x1n0 x1c0) ∧ w'.cell? ⟨w8.heap.size, 2, none⟩ = some (.slice x1A1 x1n1 x1c1) ∧ w'.cell? ⟨w.heap.size + 1, 0, none⟩ = some (.int .i64 d1.1) ∧ w'.cell? ⟨w.heap.size + 1, 1, none⟩ = some (v1_0) ∧ w'.cell? ⟨w.heap.size + 1, 2, none⟩ = some (v1_1))
  (go_keep)
  (first
   | (go_at_call 39; refine (toK_Weights _ _ d1 _ (s1.next bel) h1.out).mono ?_; rintro e w13 ⟨t1A0, t1n0, t1c0, t1A1, t1n1, t1c1, rfl, ot, bb⟩; replace ox1 := ox1.next bb; replace rx1 := rx1.next bb; replace bel := next_trans bel bb; have k1_0w13 : w13.cell? ⟨w.heap.size + 1, 0, none⟩ = some (.int .i64 d1.1) := (rA1.next bel).cell 0; have k1_1w13 : w13.cell? ⟨w.heap.size + 1, 1, none⟩ = some (v1_0) := (rA1.next bel).cell 1; have k1_2w13 : w13.cell? ⟨w.heap.size + 1, 2, none⟩ = some (v1_1) := (rA1.next bel).cell 2; have l1_0w13 : w13.cell? ⟨w8.heap.size, 0, none⟩ = some (.int .i64 d1.1) := rx1.cell 0; have l1_1w13 : w13.cell? ⟨w8.heap.size, 1, none⟩ = some (.slice x1A0 x1n0 x1c0) := rx1.cell 1; have l1_2w13 : w13.cell? ⟨w8.heap.size, 2, none⟩ = some (.slice x1A1 x1n1 x1c1) := rx1.cell 2; have zqw13 := bb.size; clear bb)
   | (go_at_call 41; refine (eqK_Weights _ _ _ _ d1 _ ox1.rd ot.rd h1.out).mono ?_; rintro e w14 ⟨rfl, bb⟩; replace ox1 := ox1.next bb; replace rx1 := rx1.next bb; replace bel := next_trans bel bb; have k1_0w14 : w14.cell? ⟨w.heap.size + 1, 0, none⟩ = some (.int .i64 d1.1) := (rA1.next bel).cell 0; have k1_1w14 : w14.cell? ⟨w.heap.size + 1, 1, none⟩ = some (v1_0) := (rA1.next bel).cell 1; have k1_2w14 : w14.cell? ⟨w.heap.size + 1, 2, none⟩ = some (v1_1) := (rA1.next bel).cell 2; have l1_0w14 : w14.cell? ⟨w8.heap.size, 0, none⟩ = some (.int .i64 d1.1) := rx1.cell 0; have l1_1w14 : w14.cell? ⟨w8.heap.size, 1, none⟩ = some (.slice x1A0 x1n0 x1c0) := rx1.cell 1; have l1_2w14 : w14.cell? ⟨w8.heap.size, 2, none⟩ = some (.slice x1A1 x1n1 x1c1) := rx1.cell 2; have zqw14 := bb.size; clear bb ot))
 clear k1_0w13 l1_0w13 k1_1w13 l1_1w13 k1_2w13 l1_2w13 k1_0w14 l1_0w14 k1_1w14 l1_1w14 k1_2w14 l1_2w14
 clear ox1 rx1
 clear cA0_0 cA0_1 cA1_0 cA1_1 cA1_2 cx1_0 cx1_1 cx1_2
 have cA0_0 : w14.cell? ⟨w.heap.size, 0, none⟩ = some (v0_0) := (rA0.next bel).cell 0
 have cA0_1 : w14.cell? ⟨w.heap.size, 1, none⟩ = some (v0_1) := (rA0.next bel).cell 1
 have cA1_0 : w14.cell? ⟨w.heap.size + 1, 0, none⟩ = some (.int .i64 d1.1) := (rA1.next bel).cell 0
 have cA1_1 : w14.cell? ⟨w.heap.size + 1, 1, none⟩ = some (v1_0) := (rA1.next bel).cell 1
 have cA1_2 : w14.cell? ⟨w.heap.size + 1, 2, none⟩ = some (v1_1) := (rA1.next bel).cell 2
 have F := hid (bW.trans (bel.mono bW.size))
 clear bel bW cA0_0 cA0_1 cA1_0 cA1_1 cA1_2
 go_wp2
 go_ret
 exact ⟨rfl, F.out⟩
end wKboOrients
end
section
namespace openX
open Go.ChangeShapes Go.WideShapes Go.ChangeAt Go.RowKit base segs shape
def Wf : (s : Sh) → Dat s → Prop
 | .num, (x : Int) => -9223372036854775808 ≤ x ∧ x ≤ 9223372036854775807
 | .bit, _ => True
 | .row _ s, (d : List (Dat s)) => ∀ j, j < d.length → Wf s (d.getD j (dft s))
 | .cat a b, d => Wf a d.1 ∧ Wf b d.2
mutual
def fitsB (P : Program) : Nat → Sh → TypeId → Bool
 | 0, _, _ => false
 | n + 1, s, t => match P.underlying t with
  | some (.struct fs) => P.cellsOf t == nc s && fitsL P n fs.toList 0 s
  | some (.int .i64) => match s with | .num => true | _ => false
  | some .bool => match s with | .bit => true | _ => false
  | some (.slice e) => match s with | .row _ s' => P.cellsOf e == nc s' && fitsB P n s' e | _ => false
  | _ => false
def fitsL (P : Program) : Nat → List Field → Nat → Sh → Bool
 | 0, _, _, _ => false
 | _ + 1, [], _, _ => false
 | n + 1, [f], k, s => f.offset == k && (P.cellsOf f.type == nc s && fitsB P n s f.type)
 | n + 1, f :: g :: fs, k, s => match s with | .cat a b => f.offset == k && (P.cellsOf f.type == nc a && (fitsB P n a f.type && fitsL P n (g :: fs) (k + nc a) b)) | _ => false
end
section
variable {H : Type} {enc : TypeId × Value → H} {P : Program} {w : World} {held : Bool}
theorem addr_add {b off i : Nat} : (⟨b, off, none⟩ : Addr).add i = ⟨b, off + i, none⟩ := by unfold Addr.add; split <;> simp_all
theorem rd_trod : ∀ n : Nat, (∀ (s : Sh) (t : TypeId) (fuel : Nat) (cs : List Value) (x : DataW H × List MemPlace), fitsB P n s t = true → DataW.trod enc P w 0 (fun _ => true) held fuel t cs = some x → ∃ d, Rd w w.heap.size s cs d ∧ Wf s d) ∧
  (∀ (fs : List Field) (k : Nat) (s : Sh) (cs : List Value) (m : Nat), fitsL P n fs k s = true → (∀ (i : Nat) (f : Field), fs[i]? = some f → ∃ x, DataW.trod enc P w 0 (fun _ => true) held m f.type ((cs.drop f.offset).take (P.cellsOf f.type)) = some x) →
   ∃ d, Rd w w.heap.size s ((cs.drop k).take (nc s)) d ∧ Wf s d) := by
 intro n
 induction n with
 | zero => exact ⟨fun _ _ _ _ _ h => by simp [fitsB] at h, fun _ _ _ _ _ h => by simp [fitsL] at h⟩
 | succ n ih =>
  refine ⟨fun s t fuel cs x hf h => ?_, fun fs k s cs m hf h => ?_⟩
  ·unfold fitsB at hf
   split at hf
   ·rename_i fs hu
    simp only [Bool.and_eq_true, beq_iff_eq] at hf
    obtain ⟨xs, n', hfu, hx, hlen, hxl, hg⟩ := DataW.trod_struct hu h
    obtain ⟨d, hr, hw⟩ := ih.2 fs.toList 0 s cs n' hf.2 (fun i f hi => by
     have hi' : fs[i]? = some f := by simpa using hi
     have h1 := hg i f hi'
     have hlt : i < fs.size := (Array.getElem?_eq_some_iff.1 hi').1
     exact ⟨xs[i]'(by omega), by rw [h1]; exact List.getElem?_eq_getElem (by omega)⟩)
    rw [List.drop_zero, List.take_of_length_le (by omega)] at hr
    exact ⟨d, hr, hw⟩
   ·rename_i hu
    split at hf
    ·obtain ⟨z, e1, _, hw⟩ := DataW.trod_int hu h
     refine ⟨z, e1, ?_⟩
     show -9223372036854775808 ≤ z ∧ z ≤ 9223372036854775807
     simpa [Lit.wf, IntKind.min, IntKind.max, IntKind.signed, IntKind.bits] using hw
    ·cases hf
   ·rename_i hu
    split at hf
    ·obtain ⟨z, e1, _⟩ := DataW.trod_bool hu h
     exact ⟨z, e1, trivial⟩
    ·cases hf
   ·rename_i e hu
    split at hf
    ·rename_i e0 s'
     simp only [Bool.and_eq_true, beq_iff_eq] at hf
     rcases Go.Deep.open_slice hu h with ⟨hcs, _⟩ | ⟨a, len, cap, m, n', D, Pl, hcs, _, hl, hm, hmm, _, hi⟩
     ·exact ⟨[], ⟨none, 0, 0, hcs, ⟨by omega, by omega, fun _ => rfl⟩, rfl, fun h => absurd h (by omega)⟩, fun j hj => absurd hj (Nat.not_lt_zero _)⟩
     ·have hmc : m = cap := by simpa using hmm
      subst hmc
      have hd : ∀ j, j < len → ∃ (es : List Value) (dj : Dat s'), es.length = nc s' ∧ (∀ i, i < nc s' → w.cell? ((a.add (j * nc s')).add i) = es[i]?) ∧ Rd w w.heap.size s' es dj ∧ Wf s' dj := fun j hj => by
       obtain ⟨cs', hc, ht⟩ := hi j (by omega)
       obtain ⟨dj, hr, hw⟩ := ih.1 s' e n' cs' _ hf.2 ht
       rw [hf.1] at hc
       obtain ⟨_, hcl, hat⟩ := World.cells?_some hc
       exact ⟨cs', dj, hcl, hat, hr, hw⟩
      have hspot : 0 < len → a.spot = none := fun h0 => by
       obtain ⟨es, dj, h1, h2, _⟩ := hd 0 h0
       have hp := nc_pos s'
       have h3 := h2 0 (by omega)
       rw [List.getElem?_eq_getElem (by omega)] at h3
       have := World.cell?_spot h3
       simpa [Addr.add] using this
      obtain ⟨ds, hdl, hds⟩ : ∃ ds : List (Dat s'), ds.length = len ∧ ∀ j, j < len → ∃ es : List Value, es.length = nc s' ∧ (∀ i, i < nc s' → w.cell? ((a.add (j * nc s')).add i) = es[i]?) ∧ Rd w w.heap.size s' es (ds.getD j (dft s')) ∧ Wf s' (ds.getD j (dft s')) := by
       refine ⟨(List.range len).map fun j => if hj : j < len then Classical.choose (Classical.choose_spec (hd j hj)) else dft s', by simp, fun j hj => ?_⟩
       refine ⟨Classical.choose (hd j hj), ?_⟩
       have h1 := Classical.choose_spec (Classical.choose_spec (hd j hj))
       have e1 : ((List.range len).map fun j => if hj : j < len then Classical.choose (Classical.choose_spec (hd j hj)) else dft s').getD j (dft s') = Classical.choose (Classical.choose_spec (hd j hj)) := by simp [List.getD, hj]
       rw [e1]
       exact h1
      refine ⟨ds, ⟨some a, len, m, hcs, ⟨hl, by unfold maxLen at hm; omega, fun e => by cases e⟩, hdl, fun h0 => ?_⟩, fun j hj => by
       obtain ⟨es, _, _, _, hw⟩ := hds j (by rw [← hdl]; exact hj)
       exact hw⟩
      obtain ⟨b, off, spot⟩ := a
      have hs := hspot h0
      simp only at hs
      subst hs
      refine ⟨b, off, rfl, ?_, fun j hj => ?_⟩
      ·obtain ⟨es, h1, h2, _⟩ := hds 0 h0
       have hp := nc_pos s'
       have h3 := h2 0 (by omega)
       rw [List.getElem?_eq_getElem (by omega)] at h3
       have h4 := World.block_lt_of_cell? _ _ h3
       simpa [addr_add] using h4
      ·obtain ⟨es, h1, h2, h3, _⟩ := hds j hj
       refine ⟨es, h1, fun i hi2 => ?_, h3⟩
       have := h2 i (by omega)
       rw [addr_add, addr_add] at this
       exact this
    ·cases hf
   ·cases hf
  ·match fs, hf, h with
   | [], hf, _ => simp [fitsL] at hf
   | [f], hf, h =>
    unfold fitsL at hf
    simp only [Bool.and_eq_true, beq_iff_eq] at hf
    obtain ⟨h1, h2, h3⟩ := hf
    obtain ⟨x, hx⟩ := h 0 f rfl
    rw [h1, h2] at hx
    exact ih.1 s f.type m _ x h3 hx
   | f :: g :: fs, hf, h =>
    cases s with
    | cat a b =>
     unfold fitsL at hf
     simp only [Bool.and_eq_true, beq_iff_eq] at hf
     obtain ⟨h1, h2, h3, h4⟩ := hf
     obtain ⟨x, hx⟩ := h 0 f rfl
     rw [h1, h2] at hx
     obtain ⟨d1, r1, w1⟩ := ih.1 a f.type m _ x h3 hx
     obtain ⟨d2, r2, w2⟩ := ih.2 (g :: fs) (k + nc a) b cs m h4 (fun i f' hi => h (i + 1) f' hi)
     refine ⟨(d1, d2), ⟨_, _, ?_, r1, r2⟩, w1, w2⟩
     show List.take (nc a + nc b) (List.drop k cs) = _
     rw [List.take_add, List.drop_drop]
    | num => simp [fitsL] at hf
    | bit => simp [fitsL] at hf
    | row e s' => simp [fitsL] at hf
theorem open_val {s : Sh} {t : TypeId} {v : Value} {d : DataW H} {p : List MemPlace} {n : Nat} (hf : fitsB P n s t = true) (h : DataW.Trod enc P w 0 (fun _ => true) held t v d p) : ∃ x, Rd w w.heap.size s v.cells.toList x ∧ Wf s x := by
 obtain ⟨fuel, hfu⟩ := h
 exact (rd_trod n).1 s t fuel _ _ hf hfu
end
end openX
end
end Go.Proofs.Ytiimbmkofpnebaa
