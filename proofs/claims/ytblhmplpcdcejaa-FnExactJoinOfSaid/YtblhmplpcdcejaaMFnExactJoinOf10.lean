/-
  MERGED: my texts JoinImpl, WalkToX, JoinX, Join2, one behind the other, as they are. By an AI agent.
-/
import Derived.Test.YtblhmplpcdcejaaMFnExactJoinOf9
import Derived.Deep.DeepCutAuto
namespace Go.Proofs.Ytblhmplpcdcejaa
section
open Go.Lib (hid)
open List (setIfInBounds_toArray set_cons_zero set_cons_succ getElem_toArray getElem_cons_zero getElem_cons_succ)
namespace joinImpl
open Go.RowKit base ints sig term termOk marks app appAt sym sub segs segsHelp termFacts varsOf shape kindsR kindsW ruleMath ruleSpec ruleImpl stepMath walkMath stepSpec stepImpl reachMath findW findSpec iter longest ownL reachImpl known pickOwn reachSpec reachImplB reachWalk walkSpec joinSpec heldT
open walkTo (src_two two_small rd_two)
set_option maxRecDepth 100000
abbrev rz : Array Value := #[.slice none 0 0, .map none, .bool false]
structure Both (V : World) (SA SB : Fs) (p q : Nat) (O1 : Option Addr) (on1 oc1 mb1 k1 : Nat) (O2 : Option Addr) (on2 oc2 mb2 k2 lo1 hi1 lo2 hi2 : Nat) (W : World) : Prop where
 ra : Row W p 89 #[.slice O1 on1 oc1, .map (some mb1), .bool SA.2]
 rb : Row W q 89 #[.slice O2 on2 oc2, .map (some mb2), .bool SB.2]
 oa : OwnL W lo1 hi1 94 sFind O1 on1 oc1 (SA.1.map fdat)
 ka : Kn W mb1 k1 (termsF SA.1)
 ob : OwnL W lo2 hi2 94 sFind O2 on2 oc2 (SB.1.map fdat)
 kb : Kn W mb2 k2 (termsF SB.1)
 z : V.heap.size ≤ lo1 ∧ lo1 ≤ hi1 ∧ hi1 ≤ lo2 ∧ lo2 ≤ hi2 ∧ hi2 ≤ W.heap.size
 b : Below V.heap.size V W
def CutJ (V : World) (SA SB : Fs) (s t : Value) (W : World) : Prop := ∃ p q O1 on1 oc1 mb1 k1 O2 on2 oc2 mb2 k2 lo1 hi1 lo2 hi2, s = .pointer (some ⟨p, 0, none⟩) ∧ t = .pointer (some ⟨q, 0, none⟩) ∧ Both V SA SB p q O1 on1 oc1 mb1 k1 O2 on2 oc2 mb2 k2 lo1 hi1 lo2 hi2 W
theorem Both.next {V : World} {SA SB : Fs} {p q : Nat} {O1 : Option Addr} {on1 oc1 mb1 k1 : Nat} {O2 : Option Addr} {on2 oc2 mb2 k2 lo1 hi1 lo2 hi2 : Nat} {W W' : World} (h : Both V SA SB p q O1 on1 oc1 mb1 k1 O2 on2 oc2 mb2 k2 lo1 hi1 lo2 hi2 W) (hb : Below W.heap.size W W') : Both V SA SB p q O1 on1 oc1 mb1 k1 O2 on2 oc2 mb2 k2 lo1 hi1 lo2 hi2 W' :=
 ⟨h.ra.next hb, h.rb.next hb, h.oa.next hb, h.ka.below hb, h.ob.next hb, h.kb.below hb, ⟨h.z.1, h.z.2.1, h.z.2.2.1, h.z.2.2.2.1, Nat.le_trans h.z.2.2.2.2 hb.size⟩, next_trans h.b hb⟩
def put6 (U : World) (p q : Nat) (a b c d e f : Value) : World := (((((U.setCell ⟨p, 0, none⟩ a).setCell ⟨p, 1, none⟩ b).setCell ⟨p, 2, none⟩ c).setCell ⟨q, 0, none⟩ d).setCell ⟨q, 1, none⟩ e).setCell ⟨q, 2, none⟩ f
theorem six_cells {U : World} {p q : Nat} (hp : Row U p 89 rz) (hq : Row U q 89 rz) (hpq : p ≠ q) (a b c d e : Value) :
  (U.cell? ⟨p, 0, none⟩ = some (.slice none 0 0) ∧ U.frozen? ⟨p, 0, none⟩ = false ∧ U.cell? ⟨p, 1, none⟩ = some (.map none) ∧ U.frozen? ⟨p, 1, none⟩ = false ∧ U.cell? ⟨p, 2, none⟩ = some (.bool false) ∧ U.frozen? ⟨p, 2, none⟩ = false ∧
  (U.setCell ⟨p, 0, none⟩ a).cell? ⟨p, 1, none⟩ = some (.map none) ∧ (U.setCell ⟨p, 0, none⟩ a).frozen? ⟨p, 1, none⟩ = false ∧
  ((U.setCell ⟨p, 0, none⟩ a).setCell ⟨p, 1, none⟩ b).cell? ⟨p, 2, none⟩ = some (.bool false) ∧ ((U.setCell ⟨p, 0, none⟩ a).setCell ⟨p, 1, none⟩ b).frozen? ⟨p, 2, none⟩ = false) ∧
  (((U.setCell ⟨p, 0, none⟩ a).setCell ⟨p, 1, none⟩ b).setCell ⟨p, 2, none⟩ c).cell? ⟨q, 0, none⟩ = some (.slice none 0 0) ∧ (((U.setCell ⟨p, 0, none⟩ a).setCell ⟨p, 1, none⟩ b).setCell ⟨p, 2, none⟩ c).frozen? ⟨q, 0, none⟩ = false ∧
  ((((U.setCell ⟨p, 0, none⟩ a).setCell ⟨p, 1, none⟩ b).setCell ⟨p, 2, none⟩ c).setCell ⟨q, 0, none⟩ d).cell? ⟨q, 1, none⟩ = some (.map none) ∧ ((((U.setCell ⟨p, 0, none⟩ a).setCell ⟨p, 1, none⟩ b).setCell ⟨p, 2, none⟩ c).setCell ⟨q, 0, none⟩ d).frozen? ⟨q, 1, none⟩ = false ∧
  (((((U.setCell ⟨p, 0, none⟩ a).setCell ⟨p, 1, none⟩ b).setCell ⟨p, 2, none⟩ c).setCell ⟨q, 0, none⟩ d).setCell ⟨q, 1, none⟩ e).cell? ⟨q, 2, none⟩ = some (.bool false) ∧ (((((U.setCell ⟨p, 0, none⟩ a).setCell ⟨p, 1, none⟩ b).setCell ⟨p, 2, none⟩ c).setCell ⟨q, 0, none⟩ d).setCell ⟨q, 1, none⟩ e).frozen? ⟨q, 2, none⟩ = false := by
 have p1 := hp.put 0 a
 have p2 := p1.put 1 b
 have q1 := ((hq.far (p := ⟨p, 0, none⟩) (Ne.symm hpq) a).far (p := ⟨p, 1, none⟩) (Ne.symm hpq) b).far (p := ⟨p, 2, none⟩) (Ne.symm hpq) c
 have q2 := q1.put 0 d
 have q3 := q2.put 1 e
 exact ⟨⟨hp.cell 0, hp.free 0, hp.cell 1, hp.free 1, hp.cell 2, hp.free 2, p1.cell 1, p1.free 1, p2.cell 2, p2.free 2⟩, q1.cell 0, q1.free 0, q2.cell 1, q2.free 1, q3.cell 2, q3.free 2⟩
theorem cutJ {V U : World} {SA SB : Fs} {p q : Nat} {O1 : Option Addr} {on1 oc1 mb1 k1 : Nat} {O2 : Option Addr} {on2 oc2 mb2 k2 lo1 hi1 lo2 hi2 : Nat} (hp : Row U p 89 rz) (hq : Row U q 89 rz) (hpq : p ≠ q)
  (oa : OwnL U lo1 hi1 94 sFind O1 on1 oc1 (SA.1.map fdat)) (ka : Kn U mb1 k1 (termsF SA.1)) (ob : OwnL U lo2 hi2 94 sFind O2 on2 oc2 (SB.1.map fdat)) (kb : Kn U mb2 k2 (termsF SB.1))
  (z : V.heap.size ≤ lo1 ∧ lo1 ≤ hi1 ∧ hi1 ≤ lo2 ∧ lo2 ≤ hi2 ∧ hi2 ≤ U.heap.size) (m1 : lo1 ≤ mb1 ∧ mb1 < hi1) (m2 : lo2 ≤ mb2 ∧ mb2 < hi2) (b : Below V.heap.size V U) (zp : V.heap.size ≤ p) (zq : V.heap.size ≤ q)
  (n1 : p < lo1 ∨ hi1 ≤ p) (n2 : p < lo2 ∨ hi2 ≤ p) (n3 : q < lo1 ∨ hi1 ≤ q) (n4 : q < lo2 ∨ hi2 ≤ q) :
  CutJ V SA SB (.pointer (some ⟨p, 0, none⟩)) (.pointer (some ⟨q, 0, none⟩)) (put6 U p q (.slice O1 on1 oc1) (.map (some mb1)) (.bool SA.2) (.slice O2 on2 oc2) (.map (some mb2)) (.bool SB.2)) := by
 have hsz : (put6 U p q (.slice O1 on1 oc1) (.map (some mb1)) (.bool SA.2) (.slice O2 on2 oc2) (.map (some mb2)) (.bool SB.2)).heap.size = U.heap.size := by unfold put6; simp
 have hbl : ∀ k, k ≠ p → k ≠ q → (put6 U p q (.slice O1 on1 oc1) (.map (some mb1)) (.bool SA.2) (.slice O2 on2 oc2) (.map (some mb2)) (.bool SB.2)).heap[k]? = U.heap[k]? := fun k h1 h2 => by
  unfold put6
  rw [Below.heap_setCell _ _ _ k h2, Below.heap_setCell _ _ _ k h2, Below.heap_setCell _ _ _ k h2, Below.heap_setCell _ _ _ k h1, Below.heap_setCell _ _ _ k h1, Below.heap_setCell _ _ _ k h1]
 have hkn : ∀ {mb k : Nat} {L : List (List Int)}, Kn U mb k L → mb ≠ p → mb ≠ q → Kn (put6 U p q (.slice O1 on1 oc1) (.map (some mb1)) (.bool SA.2) (.slice O2 on2 oc2) (.map (some mb2)) (.bool SB.2)) mb k L := fun h h1 h2 => by
  unfold put6
  have e1 : ∀ {g : Nat}, g = p → some _ ≠ some g := fun e e2 => by injection e2 with e2; exact h1 (e2.trans e)
  have e2 : ∀ {g : Nat}, g = q → some _ ≠ some g := fun e e2 => by injection e2 with e2; exact h2 (e2.trans e)
  exact (((((h.kept (grown_set _ p 0 _) (e1 rfl)).kept (grown_set _ p 1 _) (e1 rfl)).kept (grown_set _ p 2 _) (e1 rfl)).kept (grown_set _ q 0 _) (e2 rfl)).kept (grown_set _ q 1 _) (e2 rfl)).kept (grown_set _ q 2 _) (e2 rfl)
 refine ⟨p, q, O1, on1, oc1, mb1, k1, O2, on2, oc2, mb2, k2, lo1, hi1, lo2, hi2, rfl, rfl, ⟨?_, ?_, oa.keep (fun k h1 h2 _ => hbl k (by omega) (by omega)) (by omega), hkn ka (by omega) (by omega), ob.keep (fun k h1 h2 _ => hbl k (by omega) (by omega)) (by omega), hkn kb (by omega) (by omega), by rw [hsz]; exact z, ?_⟩⟩
 ·exact (((((hp.put 0 _).put 1 _).put 2 _).far (p := ⟨q, 0, none⟩) hpq _).far (p := ⟨q, 1, none⟩) hpq _).far (p := ⟨q, 2, none⟩) hpq _
 ·exact ((((((hq.far (p := ⟨p, 0, none⟩) (Ne.symm hpq) _).far (p := ⟨p, 1, none⟩) (Ne.symm hpq) _).far (p := ⟨p, 2, none⟩) (Ne.symm hpq) _).put 0 _).put 1 _).put 2 _)
 ·unfold put6
  exact (((((b.setCell (p := ⟨p, 0, none⟩) zp _).setCell (p := ⟨p, 1, none⟩) zp _).setCell (p := ⟨p, 2, none⟩) zp _).setCell (p := ⟨q, 0, none⟩) zq _).setCell (p := ⟨q, 1, none⟩) zq _).setCell (p := ⟨q, 2, none⟩) zq _
theorem box4 (w : World) (t t' t'' t3 : TypeId) (cs cs' cs'' c3 : Array Value) : ∃ W, W = (((w.alloc (.cells cs t)).alloc (.cells cs' t')).alloc (.cells cs'' t'')).alloc (.cells c3 t3) ∧ Row W w.heap.size t cs ∧ Row W (w.heap.size + 1) t' cs' ∧ Row W (w.heap.size + 1 + 1) t'' cs'' ∧ Row W (w.heap.size + 1 + 1 + 1) t3 c3 ∧ Below w.heap.size w W := by
 refine ⟨_, rfl, (((Row.new w _ _).alloc _).alloc _).alloc _, ?_, ?_, ?_, ((((Below.refl _ _).alloc (Nat.le_refl _) _).alloc (by simp) _).alloc (by simp; omega) _).alloc (by simp; omega) _⟩
 ·have := ((Row.new (w.alloc (.cells cs t)) t' cs').alloc (.cells cs'' t'')).alloc (.cells c3 t3); simpa using this
 ·have := (Row.new ((w.alloc (.cells cs t)).alloc (.cells cs' t')) t'' cs'').alloc (.cells c3 t3); simpa using this
 ·have := Row.new (((w.alloc (.cells cs t)).alloc (.cells cs' t')).alloc (.cells cs'' t'')) t3 c3; simpa using this
theorem ow_seg {w : World} {T : Option Addr} {n c : Nat} {xs : List Int} {F : List Nat} (h : Ow w sI [.slice T n c] xs F) : Seg w w.heap.size T n xs := by
 obtain ⟨_, _, _, e, hs, -⟩ := rd_ints.1 h.rd
 cases e
 exact hs
theorem plc_own {D : List (List Int)} (h : D.Nodup) {i : Nat} (hi : i < D.length) : plcO D (D.getD i []) = some i := plc_at hi (fun j hj e => by
 have hj' : j < D.length := by omega
 have e1 : D.getD i [] = D[i] := by simp [List.getD, hi]
 have e2 : D.getD j [] = D[j] := by simp [List.getD, hj']
 rw [e1, e2] at e
 have hp := List.pairwise_iff_getElem.1 h j i hj' hi hj
 exact hp e) rfl
set_option maxHeartbeats 8000000 in
theorem implJoinOf (a v u y : Value) (d : Dat sSystem) (t s : List Int) (x : Int) (w : World) (h : Rd w w.heap.size sSystem [a, v] d) (ht : Rd w w.heap.size sI [u] t) (hs : Rd w w.heap.size sI [y] s) (hz : sz sSystem d ≤ 1048576) (hz1 : sz sI t ≤ 1048576) (hz2 : sz sI s ≤ 1048576) :
  Calls Try.prog 26 #[.agg #[a, v], u, y, .int .i64 x] w (AnsJ w (joinO d.1 d.2 t s x)) := by
 obtain ⟨T, m, c, rfl, hT, hcT⟩ := rd_ints.1 ht
 obtain ⟨T', m', c', rfl, hT', hcT'⟩ := rd_ints.1 hs
 have htl : t.length ≤ 1048576 := by rwa [sz_ints] at hz1
 have hsl : s.length ≤ 1048576 := by rwa [sz_ints] at hz2
 obtain ⟨W, hW, rA, rR, rQ, rL, bel⟩ := box4 w 34 50 50 22 #[a, v] #[.slice none 0 0, .slice none 0 0] #[.slice none 0 0, .slice none 0 0] #[.slice T m c, .slice T' m' c']
 have HW := hid hW
 have LS := hid (searchIn a v x (some ⟨w.heap.size + 1 + 1 + 1, 0, none⟩) 2 2 [t, s] d W (h.next bel) hz (rd_two rL rL.lt (ht.next bel) (hs.next bel)) (by omega) (two_small htl hsl))
 rw [src_two] at LS
 have HH := hid (show Rd w w.heap.size sSystem [a, v] d ∧ Seg w w.heap.size T m t ∧ sz sSystem d ≤ 1048576 ∧ Seg w w.heap.size T' m' s from ⟨h, hT, hz, hT'⟩)
 clear hW h ht hs hT hcT hT' hcT' rL hz htl hsl
 cases ok : (right9 d.1 d.2 t x && right9 d.1 d.2 s x) with
 | false =>
  have HO := hid (show joinO d.1 d.2 t s x = none from by unfold joinO; rw [if_neg (by rw [ok]; simp)])
  rw [ok] at LS
  clear ok
  go_enter Try.func26, Try.ntmps26
  go_wp2_with fail
  rw [← HW.out]
  refine LS.out.mono ?_
  rintro e w1 ⟨x1, x2, x3, y1, y2, y3, b, rfl, rfl, -, bb⟩
  obtain ⟨V, hV⟩ : ∃ V, V = w1.alloc (.cells #[.slice x1 x2 x3, .slice y1 y2 y3] 65) := ⟨_, rfl⟩
  have bV : Below w1.heap.size w1 V := by rw [hV]; exact (Below.refl _ _).alloc (Nat.le_refl _) _
  have b1 := next_trans (next_trans bel bb) bV
  obtain ⟨⟨p0, p1, p2, p3, p4, p5⟩, ⟨q0, q1, q2, q3, q4, q5⟩, u0, u1, u2, u3⟩ := two_cells ((rR.next bb).next bV) ((rQ.next bb).next bV) (by omega) (.slice none 0 0) (.slice none 0 0) (.slice none 0 0) (.slice none 0 0)
  have F := hid (ansJ_no HO.out (put4_below b1 (.slice none 0 0) (.slice none 0 0) (.slice none 0 0) (.slice none 0 0)))
  rw [hV] at p0 p1 p2 p3 p4 p5 q0 q1 q2 q3 q4 q5 u0 u1 u2 u3 F
  clear bb bel b1 rA rR rQ LS HW bV hV
  go_wp2
  exact bodyPost_ret (v := .tuple #[.agg #[.slice none 0 0, .slice none 0 0], .agg #[.slice none 0 0, .slice none 0 0], .bool false]) (by simp [results, Try.results26, go_sem, u0, u1, u2, u3]) rfl F.out
 | true =>
  rw [ok] at LS
  rw [Bool.and_eq_true] at ok
  obtain ⟨r1, r2, r3⟩ := r9_parts ok.1
  obtain ⟨r4, -, -⟩ := r9_parts ok.2
  obtain ⟨N, rfl⟩ : ∃ N : Nat, x = (N : Int) := ⟨x.toNat, by omega⟩
  have HO := hid (join_yes ok.1 ok.2)
  obtain ⟨bT, off, rfl⟩ := seg_ad HH.out.2.1 (by rw [← HH.out.2.1.1]; exact right_pos r1)
  obtain ⟨bT', off', rfl⟩ := seg_ad HH.out.2.2.2 (by rw [← HH.out.2.2.2.1]; exact right_pos r4)
  have LA := hid (fun (w9 : World) (b9 : Below w.heap.size w w9) => implReachOf a v bT off m c d t N w9 (HH.out.1.next b9) (HH.out.2.1.next b9) HH.out.2.2.1 r1 (by omega))
  have LB := hid (fun (w9 : World) (b9 : Below w.heap.size w w9) => implReachOf a v bT' off' m' c' d s N w9 (HH.out.1.next b9) (HH.out.2.2.2.next b9) HH.out.2.2.1 r4 (by omega))
  have HR := hid (show rightB d.1 d.2 t = true ∧ rightB d.1 d.2 s = true ∧ N ≤ 20 from ⟨r1, r4, by omega⟩)
  have hN : N ≤ 20 := by omega
  clear ok r1 r2 r3 r4
  obtain ⟨SA, hSA⟩ : ∃ S, fdA d.1 d.2 t N = S := ⟨_, rfl⟩
  obtain ⟨SB, hSB⟩ : ∃ S, fdA d.1 d.2 s N = S := ⟨_, rfl⟩
  have HI := hid (show Inv d.1 d.2 t N SA 60 ∧ Inv d.1 d.2 s N SB 60 from ⟨by rw [← hSA]; exact fd_inv, by rw [← hSB]; exact fd_inv⟩)
  have HSM := hid (show ∀ f ∈ SA.1, Small (termF f) from fun f hf => by
   have h2 := HR.out.1
   unfold rightB at h2
   rw [Bool.and_eq_true] at h2
   exact small_term (find_ok h2.1 h2.2 HI.out.1 hf))
  rw [hSA] at LA HO
  rw [hSB] at LB HO
  clear hSA hSB
  go_enter Try.func26, Try.ntmps26
  go_wp2_with fail
  rw [← HW.out]
  refine LS.out.mono ?_
  rintro e w1 ⟨x1, x2, x3, y1, y2, y3, b, rfl, rfl, hxy, bb⟩
  obtain ⟨rfl, rfl⟩ := hxy rfl
  obtain ⟨V, hV⟩ : ∃ V, V = w1.alloc (.cells #[.slice x1 x2 x3, .slice y1 y2 y3] 65) := ⟨_, rfl⟩
  have bV : Below w1.heap.size w1 V := by rw [hV]; exact (Below.refl _ _).alloc (Nat.le_refl _) _
  have bw : Below w.heap.size w V.drew := (next_trans (next_trans bel bb) bV).drew
  have rV : Row V.drew w1.heap.size 65 #[.slice x1 x2 x3, .slice y1 y2 y3] := by rw [hV]; exact (Row.new _ _ _).drew
  have zS : w1.heap.size < V.drew.heap.size := rV.lt
  have B2 := hid (show V = w1.alloc (.cells #[.slice x1 x2 x3, .slice y1 y2 y3] 65) ∧ Below w.heap.size w V.drew ∧ Row V.drew (w.heap.size + 1) 50 #[.slice none 0 0, .slice none 0 0] ∧ Row V.drew (w.heap.size + 1 + 1) 50 #[.slice none 0 0, .slice none 0 0] from ⟨hV, bw, ((rR.next bb).next bV).drew, ((rQ.next bb).next bV).drew⟩)
  obtain ⟨sb, hsb⟩ : ∃ sb, w1.heap.size = sb := ⟨_, rfl⟩
  have HSB := hid hsb
  rw [hsb] at rV zS
  clear bb bel rA rR rQ LS HW hxy bV hV hsb
  go_upto_region 4 with (fail)
  rw [← B2.out.1, HSB.out]
  go_cut [13, 14] (fun s13 s14 wx => CutJ V.drew SA SB s13 s14 wx)
  case first =>
   have bs := Below.refl (V.drew).heap.size (V.drew)
   have bw := B2.out.2.1
   refine wp_region_held_drew (S := (fun w' => w'.cell? ⟨sb, 0, none⟩ = some (.slice x1 x2 x3) ∧ w'.cell? ⟨sb, 1, none⟩ = some (.slice y1 y2 y3))) (by kernel_rfl) ⟨rV.cell 0, rV.cell 1⟩ (fun hHeld => ?_)
   refine wpAnyH_take (i := 0) (v := ?_) rfl (by kernel_rfl) (by kernel_rfl) (by kernel_rfl) (fun _ _ _ h => h) (Or.inl ⟨by rfl, ?_⟩) (by assumption) ?_
   rotate_left 1
   ·(intro w0 hSw; (try dsimp only at hSw); go_simp; try with_reducible rfl)
   try simp only [Act.put, setIfInBounds_toArray, set_cons_zero, set_cons_succ, getElem_toArray, getElem_cons_zero, getElem_cons_succ]
   refine wpAnyH_take (i := 1) (v := ?_) rfl (by kernel_rfl) (by kernel_rfl) (by kernel_rfl) (fun _ _ _ h => h) (Or.inl ⟨by rfl, ?_⟩) (by assumption) ?_
   rotate_left 1
   ·(intro w0 hSw; (try dsimp only at hSw); go_simp; try with_reducible rfl)
   try simp only [Act.put, setIfInBounds_toArray, set_cons_zero, set_cons_succ, getElem_toArray, getElem_cons_zero, getElem_cons_succ]
   refine wpAnyH_take (i := 2) (v := ?_) rfl (by kernel_rfl) (by kernel_rfl) (by kernel_rfl) (fun _ _ _ h => h) (Or.inl ⟨by rfl, ?_⟩) (by assumption) ?_
   rotate_left 1
   ·(intro w0 hSw; (try dsimp only at hSw); go_simp; try with_reducible rfl)
   try simp only [Act.put, setIfInBounds_toArray, set_cons_zero, set_cons_succ, getElem_toArray, getElem_cons_zero, getElem_cons_succ]
   refine wpAnyH_take (i := 4) (v := ?_) rfl (by kernel_rfl) (by kernel_rfl) (by kernel_rfl) (fun _ _ _ h => h) (Or.inl ⟨by rfl, ?_⟩) (by assumption) ?_
   rotate_left 1
   ·(intro w0 hSw; (try dsimp only at hSw); go_simp; try with_reducible rfl)
   try simp only [Act.put, setIfInBounds_toArray, set_cons_zero, set_cons_succ, getElem_toArray, getElem_cons_zero, getElem_cons_succ]
   refine wpAnyH_take (i := 5) (v := ?_) rfl (by kernel_rfl) (by kernel_rfl) (by kernel_rfl) (fun _ _ _ h => h) (Or.inl ⟨by rfl, ?_⟩) (by assumption) ?_
   rotate_left 1
   ·(intro w0 hSw; (try dsimp only at hSw); go_simp; try with_reducible rfl)
   try simp only [Act.put, setIfInBounds_toArray, set_cons_zero, set_cons_succ, getElem_toArray, getElem_cons_zero, getElem_cons_succ]
   refine wpAnyH_take (i := 6) (v := ?_) rfl (by kernel_rfl) (by kernel_rfl) (by kernel_rfl) (fun _ _ _ h => h) (Or.inl ⟨by rfl, ?_⟩) (by assumption) ?_
   rotate_left 1
   ·(intro w0 hSw; (try dsimp only at hSw); go_simp; try with_reducible rfl)
   try simp only [Act.put, setIfInBounds_toArray, set_cons_zero, set_cons_succ, getElem_toArray, getElem_cons_zero, getElem_cons_succ]
   have bw0 := bw
   have bs0 := bs
   clear bw bs
   generalize V.drew = D at *
   have bw := bw0
   have bs := bs0
   refine wpAnyH_ready (rs := [3, 8, 9]) (by kernel_rfl) (by simp) (AllReadyH.cons rfl (fun K hK => ?_) (AllReadyH.cons rfl (fun K hK => ?_) (AllReadyH.cons rfl (fun K hK => ?_) AllReadyH.nil)))
   ·skip
    try simp only [Act.put, setIfInBounds_toArray, set_cons_zero, set_cons_succ, getElem_toArray, getElem_cons_zero, getElem_cons_succ]
    rw [if_pos (by rfl)]
    go_simp
    refine (LA.out _ (next_trans bw bs)).mono ?_
    rintro e v1 ⟨O1, on1, oc1, mb1, k1, rfl, oA, knA, hmA, bb⟩
    have hmA2 := knA.lt
    replace bs := next_trans bs bb
    have zv1 := bb.size
    clear bb
    refine hK.out _ _ ?_ (fun hHeld => ?_)
    ·exact ⟨(rV.next bs).cell 0, (rV.next bs).cell 1⟩
    clear hK K
    try simp only [Act.put, setIfInBounds_toArray, set_cons_zero, set_cons_succ, getElem_toArray, getElem_cons_zero, getElem_cons_succ]
    refine wpAnyH_ready (rs := [7, 8, 9]) (by kernel_rfl) (by simp) (AllReadyH.cons rfl (fun K hK => ?_) (AllReadyH.cons rfl (fun K hK => ?_) (AllReadyH.cons rfl (fun K hK => ?_) AllReadyH.nil)))
    ·skip
     try simp only [Act.put, setIfInBounds_toArray, set_cons_zero, set_cons_succ, getElem_toArray, getElem_cons_zero, getElem_cons_succ]
     rw [if_pos (by rfl)]
     go_simp
     refine (LB.out _ (next_trans bw bs)).mono ?_
     rintro e v2 ⟨O2, on2, oc2, mb2, k2, rfl, oB, knB, hmB, bb⟩
     have hmB2 := knB.lt
     replace oA := oA.next bb
     replace knA := knA.below bb
     replace bs := next_trans bs bb
     have zv2 := bb.size
     clear bb
     refine hK.out _ _ ?_ (fun hHeld => ?_)
     ·exact ⟨(rV.next bs).cell 0, (rV.next bs).cell 1⟩
     clear hK K
     try simp only [Act.put, setIfInBounds_toArray, set_cons_zero, set_cons_succ, getElem_toArray, getElem_cons_zero, getElem_cons_succ]
     refine wpAnyH_ready (rs := [8, 9]) (by kernel_rfl) (by simp) (AllReadyH.cons rfl (fun K hK => ?_) (AllReadyH.cons rfl (fun K hK => ?_) AllReadyH.nil))
     ·skip
      try simp only [Act.put, setIfInBounds_toArray, set_cons_zero, set_cons_succ, getElem_toArray, getElem_cons_zero, getElem_cons_succ]
      rw [if_pos (by rfl)]
      go_simp
      obtain ⟨v3, hw⟩ : ∃ W, W = v2.alloc (.cells rz 89) := ⟨_, rfl⟩
      rw [← hw]
      have r8 : Row v3 v2.heap.size 89 rz := by rw [hw]; exact Row.new _ _ _
      have bb : Below v2.heap.size v2 v3 := by rw [hw]; exact (Below.refl _ _).alloc (Nat.le_refl _) _
      have y8 : v2.heap.size < v3.heap.size := r8.lt
      clear hw
      replace oA := oA.next bb
      replace knA := knA.below bb
      replace oB := oB.next bb
      replace knB := knB.below bb
      replace bs := next_trans bs bb
      have zv3 := bb.size
      clear bb
      refine hK.out _ _ ?_ (fun hHeld => ?_)
      ·exact ⟨(rV.next bs).cell 0, (rV.next bs).cell 1⟩
      clear hK K
      try simp only [Act.put, setIfInBounds_toArray, set_cons_zero, set_cons_succ, getElem_toArray, getElem_cons_zero, getElem_cons_succ]
      refine wpAnyH_ready (rs := [9]) (by kernel_rfl) (by simp) (AllReadyH.cons rfl (fun K hK => ?_) AllReadyH.nil)
      try simp only [Act.put, setIfInBounds_toArray, set_cons_zero, set_cons_succ, getElem_toArray, getElem_cons_zero, getElem_cons_succ]
      rw [if_pos (by rfl)]
      go_simp
      obtain ⟨v4, hw⟩ : ∃ W, W = v3.alloc (.cells rz 89) := ⟨_, rfl⟩
      rw [← hw]
      have r9 : Row v4 v3.heap.size 89 rz := by rw [hw]; exact Row.new _ _ _
      have bb : Below v3.heap.size v3 v4 := by rw [hw]; exact (Below.refl _ _).alloc (Nat.le_refl _) _
      have y9 : v3.heap.size < v4.heap.size := r9.lt
      clear hw
      replace oA := oA.next bb
      replace knA := knA.below bb
      replace oB := oB.next bb
      replace knB := knB.below bb
      replace r8 := r8.next bb
      replace bs := next_trans bs bb
      have zv4 := bb.size
      clear bb
      refine hK.out _ _ ?_ (fun hHeld => ?_)
      ·exact ⟨(rV.next bs).cell 0, (rV.next bs).cell 1⟩
      clear hK K
      try simp only [Act.put, setIfInBounds_toArray, set_cons_zero, set_cons_succ, getElem_toArray, getElem_cons_zero, getElem_cons_succ]
      have zbs := bs.size
      obtain ⟨⟨e0, e1, e2, e3, e4, e5, e6, e7, e8, e9⟩, f0, f1, f2, f3, f4, f5⟩ := six_cells (p := v2.heap.size) (q := v3.heap.size) r8 r9 (by omega) (.slice O1 on1 oc1) (.map (some mb1)) (.bool SA.2) (.slice O2 on2 oc2) (.map (some mb2))
      have rS := rV.next bs
      have hsp : sb ≠ v2.heap.size := by omega
      have hsq : sb ≠ v3.heap.size := by omega
      have F := hid (cutJ (V := D) (p := v2.heap.size) (q := v3.heap.size) r8 r9 (by omega) oA knA oB knB (by omega) (by omega) (by omega) bs (by omega) (by omega) (by omega) (by omega) (by omega) (by omega))
      have rS1 := (Row.far (Row.far (Row.far rS (p := ⟨v2.heap.size, 0, none⟩) hsp (.slice O1 on1 oc1)) (p := ⟨v2.heap.size, 1, none⟩) hsp (.map (some mb1))) (p := ⟨v2.heap.size, 2, none⟩) hsp (.bool SA.2))
      have rS2 := (Row.far (Row.far (Row.far rS1 (p := ⟨v3.heap.size, 0, none⟩) hsq (.slice O2 on2 oc2)) (p := ⟨v3.heap.size, 1, none⟩) hsq (.map (some mb2))) (p := ⟨v3.heap.size, 2, none⟩) hsq (.bool SB.2))
      have HS := hid (And.intro rS1 rS2)
      clear rS rS1 rS2 oA knA oB knB r8 r9 bs
      refine wpAnyH_ready (rs := [10]) (by kernel_rfl) (by simp) (AllReadyH.cons rfl (fun K hK => ?_) AllReadyH.nil)
      try simp only [Act.put, setIfInBounds_toArray, set_cons_zero, set_cons_succ, getElem_toArray, getElem_cons_zero, getElem_cons_succ]
      rw [if_pos (by rfl)]
      go_simp
      refine hK.out _ _ ?_ (fun hHeld => ?_)
      ·exact ⟨HS.out.1.cell 0, HS.out.1.cell 1⟩
      clear hK K
      try simp only [Act.put, setIfInBounds_toArray, set_cons_zero, set_cons_succ, getElem_toArray, getElem_cons_zero, getElem_cons_succ]
      refine wpAnyH_ready (rs := [11]) (by kernel_rfl) (by simp) (AllReadyH.cons rfl (fun K hK => ?_) AllReadyH.nil)
      try simp only [Act.put, setIfInBounds_toArray, set_cons_zero, set_cons_succ, getElem_toArray, getElem_cons_zero, getElem_cons_succ]
      rw [if_pos (by rfl)]
      go_simp
      refine hK.out _ _ ?_ (fun hHeld => ?_)
      ·exact ⟨HS.out.2.cell 0, HS.out.2.cell 1⟩
      clear hK K
      try simp only [Act.put, setIfInBounds_toArray, set_cons_zero, set_cons_succ, getElem_toArray, getElem_cons_zero, getElem_cons_succ]
      refine wpAnyH_done (by kernel_rfl) ?_ _
      clear e0 e1 e2 e3 e4 e5 e6 e7 e8 e9 f0 f1 f2 f3 f4 f5 HS
      go_wp2_with fail
      go_meet
      exact F.out
     ·skip
      try simp only [Act.put, setIfInBounds_toArray, set_cons_zero, set_cons_succ, getElem_toArray, getElem_cons_zero, getElem_cons_succ]
      rw [if_pos (by rfl)]
      go_simp
      obtain ⟨v5, hw⟩ : ∃ W, W = v2.alloc (.cells rz 89) := ⟨_, rfl⟩
      rw [← hw]
      have r9 : Row v5 v2.heap.size 89 rz := by rw [hw]; exact Row.new _ _ _
      have bb : Below v2.heap.size v2 v5 := by rw [hw]; exact (Below.refl _ _).alloc (Nat.le_refl _) _
      have y9 : v2.heap.size < v5.heap.size := r9.lt
      clear hw
      replace oA := oA.next bb
      replace knA := knA.below bb
      replace oB := oB.next bb
      replace knB := knB.below bb
      replace bs := next_trans bs bb
      have zv5 := bb.size
      clear bb
      refine hK.out _ _ ?_ (fun hHeld => ?_)
      ·exact ⟨(rV.next bs).cell 0, (rV.next bs).cell 1⟩
      clear hK K
      try simp only [Act.put, setIfInBounds_toArray, set_cons_zero, set_cons_succ, getElem_toArray, getElem_cons_zero, getElem_cons_succ]
      refine wpAnyH_ready (rs := [8]) (by kernel_rfl) (by simp) (AllReadyH.cons rfl (fun K hK => ?_) AllReadyH.nil)
      try simp only [Act.put, setIfInBounds_toArray, set_cons_zero, set_cons_succ, getElem_toArray, getElem_cons_zero, getElem_cons_succ]
      rw [if_pos (by rfl)]
      go_simp
      obtain ⟨v6, hw⟩ : ∃ W, W = v5.alloc (.cells rz 89) := ⟨_, rfl⟩
      rw [← hw]
      have r8 : Row v6 v5.heap.size 89 rz := by rw [hw]; exact Row.new _ _ _
      have bb : Below v5.heap.size v5 v6 := by rw [hw]; exact (Below.refl _ _).alloc (Nat.le_refl _) _
      have y8 : v5.heap.size < v6.heap.size := r8.lt
      clear hw
      replace oA := oA.next bb
      replace knA := knA.below bb
      replace oB := oB.next bb
      replace knB := knB.below bb
      replace r9 := r9.next bb
      replace bs := next_trans bs bb
      have zv6 := bb.size
      clear bb
      refine hK.out _ _ ?_ (fun hHeld => ?_)
      ·exact ⟨(rV.next bs).cell 0, (rV.next bs).cell 1⟩
      clear hK K
      try simp only [Act.put, setIfInBounds_toArray, set_cons_zero, set_cons_succ, getElem_toArray, getElem_cons_zero, getElem_cons_succ]
      have zbs := bs.size
      obtain ⟨⟨e0, e1, e2, e3, e4, e5, e6, e7, e8, e9⟩, f0, f1, f2, f3, f4, f5⟩ := six_cells (p := v5.heap.size) (q := v2.heap.size) r8 r9 (by omega) (.slice O1 on1 oc1) (.map (some mb1)) (.bool SA.2) (.slice O2 on2 oc2) (.map (some mb2))
      have rS := rV.next bs
      have hsp : sb ≠ v5.heap.size := by omega
      have hsq : sb ≠ v2.heap.size := by omega
      have F := hid (cutJ (V := D) (p := v5.heap.size) (q := v2.heap.size) r8 r9 (by omega) oA knA oB knB (by omega) (by omega) (by omega) bs (by omega) (by omega) (by omega) (by omega) (by omega) (by omega))
      have rS1 := (Row.far (Row.far (Row.far rS (p := ⟨v5.heap.size, 0, none⟩) hsp (.slice O1 on1 oc1)) (p := ⟨v5.heap.size, 1, none⟩) hsp (.map (some mb1))) (p := ⟨v5.heap.size, 2, none⟩) hsp (.bool SA.2))
      have rS2 := (Row.far (Row.far (Row.far rS1 (p := ⟨v2.heap.size, 0, none⟩) hsq (.slice O2 on2 oc2)) (p := ⟨v2.heap.size, 1, none⟩) hsq (.map (some mb2))) (p := ⟨v2.heap.size, 2, none⟩) hsq (.bool SB.2))
      have HS := hid (And.intro rS1 rS2)
      clear rS rS1 rS2 oA knA oB knB r8 r9 bs
      refine wpAnyH_ready (rs := [10]) (by kernel_rfl) (by simp) (AllReadyH.cons rfl (fun K hK => ?_) AllReadyH.nil)
      try simp only [Act.put, setIfInBounds_toArray, set_cons_zero, set_cons_succ, getElem_toArray, getElem_cons_zero, getElem_cons_succ]
      rw [if_pos (by rfl)]
      go_simp
      refine hK.out _ _ ?_ (fun hHeld => ?_)
      ·exact ⟨HS.out.1.cell 0, HS.out.1.cell 1⟩
      clear hK K
      try simp only [Act.put, setIfInBounds_toArray, set_cons_zero, set_cons_succ, getElem_toArray, getElem_cons_zero, getElem_cons_succ]
      refine wpAnyH_ready (rs := [11]) (by kernel_rfl) (by simp) (AllReadyH.cons rfl (fun K hK => ?_) AllReadyH.nil)
      try simp only [Act.put, setIfInBounds_toArray, set_cons_zero, set_cons_succ, getElem_toArray, getElem_cons_zero, getElem_cons_succ]
      rw [if_pos (by rfl)]
      go_simp
      refine hK.out _ _ ?_ (fun hHeld => ?_)
      ·exact ⟨HS.out.2.cell 0, HS.out.2.cell 1⟩
      clear hK K
      try simp only [Act.put, setIfInBounds_toArray, set_cons_zero, set_cons_succ, getElem_toArray, getElem_cons_zero, getElem_cons_succ]
      refine wpAnyH_done (by kernel_rfl) ?_ _
      clear e0 e1 e2 e3 e4 e5 e6 e7 e8 e9 f0 f1 f2 f3 f4 f5 HS
      go_wp2_with fail
      go_meet
      exact F.out
    ·skip
     try simp only [Act.put, setIfInBounds_toArray, set_cons_zero, set_cons_succ, getElem_toArray, getElem_cons_zero, getElem_cons_succ]
     rw [if_pos (by rfl)]
     go_simp
     obtain ⟨v7, hw⟩ : ∃ W, W = v1.alloc (.cells rz 89) := ⟨_, rfl⟩
     rw [← hw]
     have r8 : Row v7 v1.heap.size 89 rz := by rw [hw]; exact Row.new _ _ _
     have bb : Below v1.heap.size v1 v7 := by rw [hw]; exact (Below.refl _ _).alloc (Nat.le_refl _) _
     have y8 : v1.heap.size < v7.heap.size := r8.lt
     clear hw
     replace oA := oA.next bb
     replace knA := knA.below bb
     replace bs := next_trans bs bb
     have zv7 := bb.size
     clear bb
     refine hK.out _ _ ?_ (fun hHeld => ?_)
     ·exact ⟨(rV.next bs).cell 0, (rV.next bs).cell 1⟩
     clear hK K
     try simp only [Act.put, setIfInBounds_toArray, set_cons_zero, set_cons_succ, getElem_toArray, getElem_cons_zero, getElem_cons_succ]
     refine wpAnyH_ready (rs := [7, 9]) (by kernel_rfl) (by simp) (AllReadyH.cons rfl (fun K hK => ?_) (AllReadyH.cons rfl (fun K hK => ?_) AllReadyH.nil))
     ·skip
      try simp only [Act.put, setIfInBounds_toArray, set_cons_zero, set_cons_succ, getElem_toArray, getElem_cons_zero, getElem_cons_succ]
      rw [if_pos (by rfl)]
      go_simp
      refine (LB.out _ (next_trans bw bs)).mono ?_
      rintro e v8 ⟨O2, on2, oc2, mb2, k2, rfl, oB, knB, hmB, bb⟩
      have hmB2 := knB.lt
      replace oA := oA.next bb
      replace knA := knA.below bb
      replace r8 := r8.next bb
      replace bs := next_trans bs bb
      have zv8 := bb.size
      clear bb
      refine hK.out _ _ ?_ (fun hHeld => ?_)
      ·exact ⟨(rV.next bs).cell 0, (rV.next bs).cell 1⟩
      clear hK K
      try simp only [Act.put, setIfInBounds_toArray, set_cons_zero, set_cons_succ, getElem_toArray, getElem_cons_zero, getElem_cons_succ]
      refine wpAnyH_ready (rs := [9]) (by kernel_rfl) (by simp) (AllReadyH.cons rfl (fun K hK => ?_) AllReadyH.nil)
      try simp only [Act.put, setIfInBounds_toArray, set_cons_zero, set_cons_succ, getElem_toArray, getElem_cons_zero, getElem_cons_succ]
      rw [if_pos (by rfl)]
      go_simp
      obtain ⟨v9, hw⟩ : ∃ W, W = v8.alloc (.cells rz 89) := ⟨_, rfl⟩
      rw [← hw]
      have r9 : Row v9 v8.heap.size 89 rz := by rw [hw]; exact Row.new _ _ _
      have bb : Below v8.heap.size v8 v9 := by rw [hw]; exact (Below.refl _ _).alloc (Nat.le_refl _) _
      have y9 : v8.heap.size < v9.heap.size := r9.lt
      clear hw
      replace oA := oA.next bb
      replace knA := knA.below bb
      replace r8 := r8.next bb
      replace oB := oB.next bb
      replace knB := knB.below bb
      replace bs := next_trans bs bb
      have zv9 := bb.size
      clear bb
      refine hK.out _ _ ?_ (fun hHeld => ?_)
      ·exact ⟨(rV.next bs).cell 0, (rV.next bs).cell 1⟩
      clear hK K
      try simp only [Act.put, setIfInBounds_toArray, set_cons_zero, set_cons_succ, getElem_toArray, getElem_cons_zero, getElem_cons_succ]
      have zbs := bs.size
      obtain ⟨⟨e0, e1, e2, e3, e4, e5, e6, e7, e8, e9⟩, f0, f1, f2, f3, f4, f5⟩ := six_cells (p := v1.heap.size) (q := v8.heap.size) r8 r9 (by omega) (.slice O1 on1 oc1) (.map (some mb1)) (.bool SA.2) (.slice O2 on2 oc2) (.map (some mb2))
      have rS := rV.next bs
      have hsp : sb ≠ v1.heap.size := by omega
      have hsq : sb ≠ v8.heap.size := by omega
      have F := hid (cutJ (V := D) (p := v1.heap.size) (q := v8.heap.size) r8 r9 (by omega) oA knA oB knB (by omega) (by omega) (by omega) bs (by omega) (by omega) (by omega) (by omega) (by omega) (by omega))
      have rS1 := (Row.far (Row.far (Row.far rS (p := ⟨v1.heap.size, 0, none⟩) hsp (.slice O1 on1 oc1)) (p := ⟨v1.heap.size, 1, none⟩) hsp (.map (some mb1))) (p := ⟨v1.heap.size, 2, none⟩) hsp (.bool SA.2))
      have rS2 := (Row.far (Row.far (Row.far rS1 (p := ⟨v8.heap.size, 0, none⟩) hsq (.slice O2 on2 oc2)) (p := ⟨v8.heap.size, 1, none⟩) hsq (.map (some mb2))) (p := ⟨v8.heap.size, 2, none⟩) hsq (.bool SB.2))
      have HS := hid (And.intro rS1 rS2)
      clear rS rS1 rS2 oA knA oB knB r8 r9 bs
      refine wpAnyH_ready (rs := [10]) (by kernel_rfl) (by simp) (AllReadyH.cons rfl (fun K hK => ?_) AllReadyH.nil)
      try simp only [Act.put, setIfInBounds_toArray, set_cons_zero, set_cons_succ, getElem_toArray, getElem_cons_zero, getElem_cons_succ]
      rw [if_pos (by rfl)]
      go_simp
      refine hK.out _ _ ?_ (fun hHeld => ?_)
      ·exact ⟨HS.out.1.cell 0, HS.out.1.cell 1⟩
      clear hK K
      try simp only [Act.put, setIfInBounds_toArray, set_cons_zero, set_cons_succ, getElem_toArray, getElem_cons_zero, getElem_cons_succ]
      refine wpAnyH_ready (rs := [11]) (by kernel_rfl) (by simp) (AllReadyH.cons rfl (fun K hK => ?_) AllReadyH.nil)
      try simp only [Act.put, setIfInBounds_toArray, set_cons_zero, set_cons_succ, getElem_toArray, getElem_cons_zero, getElem_cons_succ]
      rw [if_pos (by rfl)]
      go_simp
      refine hK.out _ _ ?_ (fun hHeld => ?_)
      ·exact ⟨HS.out.2.cell 0, HS.out.2.cell 1⟩
      clear hK K
      try simp only [Act.put, setIfInBounds_toArray, set_cons_zero, set_cons_succ, getElem_toArray, getElem_cons_zero, getElem_cons_succ]
      refine wpAnyH_done (by kernel_rfl) ?_ _
      clear e0 e1 e2 e3 e4 e5 e6 e7 e8 e9 f0 f1 f2 f3 f4 f5 HS
      go_wp2_with fail
      go_meet
      exact F.out
     ·skip
      try simp only [Act.put, setIfInBounds_toArray, set_cons_zero, set_cons_succ, getElem_toArray, getElem_cons_zero, getElem_cons_succ]
      rw [if_pos (by rfl)]
      go_simp
      obtain ⟨v10, hw⟩ : ∃ W, W = v7.alloc (.cells rz 89) := ⟨_, rfl⟩
      rw [← hw]
      have r9 : Row v10 v7.heap.size 89 rz := by rw [hw]; exact Row.new _ _ _
      have bb : Below v7.heap.size v7 v10 := by rw [hw]; exact (Below.refl _ _).alloc (Nat.le_refl _) _
      have y9 : v7.heap.size < v10.heap.size := r9.lt
      clear hw
      replace oA := oA.next bb
      replace knA := knA.below bb
      replace r8 := r8.next bb
      replace bs := next_trans bs bb
      have zv10 := bb.size
      clear bb
      refine hK.out _ _ ?_ (fun hHeld => ?_)
      ·exact ⟨(rV.next bs).cell 0, (rV.next bs).cell 1⟩
      clear hK K
      try simp only [Act.put, setIfInBounds_toArray, set_cons_zero, set_cons_succ, getElem_toArray, getElem_cons_zero, getElem_cons_succ]
      refine wpAnyH_ready (rs := [7]) (by kernel_rfl) (by simp) (AllReadyH.cons rfl (fun K hK => ?_) AllReadyH.nil)
      try simp only [Act.put, setIfInBounds_toArray, set_cons_zero, set_cons_succ, getElem_toArray, getElem_cons_zero, getElem_cons_succ]
      rw [if_pos (by rfl)]
      go_simp
      refine (LB.out _ (next_trans bw bs)).mono ?_
      rintro e v11 ⟨O2, on2, oc2, mb2, k2, rfl, oB, knB, hmB, bb⟩
      have hmB2 := knB.lt
      replace oA := oA.next bb
      replace knA := knA.below bb
      replace r8 := r8.next bb
      replace r9 := r9.next bb
      replace bs := next_trans bs bb
      have zv11 := bb.size
      clear bb
      refine hK.out _ _ ?_ (fun hHeld => ?_)
      ·exact ⟨(rV.next bs).cell 0, (rV.next bs).cell 1⟩
      clear hK K
      try simp only [Act.put, setIfInBounds_toArray, set_cons_zero, set_cons_succ, getElem_toArray, getElem_cons_zero, getElem_cons_succ]
      have zbs := bs.size
      obtain ⟨⟨e0, e1, e2, e3, e4, e5, e6, e7, e8, e9⟩, f0, f1, f2, f3, f4, f5⟩ := six_cells (p := v1.heap.size) (q := v7.heap.size) r8 r9 (by omega) (.slice O1 on1 oc1) (.map (some mb1)) (.bool SA.2) (.slice O2 on2 oc2) (.map (some mb2))
      have rS := rV.next bs
      have hsp : sb ≠ v1.heap.size := by omega
      have hsq : sb ≠ v7.heap.size := by omega
      have F := hid (cutJ (V := D) (p := v1.heap.size) (q := v7.heap.size) r8 r9 (by omega) oA knA oB knB (by omega) (by omega) (by omega) bs (by omega) (by omega) (by omega) (by omega) (by omega) (by omega))
      have rS1 := (Row.far (Row.far (Row.far rS (p := ⟨v1.heap.size, 0, none⟩) hsp (.slice O1 on1 oc1)) (p := ⟨v1.heap.size, 1, none⟩) hsp (.map (some mb1))) (p := ⟨v1.heap.size, 2, none⟩) hsp (.bool SA.2))
      have rS2 := (Row.far (Row.far (Row.far rS1 (p := ⟨v7.heap.size, 0, none⟩) hsq (.slice O2 on2 oc2)) (p := ⟨v7.heap.size, 1, none⟩) hsq (.map (some mb2))) (p := ⟨v7.heap.size, 2, none⟩) hsq (.bool SB.2))
      have HS := hid (And.intro rS1 rS2)
      clear rS rS1 rS2 oA knA oB knB r8 r9 bs
      refine wpAnyH_ready (rs := [10]) (by kernel_rfl) (by simp) (AllReadyH.cons rfl (fun K hK => ?_) AllReadyH.nil)
      try simp only [Act.put, setIfInBounds_toArray, set_cons_zero, set_cons_succ, getElem_toArray, getElem_cons_zero, getElem_cons_succ]
      rw [if_pos (by rfl)]
      go_simp
      refine hK.out _ _ ?_ (fun hHeld => ?_)
      ·exact ⟨HS.out.1.cell 0, HS.out.1.cell 1⟩
      clear hK K
      try simp only [Act.put, setIfInBounds_toArray, set_cons_zero, set_cons_succ, getElem_toArray, getElem_cons_zero, getElem_cons_succ]
      refine wpAnyH_ready (rs := [11]) (by kernel_rfl) (by simp) (AllReadyH.cons rfl (fun K hK => ?_) AllReadyH.nil)
      try simp only [Act.put, setIfInBounds_toArray, set_cons_zero, set_cons_succ, getElem_toArray, getElem_cons_zero, getElem_cons_succ]
      rw [if_pos (by rfl)]
      go_simp
      refine hK.out _ _ ?_ (fun hHeld => ?_)
      ·exact ⟨HS.out.2.cell 0, HS.out.2.cell 1⟩
      clear hK K
      try simp only [Act.put, setIfInBounds_toArray, set_cons_zero, set_cons_succ, getElem_toArray, getElem_cons_zero, getElem_cons_succ]
      refine wpAnyH_done (by kernel_rfl) ?_ _
      clear e0 e1 e2 e3 e4 e5 e6 e7 e8 e9 f0 f1 f2 f3 f4 f5 HS
      go_wp2_with fail
      go_meet
      exact F.out
    ·skip
     try simp only [Act.put, setIfInBounds_toArray, set_cons_zero, set_cons_succ, getElem_toArray, getElem_cons_zero, getElem_cons_succ]
     rw [if_pos (by rfl)]
     go_simp
     obtain ⟨v12, hw⟩ : ∃ W, W = v1.alloc (.cells rz 89) := ⟨_, rfl⟩
     rw [← hw]
     have r9 : Row v12 v1.heap.size 89 rz := by rw [hw]; exact Row.new _ _ _
     have bb : Below v1.heap.size v1 v12 := by rw [hw]; exact (Below.refl _ _).alloc (Nat.le_refl _) _
     have y9 : v1.heap.size < v12.heap.size := r9.lt
     clear hw
     replace oA := oA.next bb
     replace knA := knA.below bb
     replace bs := next_trans bs bb
     have zv12 := bb.size
     clear bb
     refine hK.out _ _ ?_ (fun hHeld => ?_)
     ·exact ⟨(rV.next bs).cell 0, (rV.next bs).cell 1⟩
     clear hK K
     try simp only [Act.put, setIfInBounds_toArray, set_cons_zero, set_cons_succ, getElem_toArray, getElem_cons_zero, getElem_cons_succ]
     refine wpAnyH_ready (rs := [7, 8]) (by kernel_rfl) (by simp) (AllReadyH.cons rfl (fun K hK => ?_) (AllReadyH.cons rfl (fun K hK => ?_) AllReadyH.nil))
     ·skip
      try simp only [Act.put, setIfInBounds_toArray, set_cons_zero, set_cons_succ, getElem_toArray, getElem_cons_zero, getElem_cons_succ]
      rw [if_pos (by rfl)]
      go_simp
      refine (LB.out _ (next_trans bw bs)).mono ?_
      rintro e v13 ⟨O2, on2, oc2, mb2, k2, rfl, oB, knB, hmB, bb⟩
      have hmB2 := knB.lt
      replace oA := oA.next bb
      replace knA := knA.below bb
      replace r9 := r9.next bb
      replace bs := next_trans bs bb
      have zv13 := bb.size
      clear bb
      refine hK.out _ _ ?_ (fun hHeld => ?_)
      ·exact ⟨(rV.next bs).cell 0, (rV.next bs).cell 1⟩
      clear hK K
      try simp only [Act.put, setIfInBounds_toArray, set_cons_zero, set_cons_succ, getElem_toArray, getElem_cons_zero, getElem_cons_succ]
      refine wpAnyH_ready (rs := [8]) (by kernel_rfl) (by simp) (AllReadyH.cons rfl (fun K hK => ?_) AllReadyH.nil)
      try simp only [Act.put, setIfInBounds_toArray, set_cons_zero, set_cons_succ, getElem_toArray, getElem_cons_zero, getElem_cons_succ]
      rw [if_pos (by rfl)]
      go_simp
      obtain ⟨v14, hw⟩ : ∃ W, W = v13.alloc (.cells rz 89) := ⟨_, rfl⟩
      rw [← hw]
      have r8 : Row v14 v13.heap.size 89 rz := by rw [hw]; exact Row.new _ _ _
      have bb : Below v13.heap.size v13 v14 := by rw [hw]; exact (Below.refl _ _).alloc (Nat.le_refl _) _
      have y8 : v13.heap.size < v14.heap.size := r8.lt
      clear hw
      replace oA := oA.next bb
      replace knA := knA.below bb
      replace r9 := r9.next bb
      replace oB := oB.next bb
      replace knB := knB.below bb
      replace bs := next_trans bs bb
      have zv14 := bb.size
      clear bb
      refine hK.out _ _ ?_ (fun hHeld => ?_)
      ·exact ⟨(rV.next bs).cell 0, (rV.next bs).cell 1⟩
      clear hK K
      try simp only [Act.put, setIfInBounds_toArray, set_cons_zero, set_cons_succ, getElem_toArray, getElem_cons_zero, getElem_cons_succ]
      have zbs := bs.size
      obtain ⟨⟨e0, e1, e2, e3, e4, e5, e6, e7, e8, e9⟩, f0, f1, f2, f3, f4, f5⟩ := six_cells (p := v13.heap.size) (q := v1.heap.size) r8 r9 (by omega) (.slice O1 on1 oc1) (.map (some mb1)) (.bool SA.2) (.slice O2 on2 oc2) (.map (some mb2))
      have rS := rV.next bs
      have hsp : sb ≠ v13.heap.size := by omega
      have hsq : sb ≠ v1.heap.size := by omega
      have F := hid (cutJ (V := D) (p := v13.heap.size) (q := v1.heap.size) r8 r9 (by omega) oA knA oB knB (by omega) (by omega) (by omega) bs (by omega) (by omega) (by omega) (by omega) (by omega) (by omega))
      have rS1 := (Row.far (Row.far (Row.far rS (p := ⟨v13.heap.size, 0, none⟩) hsp (.slice O1 on1 oc1)) (p := ⟨v13.heap.size, 1, none⟩) hsp (.map (some mb1))) (p := ⟨v13.heap.size, 2, none⟩) hsp (.bool SA.2))
      have rS2 := (Row.far (Row.far (Row.far rS1 (p := ⟨v1.heap.size, 0, none⟩) hsq (.slice O2 on2 oc2)) (p := ⟨v1.heap.size, 1, none⟩) hsq (.map (some mb2))) (p := ⟨v1.heap.size, 2, none⟩) hsq (.bool SB.2))
      have HS := hid (And.intro rS1 rS2)
      clear rS rS1 rS2 oA knA oB knB r8 r9 bs
      refine wpAnyH_ready (rs := [10]) (by kernel_rfl) (by simp) (AllReadyH.cons rfl (fun K hK => ?_) AllReadyH.nil)
      try simp only [Act.put, setIfInBounds_toArray, set_cons_zero, set_cons_succ, getElem_toArray, getElem_cons_zero, getElem_cons_succ]
      rw [if_pos (by rfl)]
      go_simp
      refine hK.out _ _ ?_ (fun hHeld => ?_)
      ·exact ⟨HS.out.1.cell 0, HS.out.1.cell 1⟩
      clear hK K
      try simp only [Act.put, setIfInBounds_toArray, set_cons_zero, set_cons_succ, getElem_toArray, getElem_cons_zero, getElem_cons_succ]
      refine wpAnyH_ready (rs := [11]) (by kernel_rfl) (by simp) (AllReadyH.cons rfl (fun K hK => ?_) AllReadyH.nil)
      try simp only [Act.put, setIfInBounds_toArray, set_cons_zero, set_cons_succ, getElem_toArray, getElem_cons_zero, getElem_cons_succ]
      rw [if_pos (by rfl)]
      go_simp
      refine hK.out _ _ ?_ (fun hHeld => ?_)
      ·exact ⟨HS.out.2.cell 0, HS.out.2.cell 1⟩
      clear hK K
      try simp only [Act.put, setIfInBounds_toArray, set_cons_zero, set_cons_succ, getElem_toArray, getElem_cons_zero, getElem_cons_succ]
      refine wpAnyH_done (by kernel_rfl) ?_ _
      clear e0 e1 e2 e3 e4 e5 e6 e7 e8 e9 f0 f1 f2 f3 f4 f5 HS
      go_wp2_with fail
      go_meet
      exact F.out
     ·skip
      try simp only [Act.put, setIfInBounds_toArray, set_cons_zero, set_cons_succ, getElem_toArray, getElem_cons_zero, getElem_cons_succ]
      rw [if_pos (by rfl)]
      go_simp
      obtain ⟨v15, hw⟩ : ∃ W, W = v12.alloc (.cells rz 89) := ⟨_, rfl⟩
      rw [← hw]
      have r8 : Row v15 v12.heap.size 89 rz := by rw [hw]; exact Row.new _ _ _
      have bb : Below v12.heap.size v12 v15 := by rw [hw]; exact (Below.refl _ _).alloc (Nat.le_refl _) _
      have y8 : v12.heap.size < v15.heap.size := r8.lt
      clear hw
      replace oA := oA.next bb
      replace knA := knA.below bb
      replace r9 := r9.next bb
      replace bs := next_trans bs bb
      have zv15 := bb.size
      clear bb
      refine hK.out _ _ ?_ (fun hHeld => ?_)
      ·exact ⟨(rV.next bs).cell 0, (rV.next bs).cell 1⟩
      clear hK K
      try simp only [Act.put, setIfInBounds_toArray, set_cons_zero, set_cons_succ, getElem_toArray, getElem_cons_zero, getElem_cons_succ]
      refine wpAnyH_ready (rs := [7]) (by kernel_rfl) (by simp) (AllReadyH.cons rfl (fun K hK => ?_) AllReadyH.nil)
      try simp only [Act.put, setIfInBounds_toArray, set_cons_zero, set_cons_succ, getElem_toArray, getElem_cons_zero, getElem_cons_succ]
      rw [if_pos (by rfl)]
      go_simp
      refine (LB.out _ (next_trans bw bs)).mono ?_
      rintro e v16 ⟨O2, on2, oc2, mb2, k2, rfl, oB, knB, hmB, bb⟩
      have hmB2 := knB.lt
      replace oA := oA.next bb
      replace knA := knA.below bb
      replace r9 := r9.next bb
      replace r8 := r8.next bb
      replace bs := next_trans bs bb
      have zv16 := bb.size
      clear bb
      refine hK.out _ _ ?_ (fun hHeld => ?_)
      ·exact ⟨(rV.next bs).cell 0, (rV.next bs).cell 1⟩
      clear hK K
      try simp only [Act.put, setIfInBounds_toArray, set_cons_zero, set_cons_succ, getElem_toArray, getElem_cons_zero, getElem_cons_succ]
      have zbs := bs.size
      obtain ⟨⟨e0, e1, e2, e3, e4, e5, e6, e7, e8, e9⟩, f0, f1, f2, f3, f4, f5⟩ := six_cells (p := v12.heap.size) (q := v1.heap.size) r8 r9 (by omega) (.slice O1 on1 oc1) (.map (some mb1)) (.bool SA.2) (.slice O2 on2 oc2) (.map (some mb2))
      have rS := rV.next bs
      have hsp : sb ≠ v12.heap.size := by omega
      have hsq : sb ≠ v1.heap.size := by omega
      have F := hid (cutJ (V := D) (p := v12.heap.size) (q := v1.heap.size) r8 r9 (by omega) oA knA oB knB (by omega) (by omega) (by omega) bs (by omega) (by omega) (by omega) (by omega) (by omega) (by omega))
      have rS1 := (Row.far (Row.far (Row.far rS (p := ⟨v12.heap.size, 0, none⟩) hsp (.slice O1 on1 oc1)) (p := ⟨v12.heap.size, 1, none⟩) hsp (.map (some mb1))) (p := ⟨v12.heap.size, 2, none⟩) hsp (.bool SA.2))
      have rS2 := (Row.far (Row.far (Row.far rS1 (p := ⟨v1.heap.size, 0, none⟩) hsq (.slice O2 on2 oc2)) (p := ⟨v1.heap.size, 1, none⟩) hsq (.map (some mb2))) (p := ⟨v1.heap.size, 2, none⟩) hsq (.bool SB.2))
      have HS := hid (And.intro rS1 rS2)
      clear rS rS1 rS2 oA knA oB knB r8 r9 bs
      refine wpAnyH_ready (rs := [10]) (by kernel_rfl) (by simp) (AllReadyH.cons rfl (fun K hK => ?_) AllReadyH.nil)
      try simp only [Act.put, setIfInBounds_toArray, set_cons_zero, set_cons_succ, getElem_toArray, getElem_cons_zero, getElem_cons_succ]
      rw [if_pos (by rfl)]
      go_simp
      refine hK.out _ _ ?_ (fun hHeld => ?_)
      ·exact ⟨HS.out.1.cell 0, HS.out.1.cell 1⟩
      clear hK K
      try simp only [Act.put, setIfInBounds_toArray, set_cons_zero, set_cons_succ, getElem_toArray, getElem_cons_zero, getElem_cons_succ]
      refine wpAnyH_ready (rs := [11]) (by kernel_rfl) (by simp) (AllReadyH.cons rfl (fun K hK => ?_) AllReadyH.nil)
      try simp only [Act.put, setIfInBounds_toArray, set_cons_zero, set_cons_succ, getElem_toArray, getElem_cons_zero, getElem_cons_succ]
      rw [if_pos (by rfl)]
      go_simp
      refine hK.out _ _ ?_ (fun hHeld => ?_)
      ·exact ⟨HS.out.2.cell 0, HS.out.2.cell 1⟩
      clear hK K
      try simp only [Act.put, setIfInBounds_toArray, set_cons_zero, set_cons_succ, getElem_toArray, getElem_cons_zero, getElem_cons_succ]
      refine wpAnyH_done (by kernel_rfl) ?_ _
      clear e0 e1 e2 e3 e4 e5 e6 e7 e8 e9 f0 f1 f2 f3 f4 f5 HS
      go_wp2_with fail
      go_meet
      exact F.out
   ·skip
    try simp only [Act.put, setIfInBounds_toArray, set_cons_zero, set_cons_succ, getElem_toArray, getElem_cons_zero, getElem_cons_succ]
    rw [if_pos (by rfl)]
    go_simp
    obtain ⟨v17, hw⟩ : ∃ W, W = D.alloc (.cells rz 89) := ⟨_, rfl⟩
    rw [← hw]
    have r8 : Row v17 D.heap.size 89 rz := by rw [hw]; exact Row.new _ _ _
    have bb : Below D.heap.size D v17 := by rw [hw]; exact (Below.refl _ _).alloc (Nat.le_refl _) _
    have y8 : D.heap.size < v17.heap.size := r8.lt
    clear hw
    replace bs := next_trans bs bb
    have zv17 := bb.size
    clear bb
    refine hK.out _ _ ?_ (fun hHeld => ?_)
    ·exact ⟨(rV.next bs).cell 0, (rV.next bs).cell 1⟩
    clear hK K
    try simp only [Act.put, setIfInBounds_toArray, set_cons_zero, set_cons_succ, getElem_toArray, getElem_cons_zero, getElem_cons_succ]
    refine wpAnyH_ready (rs := [3, 9]) (by kernel_rfl) (by simp) (AllReadyH.cons rfl (fun K hK => ?_) (AllReadyH.cons rfl (fun K hK => ?_) AllReadyH.nil))
    ·skip
     try simp only [Act.put, setIfInBounds_toArray, set_cons_zero, set_cons_succ, getElem_toArray, getElem_cons_zero, getElem_cons_succ]
     rw [if_pos (by rfl)]
     go_simp
     refine (LA.out _ (next_trans bw bs)).mono ?_
     rintro e v18 ⟨O1, on1, oc1, mb1, k1, rfl, oA, knA, hmA, bb⟩
     have hmA2 := knA.lt
     replace r8 := r8.next bb
     replace bs := next_trans bs bb
     have zv18 := bb.size
     clear bb
     refine hK.out _ _ ?_ (fun hHeld => ?_)
     ·exact ⟨(rV.next bs).cell 0, (rV.next bs).cell 1⟩
     clear hK K
     try simp only [Act.put, setIfInBounds_toArray, set_cons_zero, set_cons_succ, getElem_toArray, getElem_cons_zero, getElem_cons_succ]
     refine wpAnyH_ready (rs := [7, 9]) (by kernel_rfl) (by simp) (AllReadyH.cons rfl (fun K hK => ?_) (AllReadyH.cons rfl (fun K hK => ?_) AllReadyH.nil))
     ·skip
      try simp only [Act.put, setIfInBounds_toArray, set_cons_zero, set_cons_succ, getElem_toArray, getElem_cons_zero, getElem_cons_succ]
      rw [if_pos (by rfl)]
      go_simp
      refine (LB.out _ (next_trans bw bs)).mono ?_
      rintro e v19 ⟨O2, on2, oc2, mb2, k2, rfl, oB, knB, hmB, bb⟩
      have hmB2 := knB.lt
      replace r8 := r8.next bb
      replace oA := oA.next bb
      replace knA := knA.below bb
      replace bs := next_trans bs bb
      have zv19 := bb.size
      clear bb
      refine hK.out _ _ ?_ (fun hHeld => ?_)
      ·exact ⟨(rV.next bs).cell 0, (rV.next bs).cell 1⟩
      clear hK K
      try simp only [Act.put, setIfInBounds_toArray, set_cons_zero, set_cons_succ, getElem_toArray, getElem_cons_zero, getElem_cons_succ]
      refine wpAnyH_ready (rs := [9]) (by kernel_rfl) (by simp) (AllReadyH.cons rfl (fun K hK => ?_) AllReadyH.nil)
      try simp only [Act.put, setIfInBounds_toArray, set_cons_zero, set_cons_succ, getElem_toArray, getElem_cons_zero, getElem_cons_succ]
      rw [if_pos (by rfl)]
      go_simp
      obtain ⟨v20, hw⟩ : ∃ W, W = v19.alloc (.cells rz 89) := ⟨_, rfl⟩
      rw [← hw]
      have r9 : Row v20 v19.heap.size 89 rz := by rw [hw]; exact Row.new _ _ _
      have bb : Below v19.heap.size v19 v20 := by rw [hw]; exact (Below.refl _ _).alloc (Nat.le_refl _) _
      have y9 : v19.heap.size < v20.heap.size := r9.lt
      clear hw
      replace r8 := r8.next bb
      replace oA := oA.next bb
      replace knA := knA.below bb
      replace oB := oB.next bb
      replace knB := knB.below bb
      replace bs := next_trans bs bb
      have zv20 := bb.size
      clear bb
      refine hK.out _ _ ?_ (fun hHeld => ?_)
      ·exact ⟨(rV.next bs).cell 0, (rV.next bs).cell 1⟩
      clear hK K
      try simp only [Act.put, setIfInBounds_toArray, set_cons_zero, set_cons_succ, getElem_toArray, getElem_cons_zero, getElem_cons_succ]
      have zbs := bs.size
      obtain ⟨⟨e0, e1, e2, e3, e4, e5, e6, e7, e8, e9⟩, f0, f1, f2, f3, f4, f5⟩ := six_cells (p := D.heap.size) (q := v19.heap.size) r8 r9 (by omega) (.slice O1 on1 oc1) (.map (some mb1)) (.bool SA.2) (.slice O2 on2 oc2) (.map (some mb2))
      have rS := rV.next bs
      have hsp : sb ≠ D.heap.size := by omega
      have hsq : sb ≠ v19.heap.size := by omega
      have F := hid (cutJ (V := D) (p := D.heap.size) (q := v19.heap.size) r8 r9 (by omega) oA knA oB knB (by omega) (by omega) (by omega) bs (by omega) (by omega) (by omega) (by omega) (by omega) (by omega))
      have rS1 := (Row.far (Row.far (Row.far rS (p := ⟨D.heap.size, 0, none⟩) hsp (.slice O1 on1 oc1)) (p := ⟨D.heap.size, 1, none⟩) hsp (.map (some mb1))) (p := ⟨D.heap.size, 2, none⟩) hsp (.bool SA.2))
      have rS2 := (Row.far (Row.far (Row.far rS1 (p := ⟨v19.heap.size, 0, none⟩) hsq (.slice O2 on2 oc2)) (p := ⟨v19.heap.size, 1, none⟩) hsq (.map (some mb2))) (p := ⟨v19.heap.size, 2, none⟩) hsq (.bool SB.2))
      have HS := hid (And.intro rS1 rS2)
      clear rS rS1 rS2 oA knA oB knB r8 r9 bs
      refine wpAnyH_ready (rs := [10]) (by kernel_rfl) (by simp) (AllReadyH.cons rfl (fun K hK => ?_) AllReadyH.nil)
      try simp only [Act.put, setIfInBounds_toArray, set_cons_zero, set_cons_succ, getElem_toArray, getElem_cons_zero, getElem_cons_succ]
      rw [if_pos (by rfl)]
      go_simp
      refine hK.out _ _ ?_ (fun hHeld => ?_)
      ·exact ⟨HS.out.1.cell 0, HS.out.1.cell 1⟩
      clear hK K
      try simp only [Act.put, setIfInBounds_toArray, set_cons_zero, set_cons_succ, getElem_toArray, getElem_cons_zero, getElem_cons_succ]
      refine wpAnyH_ready (rs := [11]) (by kernel_rfl) (by simp) (AllReadyH.cons rfl (fun K hK => ?_) AllReadyH.nil)
      try simp only [Act.put, setIfInBounds_toArray, set_cons_zero, set_cons_succ, getElem_toArray, getElem_cons_zero, getElem_cons_succ]
      rw [if_pos (by rfl)]
      go_simp
      refine hK.out _ _ ?_ (fun hHeld => ?_)
      ·exact ⟨HS.out.2.cell 0, HS.out.2.cell 1⟩
      clear hK K
      try simp only [Act.put, setIfInBounds_toArray, set_cons_zero, set_cons_succ, getElem_toArray, getElem_cons_zero, getElem_cons_succ]
      refine wpAnyH_done (by kernel_rfl) ?_ _
      clear e0 e1 e2 e3 e4 e5 e6 e7 e8 e9 f0 f1 f2 f3 f4 f5 HS
      go_wp2_with fail
      go_meet
      exact F.out
     ·skip
      try simp only [Act.put, setIfInBounds_toArray, set_cons_zero, set_cons_succ, getElem_toArray, getElem_cons_zero, getElem_cons_succ]
      rw [if_pos (by rfl)]
      go_simp
      obtain ⟨v21, hw⟩ : ∃ W, W = v18.alloc (.cells rz 89) := ⟨_, rfl⟩
      rw [← hw]
      have r9 : Row v21 v18.heap.size 89 rz := by rw [hw]; exact Row.new _ _ _
      have bb : Below v18.heap.size v18 v21 := by rw [hw]; exact (Below.refl _ _).alloc (Nat.le_refl _) _
      have y9 : v18.heap.size < v21.heap.size := r9.lt
      clear hw
      replace r8 := r8.next bb
      replace oA := oA.next bb
      replace knA := knA.below bb
      replace bs := next_trans bs bb
      have zv21 := bb.size
      clear bb
      refine hK.out _ _ ?_ (fun hHeld => ?_)
      ·exact ⟨(rV.next bs).cell 0, (rV.next bs).cell 1⟩
      clear hK K
      try simp only [Act.put, setIfInBounds_toArray, set_cons_zero, set_cons_succ, getElem_toArray, getElem_cons_zero, getElem_cons_succ]
      refine wpAnyH_ready (rs := [7]) (by kernel_rfl) (by simp) (AllReadyH.cons rfl (fun K hK => ?_) AllReadyH.nil)
      try simp only [Act.put, setIfInBounds_toArray, set_cons_zero, set_cons_succ, getElem_toArray, getElem_cons_zero, getElem_cons_succ]
      rw [if_pos (by rfl)]
      go_simp
      refine (LB.out _ (next_trans bw bs)).mono ?_
      rintro e v22 ⟨O2, on2, oc2, mb2, k2, rfl, oB, knB, hmB, bb⟩
      have hmB2 := knB.lt
      replace r8 := r8.next bb
      replace oA := oA.next bb
      replace knA := knA.below bb
      replace r9 := r9.next bb
      replace bs := next_trans bs bb
      have zv22 := bb.size
      clear bb
      refine hK.out _ _ ?_ (fun hHeld => ?_)
      ·exact ⟨(rV.next bs).cell 0, (rV.next bs).cell 1⟩
      clear hK K
      try simp only [Act.put, setIfInBounds_toArray, set_cons_zero, set_cons_succ, getElem_toArray, getElem_cons_zero, getElem_cons_succ]
      have zbs := bs.size
      obtain ⟨⟨e0, e1, e2, e3, e4, e5, e6, e7, e8, e9⟩, f0, f1, f2, f3, f4, f5⟩ := six_cells (p := D.heap.size) (q := v18.heap.size) r8 r9 (by omega) (.slice O1 on1 oc1) (.map (some mb1)) (.bool SA.2) (.slice O2 on2 oc2) (.map (some mb2))
      have rS := rV.next bs
      have hsp : sb ≠ D.heap.size := by omega
      have hsq : sb ≠ v18.heap.size := by omega
      have F := hid (cutJ (V := D) (p := D.heap.size) (q := v18.heap.size) r8 r9 (by omega) oA knA oB knB (by omega) (by omega) (by omega) bs (by omega) (by omega) (by omega) (by omega) (by omega) (by omega))
      have rS1 := (Row.far (Row.far (Row.far rS (p := ⟨D.heap.size, 0, none⟩) hsp (.slice O1 on1 oc1)) (p := ⟨D.heap.size, 1, none⟩) hsp (.map (some mb1))) (p := ⟨D.heap.size, 2, none⟩) hsp (.bool SA.2))
      have rS2 := (Row.far (Row.far (Row.far rS1 (p := ⟨v18.heap.size, 0, none⟩) hsq (.slice O2 on2 oc2)) (p := ⟨v18.heap.size, 1, none⟩) hsq (.map (some mb2))) (p := ⟨v18.heap.size, 2, none⟩) hsq (.bool SB.2))
      have HS := hid (And.intro rS1 rS2)
      clear rS rS1 rS2 oA knA oB knB r8 r9 bs
      refine wpAnyH_ready (rs := [10]) (by kernel_rfl) (by simp) (AllReadyH.cons rfl (fun K hK => ?_) AllReadyH.nil)
      try simp only [Act.put, setIfInBounds_toArray, set_cons_zero, set_cons_succ, getElem_toArray, getElem_cons_zero, getElem_cons_succ]
      rw [if_pos (by rfl)]
      go_simp
      refine hK.out _ _ ?_ (fun hHeld => ?_)
      ·exact ⟨HS.out.1.cell 0, HS.out.1.cell 1⟩
      clear hK K
      try simp only [Act.put, setIfInBounds_toArray, set_cons_zero, set_cons_succ, getElem_toArray, getElem_cons_zero, getElem_cons_succ]
      refine wpAnyH_ready (rs := [11]) (by kernel_rfl) (by simp) (AllReadyH.cons rfl (fun K hK => ?_) AllReadyH.nil)
      try simp only [Act.put, setIfInBounds_toArray, set_cons_zero, set_cons_succ, getElem_toArray, getElem_cons_zero, getElem_cons_succ]
      rw [if_pos (by rfl)]
      go_simp
      refine hK.out _ _ ?_ (fun hHeld => ?_)
      ·exact ⟨HS.out.2.cell 0, HS.out.2.cell 1⟩
      clear hK K
      try simp only [Act.put, setIfInBounds_toArray, set_cons_zero, set_cons_succ, getElem_toArray, getElem_cons_zero, getElem_cons_succ]
      refine wpAnyH_done (by kernel_rfl) ?_ _
      clear e0 e1 e2 e3 e4 e5 e6 e7 e8 e9 f0 f1 f2 f3 f4 f5 HS
      go_wp2_with fail
      go_meet
      exact F.out
    ·skip
     try simp only [Act.put, setIfInBounds_toArray, set_cons_zero, set_cons_succ, getElem_toArray, getElem_cons_zero, getElem_cons_succ]
     rw [if_pos (by rfl)]
     go_simp
     obtain ⟨v23, hw⟩ : ∃ W, W = v17.alloc (.cells rz 89) := ⟨_, rfl⟩
     rw [← hw]
     have r9 : Row v23 v17.heap.size 89 rz := by rw [hw]; exact Row.new _ _ _
     have bb : Below v17.heap.size v17 v23 := by rw [hw]; exact (Below.refl _ _).alloc (Nat.le_refl _) _
     have y9 : v17.heap.size < v23.heap.size := r9.lt
     clear hw
     replace r8 := r8.next bb
     replace bs := next_trans bs bb
     have zv23 := bb.size
     clear bb
     refine hK.out _ _ ?_ (fun hHeld => ?_)
     ·exact ⟨(rV.next bs).cell 0, (rV.next bs).cell 1⟩
     clear hK K
     try simp only [Act.put, setIfInBounds_toArray, set_cons_zero, set_cons_succ, getElem_toArray, getElem_cons_zero, getElem_cons_succ]
     refine wpAnyH_ready (rs := [3]) (by kernel_rfl) (by simp) (AllReadyH.cons rfl (fun K hK => ?_) AllReadyH.nil)
     try simp only [Act.put, setIfInBounds_toArray, set_cons_zero, set_cons_succ, getElem_toArray, getElem_cons_zero, getElem_cons_succ]
     rw [if_pos (by rfl)]
     go_simp
     refine (LA.out _ (next_trans bw bs)).mono ?_
     rintro e v24 ⟨O1, on1, oc1, mb1, k1, rfl, oA, knA, hmA, bb⟩
     have hmA2 := knA.lt
     replace r8 := r8.next bb
     replace r9 := r9.next bb
     replace bs := next_trans bs bb
     have zv24 := bb.size
     clear bb
     refine hK.out _ _ ?_ (fun hHeld => ?_)
     ·exact ⟨(rV.next bs).cell 0, (rV.next bs).cell 1⟩
     clear hK K
     try simp only [Act.put, setIfInBounds_toArray, set_cons_zero, set_cons_succ, getElem_toArray, getElem_cons_zero, getElem_cons_succ]
     refine wpAnyH_ready (rs := [7]) (by kernel_rfl) (by simp) (AllReadyH.cons rfl (fun K hK => ?_) AllReadyH.nil)
     try simp only [Act.put, setIfInBounds_toArray, set_cons_zero, set_cons_succ, getElem_toArray, getElem_cons_zero, getElem_cons_succ]
     rw [if_pos (by rfl)]
     go_simp
     refine (LB.out _ (next_trans bw bs)).mono ?_
     rintro e v25 ⟨O2, on2, oc2, mb2, k2, rfl, oB, knB, hmB, bb⟩
     have hmB2 := knB.lt
     replace r8 := r8.next bb
     replace r9 := r9.next bb
     replace oA := oA.next bb
     replace knA := knA.below bb
     replace bs := next_trans bs bb
     have zv25 := bb.size
     clear bb
     refine hK.out _ _ ?_ (fun hHeld => ?_)
     ·exact ⟨(rV.next bs).cell 0, (rV.next bs).cell 1⟩
     clear hK K
     try simp only [Act.put, setIfInBounds_toArray, set_cons_zero, set_cons_succ, getElem_toArray, getElem_cons_zero, getElem_cons_succ]
     have zbs := bs.size
     obtain ⟨⟨e0, e1, e2, e3, e4, e5, e6, e7, e8, e9⟩, f0, f1, f2, f3, f4, f5⟩ := six_cells (p := D.heap.size) (q := v17.heap.size) r8 r9 (by omega) (.slice O1 on1 oc1) (.map (some mb1)) (.bool SA.2) (.slice O2 on2 oc2) (.map (some mb2))
     have rS := rV.next bs
     have hsp : sb ≠ D.heap.size := by omega
     have hsq : sb ≠ v17.heap.size := by omega
     have F := hid (cutJ (V := D) (p := D.heap.size) (q := v17.heap.size) r8 r9 (by omega) oA knA oB knB (by omega) (by omega) (by omega) bs (by omega) (by omega) (by omega) (by omega) (by omega) (by omega))
     have rS1 := (Row.far (Row.far (Row.far rS (p := ⟨D.heap.size, 0, none⟩) hsp (.slice O1 on1 oc1)) (p := ⟨D.heap.size, 1, none⟩) hsp (.map (some mb1))) (p := ⟨D.heap.size, 2, none⟩) hsp (.bool SA.2))
     have rS2 := (Row.far (Row.far (Row.far rS1 (p := ⟨v17.heap.size, 0, none⟩) hsq (.slice O2 on2 oc2)) (p := ⟨v17.heap.size, 1, none⟩) hsq (.map (some mb2))) (p := ⟨v17.heap.size, 2, none⟩) hsq (.bool SB.2))
     have HS := hid (And.intro rS1 rS2)
     clear rS rS1 rS2 oA knA oB knB r8 r9 bs
     refine wpAnyH_ready (rs := [10]) (by kernel_rfl) (by simp) (AllReadyH.cons rfl (fun K hK => ?_) AllReadyH.nil)
     try simp only [Act.put, setIfInBounds_toArray, set_cons_zero, set_cons_succ, getElem_toArray, getElem_cons_zero, getElem_cons_succ]
     rw [if_pos (by rfl)]
     go_simp
     refine hK.out _ _ ?_ (fun hHeld => ?_)
     ·exact ⟨HS.out.1.cell 0, HS.out.1.cell 1⟩
     clear hK K
     try simp only [Act.put, setIfInBounds_toArray, set_cons_zero, set_cons_succ, getElem_toArray, getElem_cons_zero, getElem_cons_succ]
     refine wpAnyH_ready (rs := [11]) (by kernel_rfl) (by simp) (AllReadyH.cons rfl (fun K hK => ?_) AllReadyH.nil)
     try simp only [Act.put, setIfInBounds_toArray, set_cons_zero, set_cons_succ, getElem_toArray, getElem_cons_zero, getElem_cons_succ]
     rw [if_pos (by rfl)]
     go_simp
     refine hK.out _ _ ?_ (fun hHeld => ?_)
     ·exact ⟨HS.out.2.cell 0, HS.out.2.cell 1⟩
     clear hK K
     try simp only [Act.put, setIfInBounds_toArray, set_cons_zero, set_cons_succ, getElem_toArray, getElem_cons_zero, getElem_cons_succ]
     refine wpAnyH_done (by kernel_rfl) ?_ _
     clear e0 e1 e2 e3 e4 e5 e6 e7 e8 e9 f0 f1 f2 f3 f4 f5 HS
     go_wp2_with fail
     go_meet
     exact F.out
   ·skip
    try simp only [Act.put, setIfInBounds_toArray, set_cons_zero, set_cons_succ, getElem_toArray, getElem_cons_zero, getElem_cons_succ]
    rw [if_pos (by rfl)]
    go_simp
    obtain ⟨v26, hw⟩ : ∃ W, W = D.alloc (.cells rz 89) := ⟨_, rfl⟩
    rw [← hw]
    have r9 : Row v26 D.heap.size 89 rz := by rw [hw]; exact Row.new _ _ _
    have bb : Below D.heap.size D v26 := by rw [hw]; exact (Below.refl _ _).alloc (Nat.le_refl _) _
    have y9 : D.heap.size < v26.heap.size := r9.lt
    clear hw
    replace bs := next_trans bs bb
    have zv26 := bb.size
    clear bb
    refine hK.out _ _ ?_ (fun hHeld => ?_)
    ·exact ⟨(rV.next bs).cell 0, (rV.next bs).cell 1⟩
    clear hK K
    try simp only [Act.put, setIfInBounds_toArray, set_cons_zero, set_cons_succ, getElem_toArray, getElem_cons_zero, getElem_cons_succ]
    refine wpAnyH_ready (rs := [3, 8]) (by kernel_rfl) (by simp) (AllReadyH.cons rfl (fun K hK => ?_) (AllReadyH.cons rfl (fun K hK => ?_) AllReadyH.nil))
    ·skip
     try simp only [Act.put, setIfInBounds_toArray, set_cons_zero, set_cons_succ, getElem_toArray, getElem_cons_zero, getElem_cons_succ]
     rw [if_pos (by rfl)]
     go_simp
     refine (LA.out _ (next_trans bw bs)).mono ?_
     rintro e v27 ⟨O1, on1, oc1, mb1, k1, rfl, oA, knA, hmA, bb⟩
     have hmA2 := knA.lt
     replace r9 := r9.next bb
     replace bs := next_trans bs bb
     have zv27 := bb.size
     clear bb
     refine hK.out _ _ ?_ (fun hHeld => ?_)
     ·exact ⟨(rV.next bs).cell 0, (rV.next bs).cell 1⟩
     clear hK K
     try simp only [Act.put, setIfInBounds_toArray, set_cons_zero, set_cons_succ, getElem_toArray, getElem_cons_zero, getElem_cons_succ]
     refine wpAnyH_ready (rs := [7, 8]) (by kernel_rfl) (by simp) (AllReadyH.cons rfl (fun K hK => ?_) (AllReadyH.cons rfl (fun K hK => ?_) AllReadyH.nil))
     ·skip
      try simp only [Act.put, setIfInBounds_toArray, set_cons_zero, set_cons_succ, getElem_toArray, getElem_cons_zero, getElem_cons_succ]
      rw [if_pos (by rfl)]
      go_simp
      refine (LB.out _ (next_trans bw bs)).mono ?_
      rintro e v28 ⟨O2, on2, oc2, mb2, k2, rfl, oB, knB, hmB, bb⟩
      have hmB2 := knB.lt
      replace r9 := r9.next bb
      replace oA := oA.next bb
      replace knA := knA.below bb
      replace bs := next_trans bs bb
      have zv28 := bb.size
      clear bb
      refine hK.out _ _ ?_ (fun hHeld => ?_)
      ·exact ⟨(rV.next bs).cell 0, (rV.next bs).cell 1⟩
      clear hK K
      try simp only [Act.put, setIfInBounds_toArray, set_cons_zero, set_cons_succ, getElem_toArray, getElem_cons_zero, getElem_cons_succ]
      refine wpAnyH_ready (rs := [8]) (by kernel_rfl) (by simp) (AllReadyH.cons rfl (fun K hK => ?_) AllReadyH.nil)
      try simp only [Act.put, setIfInBounds_toArray, set_cons_zero, set_cons_succ, getElem_toArray, getElem_cons_zero, getElem_cons_succ]
      rw [if_pos (by rfl)]
      go_simp
      obtain ⟨v29, hw⟩ : ∃ W, W = v28.alloc (.cells rz 89) := ⟨_, rfl⟩
      rw [← hw]
      have r8 : Row v29 v28.heap.size 89 rz := by rw [hw]; exact Row.new _ _ _
      have bb : Below v28.heap.size v28 v29 := by rw [hw]; exact (Below.refl _ _).alloc (Nat.le_refl _) _
      have y8 : v28.heap.size < v29.heap.size := r8.lt
      clear hw
      replace r9 := r9.next bb
      replace oA := oA.next bb
      replace knA := knA.below bb
      replace oB := oB.next bb
      replace knB := knB.below bb
      replace bs := next_trans bs bb
      have zv29 := bb.size
      clear bb
      refine hK.out _ _ ?_ (fun hHeld => ?_)
      ·exact ⟨(rV.next bs).cell 0, (rV.next bs).cell 1⟩
      clear hK K
      try simp only [Act.put, setIfInBounds_toArray, set_cons_zero, set_cons_succ, getElem_toArray, getElem_cons_zero, getElem_cons_succ]
      have zbs := bs.size
      obtain ⟨⟨e0, e1, e2, e3, e4, e5, e6, e7, e8, e9⟩, f0, f1, f2, f3, f4, f5⟩ := six_cells (p := v28.heap.size) (q := D.heap.size) r8 r9 (by omega) (.slice O1 on1 oc1) (.map (some mb1)) (.bool SA.2) (.slice O2 on2 oc2) (.map (some mb2))
      have rS := rV.next bs
      have hsp : sb ≠ v28.heap.size := by omega
      have hsq : sb ≠ D.heap.size := by omega
      have F := hid (cutJ (V := D) (p := v28.heap.size) (q := D.heap.size) r8 r9 (by omega) oA knA oB knB (by omega) (by omega) (by omega) bs (by omega) (by omega) (by omega) (by omega) (by omega) (by omega))
      have rS1 := (Row.far (Row.far (Row.far rS (p := ⟨v28.heap.size, 0, none⟩) hsp (.slice O1 on1 oc1)) (p := ⟨v28.heap.size, 1, none⟩) hsp (.map (some mb1))) (p := ⟨v28.heap.size, 2, none⟩) hsp (.bool SA.2))
      have rS2 := (Row.far (Row.far (Row.far rS1 (p := ⟨D.heap.size, 0, none⟩) hsq (.slice O2 on2 oc2)) (p := ⟨D.heap.size, 1, none⟩) hsq (.map (some mb2))) (p := ⟨D.heap.size, 2, none⟩) hsq (.bool SB.2))
      have HS := hid (And.intro rS1 rS2)
      clear rS rS1 rS2 oA knA oB knB r8 r9 bs
      refine wpAnyH_ready (rs := [10]) (by kernel_rfl) (by simp) (AllReadyH.cons rfl (fun K hK => ?_) AllReadyH.nil)
      try simp only [Act.put, setIfInBounds_toArray, set_cons_zero, set_cons_succ, getElem_toArray, getElem_cons_zero, getElem_cons_succ]
      rw [if_pos (by rfl)]
      go_simp
      refine hK.out _ _ ?_ (fun hHeld => ?_)
      ·exact ⟨HS.out.1.cell 0, HS.out.1.cell 1⟩
      clear hK K
      try simp only [Act.put, setIfInBounds_toArray, set_cons_zero, set_cons_succ, getElem_toArray, getElem_cons_zero, getElem_cons_succ]
      refine wpAnyH_ready (rs := [11]) (by kernel_rfl) (by simp) (AllReadyH.cons rfl (fun K hK => ?_) AllReadyH.nil)
      try simp only [Act.put, setIfInBounds_toArray, set_cons_zero, set_cons_succ, getElem_toArray, getElem_cons_zero, getElem_cons_succ]
      rw [if_pos (by rfl)]
      go_simp
      refine hK.out _ _ ?_ (fun hHeld => ?_)
      ·exact ⟨HS.out.2.cell 0, HS.out.2.cell 1⟩
      clear hK K
      try simp only [Act.put, setIfInBounds_toArray, set_cons_zero, set_cons_succ, getElem_toArray, getElem_cons_zero, getElem_cons_succ]
      refine wpAnyH_done (by kernel_rfl) ?_ _
      clear e0 e1 e2 e3 e4 e5 e6 e7 e8 e9 f0 f1 f2 f3 f4 f5 HS
      go_wp2_with fail
      go_meet
      exact F.out
     ·skip
      try simp only [Act.put, setIfInBounds_toArray, set_cons_zero, set_cons_succ, getElem_toArray, getElem_cons_zero, getElem_cons_succ]
      rw [if_pos (by rfl)]
      go_simp
      obtain ⟨v30, hw⟩ : ∃ W, W = v27.alloc (.cells rz 89) := ⟨_, rfl⟩
      rw [← hw]
      have r8 : Row v30 v27.heap.size 89 rz := by rw [hw]; exact Row.new _ _ _
      have bb : Below v27.heap.size v27 v30 := by rw [hw]; exact (Below.refl _ _).alloc (Nat.le_refl _) _
      have y8 : v27.heap.size < v30.heap.size := r8.lt
      clear hw
      replace r9 := r9.next bb
      replace oA := oA.next bb
      replace knA := knA.below bb
      replace bs := next_trans bs bb
      have zv30 := bb.size
      clear bb
      refine hK.out _ _ ?_ (fun hHeld => ?_)
      ·exact ⟨(rV.next bs).cell 0, (rV.next bs).cell 1⟩
      clear hK K
      try simp only [Act.put, setIfInBounds_toArray, set_cons_zero, set_cons_succ, getElem_toArray, getElem_cons_zero, getElem_cons_succ]
      refine wpAnyH_ready (rs := [7]) (by kernel_rfl) (by simp) (AllReadyH.cons rfl (fun K hK => ?_) AllReadyH.nil)
      try simp only [Act.put, setIfInBounds_toArray, set_cons_zero, set_cons_succ, getElem_toArray, getElem_cons_zero, getElem_cons_succ]
      rw [if_pos (by rfl)]
      go_simp
      refine (LB.out _ (next_trans bw bs)).mono ?_
      rintro e v31 ⟨O2, on2, oc2, mb2, k2, rfl, oB, knB, hmB, bb⟩
      have hmB2 := knB.lt
      replace r9 := r9.next bb
      replace oA := oA.next bb
      replace knA := knA.below bb
      replace r8 := r8.next bb
      replace bs := next_trans bs bb
      have zv31 := bb.size
      clear bb
      refine hK.out _ _ ?_ (fun hHeld => ?_)
      ·exact ⟨(rV.next bs).cell 0, (rV.next bs).cell 1⟩
      clear hK K
      try simp only [Act.put, setIfInBounds_toArray, set_cons_zero, set_cons_succ, getElem_toArray, getElem_cons_zero, getElem_cons_succ]
      have zbs := bs.size
      obtain ⟨⟨e0, e1, e2, e3, e4, e5, e6, e7, e8, e9⟩, f0, f1, f2, f3, f4, f5⟩ := six_cells (p := v27.heap.size) (q := D.heap.size) r8 r9 (by omega) (.slice O1 on1 oc1) (.map (some mb1)) (.bool SA.2) (.slice O2 on2 oc2) (.map (some mb2))
      have rS := rV.next bs
      have hsp : sb ≠ v27.heap.size := by omega
      have hsq : sb ≠ D.heap.size := by omega
      have F := hid (cutJ (V := D) (p := v27.heap.size) (q := D.heap.size) r8 r9 (by omega) oA knA oB knB (by omega) (by omega) (by omega) bs (by omega) (by omega) (by omega) (by omega) (by omega) (by omega))
      have rS1 := (Row.far (Row.far (Row.far rS (p := ⟨v27.heap.size, 0, none⟩) hsp (.slice O1 on1 oc1)) (p := ⟨v27.heap.size, 1, none⟩) hsp (.map (some mb1))) (p := ⟨v27.heap.size, 2, none⟩) hsp (.bool SA.2))
      have rS2 := (Row.far (Row.far (Row.far rS1 (p := ⟨D.heap.size, 0, none⟩) hsq (.slice O2 on2 oc2)) (p := ⟨D.heap.size, 1, none⟩) hsq (.map (some mb2))) (p := ⟨D.heap.size, 2, none⟩) hsq (.bool SB.2))
      have HS := hid (And.intro rS1 rS2)
      clear rS rS1 rS2 oA knA oB knB r8 r9 bs
      refine wpAnyH_ready (rs := [10]) (by kernel_rfl) (by simp) (AllReadyH.cons rfl (fun K hK => ?_) AllReadyH.nil)
      try simp only [Act.put, setIfInBounds_toArray, set_cons_zero, set_cons_succ, getElem_toArray, getElem_cons_zero, getElem_cons_succ]
      rw [if_pos (by rfl)]
      go_simp
      refine hK.out _ _ ?_ (fun hHeld => ?_)
      ·exact ⟨HS.out.1.cell 0, HS.out.1.cell 1⟩
      clear hK K
      try simp only [Act.put, setIfInBounds_toArray, set_cons_zero, set_cons_succ, getElem_toArray, getElem_cons_zero, getElem_cons_succ]
      refine wpAnyH_ready (rs := [11]) (by kernel_rfl) (by simp) (AllReadyH.cons rfl (fun K hK => ?_) AllReadyH.nil)
      try simp only [Act.put, setIfInBounds_toArray, set_cons_zero, set_cons_succ, getElem_toArray, getElem_cons_zero, getElem_cons_succ]
      rw [if_pos (by rfl)]
      go_simp
      refine hK.out _ _ ?_ (fun hHeld => ?_)
      ·exact ⟨HS.out.2.cell 0, HS.out.2.cell 1⟩
      clear hK K
      try simp only [Act.put, setIfInBounds_toArray, set_cons_zero, set_cons_succ, getElem_toArray, getElem_cons_zero, getElem_cons_succ]
      refine wpAnyH_done (by kernel_rfl) ?_ _
      clear e0 e1 e2 e3 e4 e5 e6 e7 e8 e9 f0 f1 f2 f3 f4 f5 HS
      go_wp2_with fail
      go_meet
      exact F.out
    ·skip
     try simp only [Act.put, setIfInBounds_toArray, set_cons_zero, set_cons_succ, getElem_toArray, getElem_cons_zero, getElem_cons_succ]
     rw [if_pos (by rfl)]
     go_simp
     obtain ⟨v32, hw⟩ : ∃ W, W = v26.alloc (.cells rz 89) := ⟨_, rfl⟩
     rw [← hw]
     have r8 : Row v32 v26.heap.size 89 rz := by rw [hw]; exact Row.new _ _ _
     have bb : Below v26.heap.size v26 v32 := by rw [hw]; exact (Below.refl _ _).alloc (Nat.le_refl _) _
     have y8 : v26.heap.size < v32.heap.size := r8.lt
     clear hw
     replace r9 := r9.next bb
     replace bs := next_trans bs bb
     have zv32 := bb.size
     clear bb
     refine hK.out _ _ ?_ (fun hHeld => ?_)
     ·exact ⟨(rV.next bs).cell 0, (rV.next bs).cell 1⟩
     clear hK K
     try simp only [Act.put, setIfInBounds_toArray, set_cons_zero, set_cons_succ, getElem_toArray, getElem_cons_zero, getElem_cons_succ]
     refine wpAnyH_ready (rs := [3]) (by kernel_rfl) (by simp) (AllReadyH.cons rfl (fun K hK => ?_) AllReadyH.nil)
     try simp only [Act.put, setIfInBounds_toArray, set_cons_zero, set_cons_succ, getElem_toArray, getElem_cons_zero, getElem_cons_succ]
     rw [if_pos (by rfl)]
     go_simp
     refine (LA.out _ (next_trans bw bs)).mono ?_
     rintro e v33 ⟨O1, on1, oc1, mb1, k1, rfl, oA, knA, hmA, bb⟩
     have hmA2 := knA.lt
     replace r9 := r9.next bb
     replace r8 := r8.next bb
     replace bs := next_trans bs bb
     have zv33 := bb.size
     clear bb
     refine hK.out _ _ ?_ (fun hHeld => ?_)
     ·exact ⟨(rV.next bs).cell 0, (rV.next bs).cell 1⟩
     clear hK K
     try simp only [Act.put, setIfInBounds_toArray, set_cons_zero, set_cons_succ, getElem_toArray, getElem_cons_zero, getElem_cons_succ]
     refine wpAnyH_ready (rs := [7]) (by kernel_rfl) (by simp) (AllReadyH.cons rfl (fun K hK => ?_) AllReadyH.nil)
     try simp only [Act.put, setIfInBounds_toArray, set_cons_zero, set_cons_succ, getElem_toArray, getElem_cons_zero, getElem_cons_succ]
     rw [if_pos (by rfl)]
     go_simp
     refine (LB.out _ (next_trans bw bs)).mono ?_
     rintro e v34 ⟨O2, on2, oc2, mb2, k2, rfl, oB, knB, hmB, bb⟩
     have hmB2 := knB.lt
     replace r9 := r9.next bb
     replace r8 := r8.next bb
     replace oA := oA.next bb
     replace knA := knA.below bb
     replace bs := next_trans bs bb
     have zv34 := bb.size
     clear bb
     refine hK.out _ _ ?_ (fun hHeld => ?_)
     ·exact ⟨(rV.next bs).cell 0, (rV.next bs).cell 1⟩
     clear hK K
     try simp only [Act.put, setIfInBounds_toArray, set_cons_zero, set_cons_succ, getElem_toArray, getElem_cons_zero, getElem_cons_succ]
     have zbs := bs.size
     obtain ⟨⟨e0, e1, e2, e3, e4, e5, e6, e7, e8, e9⟩, f0, f1, f2, f3, f4, f5⟩ := six_cells (p := v26.heap.size) (q := D.heap.size) r8 r9 (by omega) (.slice O1 on1 oc1) (.map (some mb1)) (.bool SA.2) (.slice O2 on2 oc2) (.map (some mb2))
     have rS := rV.next bs
     have hsp : sb ≠ v26.heap.size := by omega
     have hsq : sb ≠ D.heap.size := by omega
     have F := hid (cutJ (V := D) (p := v26.heap.size) (q := D.heap.size) r8 r9 (by omega) oA knA oB knB (by omega) (by omega) (by omega) bs (by omega) (by omega) (by omega) (by omega) (by omega) (by omega))
     have rS1 := (Row.far (Row.far (Row.far rS (p := ⟨v26.heap.size, 0, none⟩) hsp (.slice O1 on1 oc1)) (p := ⟨v26.heap.size, 1, none⟩) hsp (.map (some mb1))) (p := ⟨v26.heap.size, 2, none⟩) hsp (.bool SA.2))
     have rS2 := (Row.far (Row.far (Row.far rS1 (p := ⟨D.heap.size, 0, none⟩) hsq (.slice O2 on2 oc2)) (p := ⟨D.heap.size, 1, none⟩) hsq (.map (some mb2))) (p := ⟨D.heap.size, 2, none⟩) hsq (.bool SB.2))
     have HS := hid (And.intro rS1 rS2)
     clear rS rS1 rS2 oA knA oB knB r8 r9 bs
     refine wpAnyH_ready (rs := [10]) (by kernel_rfl) (by simp) (AllReadyH.cons rfl (fun K hK => ?_) AllReadyH.nil)
     try simp only [Act.put, setIfInBounds_toArray, set_cons_zero, set_cons_succ, getElem_toArray, getElem_cons_zero, getElem_cons_succ]
     rw [if_pos (by rfl)]
     go_simp
     refine hK.out _ _ ?_ (fun hHeld => ?_)
     ·exact ⟨HS.out.1.cell 0, HS.out.1.cell 1⟩
     clear hK K
     try simp only [Act.put, setIfInBounds_toArray, set_cons_zero, set_cons_succ, getElem_toArray, getElem_cons_zero, getElem_cons_succ]
     refine wpAnyH_ready (rs := [11]) (by kernel_rfl) (by simp) (AllReadyH.cons rfl (fun K hK => ?_) AllReadyH.nil)
     try simp only [Act.put, setIfInBounds_toArray, set_cons_zero, set_cons_succ, getElem_toArray, getElem_cons_zero, getElem_cons_succ]
     rw [if_pos (by rfl)]
     go_simp
     refine hK.out _ _ ?_ (fun hHeld => ?_)
     ·exact ⟨HS.out.2.cell 0, HS.out.2.cell 1⟩
     clear hK K
     try simp only [Act.put, setIfInBounds_toArray, set_cons_zero, set_cons_succ, getElem_toArray, getElem_cons_zero, getElem_cons_succ]
     refine wpAnyH_done (by kernel_rfl) ?_ _
     clear e0 e1 e2 e3 e4 e5 e6 e7 e8 e9 f0 f1 f2 f3 f4 f5 HS
     go_wp2_with fail
     go_meet
     exact F.out
  case rest =>
   rename World => wc
   obtain ⟨p, q, O1, on1, oc1, mb1, k1, O2, on2, oc2, mb2, k2, lo1, hi1, lo2, hi2, rfl, rfl, J⟩ := hcut
   have c0 : wc.cell? ⟨p, 0, none⟩ = some (.slice O1 on1 oc1) := J.ra.cell 0
   have hon : SA.1.length = on1 := by
    obtain ⟨vs, G, oG⟩ := named J.oa
    have := oG.1; simpa using this
   have HN := hid (show SA.1.length = on1 ∧ on1 ≤ 60 ∧ w.heap.size + 1 + 1 < V.drew.heap.size from ⟨hon, by rw [← hon]; exact HI.out.1.len60, B2.out.2.2.2.lt⟩)
   have hon60 : on1 ≤ 60 := HN.out.2.1
   have J0 := hid J
   clear J HSB LA LB rV zS bw hon
   go_wp2_with fail
   go_loopg [45] on1 (fun gg i_ wr => ∃ i : Nat, i_ = .int .i64 (i : Int) ∧ i + gg = on1 ∧ (∀ k, k < i → plcO (termsF SB.1) ((termsF SA.1).getD k []) = none) ∧ Both V.drew SA SB p q O1 on1 oc1 mb1 k1 O2 on2 oc2 mb2 k2 lo1 hi1 lo2 hi2 wr)
   case atStart => exact ⟨0, rfl, by omega, fun k hk => by omega, J0.out⟩
   case round =>
    clear J0
    obtain ⟨i, rfl, hg, hno, J⟩ := hrel
    by_cases hi : i < on1
    ·obtain ⟨f, hf⟩ : ∃ f, SA.1[i]? = some f := ⟨_, List.getElem?_eq_getElem (by rw [HN.out.1]; exact hi)⟩
     obtain ⟨vs, G, oG⟩ := named J.oa
     obtain ⟨g, T', tn', tc', rfl, -, -, -, -, ⟨e0, e1, e2, e3, e4⟩, -, o2⟩ := oG.find hf
     have i0 : (0 : Int) ≤ (i : Int) := by omega
     have i1 : (i : Int) < (on1 : Int) := by omega
     obtain ⟨V5, hV5⟩ : ∃ V5, V5 = wr.alloc (.cells #[.int .i64 f.1.1, .int .i64 f.1.2.1, .slice T' tn' tc', .int .i64 (f.2.1 : Int), .int .i64 (f.2.2 : Int)] 94) := ⟨_, rfl⟩
     have b5 : Below wr.heap.size wr V5 := by rw [hV5]; exact (Below.refl _ _).alloc (Nat.le_refl _) _
     have r5 : Row V5 wr.heap.size 94 #[.int .i64 f.1.1, .int .i64 f.1.2.1, .slice T' tn' tc', .int .i64 (f.2.1 : Int), .int .i64 (f.2.2 : Int)] := by rw [hV5]; exact Row.new _ _ _
     have J5 := J.next b5
     have sf := (ow_seg o2).next b5
     have LB := hid (implWalk lo2 hi2 O2 on2 oc2 mb2 k2 SB T' tn' tc' (termF f) d.1 d.2 s N 60 V5 J5.ob J5.kb HI.out.2 sf (HSM.out f (List.mem_of_getElem? hf)) (by omega) J5.z.2.2.2.2 J5.z.2.2.2.1)
     have H5 := hid (show V5 = wr.alloc (.cells #[.int .i64 f.1.1, .int .i64 f.1.2.1, .slice T' tn' tc', .int .i64 (f.2.1 : Int), .int .i64 (f.2.2 : Int)] 94) ∧ Row V5 wr.heap.size 94 #[.int .i64 f.1.1, .int .i64 f.1.2.1, .slice T' tn' tc', .int .i64 (f.2.1 : Int), .int .i64 (f.2.2 : Int)] ∧ Both V.drew SA SB p q (some ⟨g, 0, none⟩) on1 oc1 mb1 k1 O2 on2 oc2 mb2 k2 lo1 hi1 lo2 hi2 V5 ∧ Seg V5 V5.heap.size T' tn' (termF f) ∧ i + gk = on1 ∧ (∀ k, k < i → plcO (termsF SB.1) ((termsF SA.1).getD k []) = none) ∧ SA.1[i]? = some f from ⟨hV5, r5, J5, sf, hg, hno, hf⟩)
     have q0 : V5.cell? ⟨q, 0, none⟩ = some (.slice O2 on2 oc2) := J5.rb.cell 0
     have q1 : V5.cell? ⟨q, 1, none⟩ = some (.map (some mb2)) := J5.rb.cell 1
     have q2 : V5.cell? ⟨q, 2, none⟩ = some (.bool SB.2) := J5.rb.cell 2
     have f2 : V5.cell? ⟨wr.heap.size, 2, none⟩ = some (.slice T' tn' tc') := r5.cell 2
     clear hV5 b5 r5 J5 sf hg hno hf o2 oG J vs G
     go_upto_region 8 with (fail)
     rw [← H5.out.1]
     go_wp2_with fail
     refine LB.out.mono ?_
     rintro e w3 ⟨B0, m0, h0, B1, m1, h1, rfl, hB, b3⟩
     clear q0 q1 q2 f2 e0 e1 e2 e3 e4 LB
     cases hp : plcO (termsF SB.1) (termF f) with
     | none =>
      have F := hid (show (∀ k, k < i + 1 → plcO (termsF SB.1) ((termsF SA.1).getD k []) = none) ∧ Both V.drew SA SB p q (some ⟨g, 0, none⟩) on1 oc1 mb1 k1 O2 on2 oc2 mb2 k2 lo1 hi1 lo2 hi2 (w3.alloc (.cells #[.slice B0 m0 h0, .slice B1 m1 h1] 50)) from ⟨fun k hk => by
       by_cases e : k = i
       ·rw [e, term_get H5.out.2.2.2.2.2.2]; exact hp
       ·exact H5.out.2.2.2.2.2.1 k (by omega), (H5.out.2.2.1.next b3).next ((Below.refl _ _).alloc (Nat.le_refl _) _)⟩)
      have G := hid H5.out.2.2.2.2.1
      have hbo : (Option.map (wkF SB.1) (none : Option Nat)).isSome = false := rfl
      rw [hbo]
      clear H5 hp hbo b3 hB
      go_wp2
      go_roundg (gk - 1)
      case measure => have := G.out; omega
      case rel => exact ⟨i + 1, by simp, by have := G.out; omega, F.out⟩
     | some j =>
      have hbo : (Option.map (wkF SB.1) (some j)).isSome = true := rfl
      rw [hbo]
      rw [hp] at hB
      have HJ := hid (show joinO d.1 d.2 t s (N : Int) = some (wkF SA.1 i, wkF SB.1 j) from by
       rw [HO.out, firstJ_some (by rw [HN.out.1]; exact hi) H5.out.2.2.2.2.2.1 (by rw [term_get H5.out.2.2.2.2.2.2]; exact hp)]; rfl)
      have plA : plcO (termsF SA.1) (termF f) = some i := by
       have := plc_own HI.out.1.nodup (i := i) (by rw [termsF_len, HN.out.1]; exact hi)
       rwa [term_get H5.out.2.2.2.2.2.2] at this
      obtain ⟨V6, hV6⟩ : ∃ V6, V6 = w3.alloc (.cells #[.slice B0 m0 h0, .slice B1 m1 h1] 50) := ⟨_, rfl⟩
      have b6 : Below w3.heap.size w3 V6 := by rw [hV6]; exact (Below.refl _ _).alloc (Nat.le_refl _) _
      have r6 : Row V6 w3.heap.size 50 #[.slice B0 m0 h0, .slice B1 m1 h1] := by rw [hV6]; exact Row.new _ _ _
      have b56 := next_trans b3 b6
      have J6 := H5.out.2.2.1.next b56
      have LA := implWalk lo1 hi1 (some ⟨g, 0, none⟩) on1 oc1 mb1 k1 SA T' tn' tc' (termF f) d.1 d.2 t N 60 V6 J6.oa J6.ka HI.out.1 (H5.out.2.2.2.1.next b56) (HSM.out f (List.mem_of_getElem? H5.out.2.2.2.2.2.2)) (by omega) (by have := J6.z; omega) J6.z.2.1
      rw [plA] at LA
      replace LA := hid LA
      have H6 := hid (show V6 = w3.alloc (.cells #[.slice B0 m0 h0, .slice B1 m1 h1] 50) ∧ Row V6 w3.heap.size 50 #[.slice B0 m0 h0, .slice B1 m1 h1] ∧ Both V.drew SA SB p q (some ⟨g, 0, none⟩) on1 oc1 mb1 k1 O2 on2 oc2 mb2 k2 lo1 hi1 lo2 hi2 V6 ∧ V5.heap.size ≤ w3.heap.size ∧ (∃ F, Ow w3 sWalk [.slice B0 m0 h0, .slice B1 m1 h1] (wkF SB.1 j) F ∧ F.Nodup ∧ ∀ q ∈ F, (lo2 ≤ q ∧ q < hi2) ∨ (V5.heap.size ≤ q ∧ q < w3.heap.size)) ∧ Below w3.heap.size w3 V6 from ⟨hV6, r6, J6, b3.size, hB, b6⟩)
      have p0 : V6.cell? ⟨p, 0, none⟩ = some (.slice (some ⟨g, 0, none⟩) on1 oc1) := J6.ra.cell 0
      have p1 : V6.cell? ⟨p, 1, none⟩ = some (.map (some mb1)) := J6.ra.cell 1
      have p2 : V6.cell? ⟨p, 2, none⟩ = some (.bool SA.2) := J6.ra.cell 2
      have f2 : V6.cell? ⟨wr.heap.size, 2, none⟩ = some (.slice T' tn' tc') := (H5.out.2.1.next b56).cell 2
      clear hp hbo hB plA hV6 b6 r6 b56 J6 b3 HO
      go_upto_region 10 with (fail)
      rw [← H6.out.1]
      go_wp2_with fail
      refine LA.out.mono ?_
      rintro e w7 ⟨A0, n0, g0, A1, n1, g1, rfl, hA, b7⟩
      have hbo : (Option.map (wkF SA.1) (some i)).isSome = true := rfl
      rw [hbo]
      obtain ⟨V8, hV8⟩ : ∃ V8, V8 = w7.alloc (.cells #[.slice A0 n0 g0, .slice A1 n1 g1] 50) := ⟨_, rfl⟩
      have b8 : Below w7.heap.size w7 V8 := by rw [hV8]; exact (Below.refl _ _).alloc (Nat.le_refl _) _
      have r8 : Row V8 w7.heap.size 50 #[.slice A0 n0 g0, .slice A1 n1 g1] := by rw [hV8]; exact Row.new _ _ _
      have b68 := next_trans b7 b8
      have r6 := H6.out.2.1.next b68
      have J8 := H6.out.2.2.1.next b68
      have bV := next_trans B2.out.2.1 J8.b
      have HV8 := hid hV8
      have s0 : V8.cell? ⟨w7.heap.size, 0, none⟩ = some (.slice A0 n0 g0) := r8.cell 0
      have s1 : V8.cell? ⟨w7.heap.size, 1, none⟩ = some (.slice A1 n1 g1) := r8.cell 1
      have s2 : V8.cell? ⟨w3.heap.size, 0, none⟩ = some (.slice B0 m0 h0) := r6.cell 0
      have s3 : V8.cell? ⟨w3.heap.size, 1, none⟩ = some (.slice B1 m1 h1) := r6.cell 1
      obtain ⟨⟨p0', p1', p2', p3, p4, p5⟩, ⟨q0, q1, q2, q3, q4, q5⟩, u0, u1, u2, u3⟩ := two_cells ((B2.out.2.2.1.next J8.b).drew) ((B2.out.2.2.2.next J8.b).drew) (by omega) (.slice A0 n0 g0) (.slice A1 n1 g1) (.slice B0 m0 h0) (.slice B1 m1 h1)
      have F := hid (show AnsJ w (joinO d.1 d.2 t s (N : Int)) (.returned (.tuple #[.agg #[.slice A0 n0 g0, .slice A1 n1 g1], .agg #[.slice B0 m0 h0, .slice B1 m1 h1], .bool true])) (put4 V8.drew (w.heap.size + 1) (w.heap.size + 1 + 1) (.slice A0 n0 g0) (.slice A1 n1 g1) (.slice B0 m0 h0) (.slice B1 m1 h1)) from by
       obtain ⟨FA, oA, nA, bA⟩ := hA
       obtain ⟨FB, oB, nB, bB⟩ := H6.out.2.2.2.2.1
       have z0 := HN.out.2.2
       have z1 := H5.out.2.2.1.z
       have z2 := H6.out.2.2.2.1
       have z3 := H6.out.2.2.2.2.2.size
       have z4 := b7.size
       have z5 := b8.size
       have z6 := H6.out.2.1.lt
       have z7 : V8.drew.heap.size = V8.heap.size := rfl
       refine ansJ_yes HJ.out (Ow.keep (s := sWalk) (w := V8) (oA.next b8) fun _ _ => rfl) (Ow.keep (s := sWalk) (w := V8) (oB.next (next_trans H6.out.2.2.2.2.2 b68)) fun _ _ => rfl) (List.nodup_append.2 ⟨nA, nB, fun x hx y hy e => ?_⟩) (fun q hq => ?_) bV.drew
       ·have := bA x hx
        have := bB y hy
        omega
       ·rcases List.mem_append.1 hq with h | h
        ·have := bA q h; omega
        ·have := bB q h; omega)
      have RR := hid (And.intro r8.drew r6.drew)
      have nn1 : w7.heap.size ≠ w.heap.size + 1 := by have := HN.out.2.2; have := H5.out.2.2.1.z; have := H6.out.2.2.2.1; have := H6.out.2.1.lt; have := b7.size; omega
      have nn2 : w3.heap.size ≠ w.heap.size + 1 := by have := HN.out.2.2; have := H5.out.2.2.1.z; have := H6.out.2.2.2.1; omega
      have nn3 : w7.heap.size ≠ w.heap.size + 1 + 1 := by have := HN.out.2.2; have := H5.out.2.2.1.z; have := H6.out.2.2.2.1; have := H6.out.2.1.lt; have := b7.size; omega
      have nn4 : w3.heap.size ≠ w.heap.size + 1 + 1 := by have := HN.out.2.2; have := H5.out.2.2.1.z; have := H6.out.2.2.2.1; omega
      clear hA b7 b8 r8 b68 r6 J8 bV hV8 H6 H5 LA p0 p1 p2 f2 hbo HJ
      go_upto_region 11 with (fail)
      rw [← HV8.out]
      refine AnyT.start (S := (fun w' => w'.cell? ⟨w7.heap.size, 0, none⟩ = some (.slice A0 n0 g0) ∧ w'.cell? ⟨w7.heap.size, 1, none⟩ = some (.slice A1 n1 g1) ∧ w'.cell? ⟨w3.heap.size, 0, none⟩ = some (.slice B0 m0 h0) ∧ w'.cell? ⟨w3.heap.size, 1, none⟩ = some (.slice B1 m1 h1))) (fun _ => false) (by kernel_rfl) ⟨s0, s1, s2, s3⟩ (fun hHeld => ?_)
      generalize V8.drew = D at *
      refine AnyT.take (i := 0) (v := ?_) rfl (by kernel_rfl) (by kernel_rfl) (by kernel_rfl) (by kernel_rfl) (fun _ _ _ h => h) (Or.inl ⟨by rfl, ?_⟩) (by assumption) ?_
      rotate_left 1
      ·(intro w0 hSw; (try dsimp only at hSw); go_simp; try with_reducible rfl)
      try simp only [Act.put, setIfInBounds_toArray, set_cons_zero, set_cons_succ, getElem_toArray, getElem_cons_zero, getElem_cons_succ]
      refine AnyT.take (i := 1) (v := ?_) rfl (by kernel_rfl) (by kernel_rfl) (by kernel_rfl) (by kernel_rfl) (fun _ _ _ h => h) (Or.inl ⟨by rfl, ?_⟩) (by assumption) ?_
      rotate_left 1
      ·(intro w0 hSw; (try dsimp only at hSw); go_simp; try with_reducible rfl)
      try simp only [Act.put, setIfInBounds_toArray, set_cons_zero, set_cons_succ, getElem_toArray, getElem_cons_zero, getElem_cons_succ]
      refine AnyT.call (i := 2) (by kernel_rfl) rfl (fun K hK => ?_)
      try simp only [Act.put, setIfInBounds_toArray, set_cons_zero, set_cons_succ, getElem_toArray, getElem_cons_zero, getElem_cons_succ]
      rw [if_pos (by rfl)]
      go_simp
      refine hK.out _ _ (fun _ _ => ?_) (fun hKeep => ?_)
      ·(have a1 := (Row.far (Row.far RR.out.1 (p := ⟨w.heap.size + 1, 0, none⟩) nn1 (.slice A0 n0 g0)) (p := ⟨w.heap.size + 1, 1, none⟩) nn1 (.slice A1 n1 g1)); have a2 := (Row.far (Row.far RR.out.2 (p := ⟨w.heap.size + 1, 0, none⟩) nn2 (.slice A0 n0 g0)) (p := ⟨w.heap.size + 1, 1, none⟩) nn2 (.slice A1 n1 g1)); exact ⟨a1.cell 0, a1.cell 1, a2.cell 0, a2.cell 1⟩)
      replace hHeld := hKeep (by first | rfl | trivial) hHeld
      clear hK K hKeep
      try simp only [Act.put, setIfInBounds_toArray, set_cons_zero, set_cons_succ, getElem_toArray, getElem_cons_zero, getElem_cons_succ]
      refine AnyT.call (i := 3) (by kernel_rfl) rfl (fun K hK => ?_)
      try simp only [Act.put, setIfInBounds_toArray, set_cons_zero, set_cons_succ, getElem_toArray, getElem_cons_zero, getElem_cons_succ]
      rw [if_pos (by rfl)]
      go_simp
      refine hK.out _ _ (fun _ _ => ?_) (fun hKeep => ?_)
      ·(have a1 := (Row.far (Row.far (Row.far (Row.far RR.out.1 (p := ⟨w.heap.size + 1, 0, none⟩) nn1 (.slice A0 n0 g0)) (p := ⟨w.heap.size + 1, 1, none⟩) nn1 (.slice A1 n1 g1)) (p := ⟨w.heap.size + 1 + 1, 0, none⟩) nn3 (.slice B0 m0 h0)) (p := ⟨w.heap.size + 1 + 1, 1, none⟩) nn3 (.slice B1 m1 h1)); have a2 := (Row.far (Row.far (Row.far (Row.far RR.out.2 (p := ⟨w.heap.size + 1, 0, none⟩) nn2 (.slice A0 n0 g0)) (p := ⟨w.heap.size + 1, 1, none⟩) nn2 (.slice A1 n1 g1)) (p := ⟨w.heap.size + 1 + 1, 0, none⟩) nn4 (.slice B0 m0 h0)) (p := ⟨w.heap.size + 1 + 1, 1, none⟩) nn4 (.slice B1 m1 h1)); exact ⟨a1.cell 0, a1.cell 1, a2.cell 0, a2.cell 1⟩)
      replace hHeld := hKeep (by first | rfl | trivial) hHeld
      clear hK K hKeep
      try simp only [Act.put, setIfInBounds_toArray, set_cons_zero, set_cons_succ, getElem_toArray, getElem_cons_zero, getElem_cons_succ]
      refine AnyT.takeA (i := 4) (v := ?_) rfl (by kernel_rfl) (by kernel_rfl) (by kernel_rfl) (fun _ _ _ h => h) (Or.inl ⟨by rfl, ?_⟩) ?_
      rotate_left 1
      ·(intro w0 _; go_simp; try with_reducible rfl)
      try simp only [Act.put, setIfInBounds_toArray, set_cons_zero, set_cons_succ, getElem_toArray, getElem_cons_zero, getElem_cons_succ]
      refine AnyT.done (by kernel_rfl) ?_ _
      go_wp2
      exact bodyPost_ret (v := .tuple #[.agg #[.slice A0 n0 g0, .slice A1 n1 g1], .agg #[.slice B0 m0 h0, .slice B1 m1 h1], .bool true]) (by simp [results, Try.results26, go_sem, u0, u1, u2, u3]) rfl F.out
    ·have HO2 := hid (show joinO d.1 d.2 t s (N : Int) = none from by rw [HO.out, firstJ_none (fun k hk => hno k (by have := HN.out.1; omega))]; rfl)
     have i1 : ¬ (i : Int) < (on1 : Int) := by omega
     obtain ⟨⟨p0, p1, p2, p3, p4, p5⟩, ⟨q0, q1, q2, q3, q4, q5⟩, u0, u1, u2, u3⟩ := two_cells (B2.out.2.2.1.next J.b) (B2.out.2.2.2.next J.b) (by omega) (.slice none 0 0) (.slice none 0 0) (.slice none 0 0) (.slice none 0 0)
     have F := hid (ansJ_no HO2.out (put4_below (next_trans B2.out.2.1 J.b) (.slice none 0 0) (.slice none 0 0) (.slice none 0 0) (.slice none 0 0)))
     clear J hno hg HO
     go_wp2
     exact bodyPost_ret (v := .tuple #[.agg #[.slice none 0 0, .slice none 0 0], .agg #[.slice none 0 0, .slice none 0 0], .bool false]) (by simp [results, Try.results26, go_sem, u0, u1, u2, u3]) rfl F.out
end joinImpl
end
section
namespace walkToX
open Go.RowKit base sig term marks app sym segs shape kindsR kindsW varsOf ruleMath ruleSpec stepMath walkMath stepSpec termFacts reachMath findSpec reachSpec walkSpec walkTo walkX
theorem wkF_sz {sg : List Int} {rs : List Rl} {t : List Int} {n j : Nat} (h : rightB sg rs t = true) (hn : n ≤ 20) (hj : j < (fdA sg rs t n).1.length) : sz sWalk (wkF (fdA sg rs t n).1 j) ≤ 1048576 := walkB_sz (wk_walk h fd_inv (by omega) (List.getElem?_eq_getElem hj)).1
end walkToX
end
section
namespace joinX
open Go.RowKit base ints sig term marks app sym segs shape kindsR kindsW varsOf ruleMath ruleSpec stepMath walkMath stepSpec reachMath findSpec reachSpec walkSpec joinSpec joinImpl walkToX walkX
theorem join_sz {sg : List Int} {rs : List Rl} {t s : List Int} {x : Int} : sz sWalk ((joinO sg rs t s x).getD (([], []), ([], []))).1 ≤ 1048576 ∧ sz sWalk ((joinO sg rs t s x).getD (([], []), ([], []))).2 ≤ 1048576 := by
 cases ok : (right9 sg rs t x && right9 sg rs s x) with
 | false => unfold joinO; rw [if_neg (by rw [ok]; simp)]; exact ⟨zero_sz, zero_sz⟩
 | true =>
  rw [Bool.and_eq_true] at ok
  obtain ⟨q1, q2, q3⟩ := longest.r9_parts ok.1
  obtain ⟨q4, -, -⟩ := longest.r9_parts ok.2
  obtain ⟨N, rfl⟩ : ∃ N : Nat, x = (N : Int) := ⟨x.toNat, by omega⟩
  rw [join_yes ok.1 ok.2]
  cases hp : firstJ (fdA sg rs t N).1 (fdA sg rs s N).1 with
  | none => exact ⟨zero_sz, zero_sz⟩
  | some p =>
   obtain ⟨i, hi, h1⟩ := List.exists_of_findSome?_eq_some hp
   have hi := List.mem_range.1 hi
   obtain ⟨j, hj, rfl⟩ := Option.map_eq_some_iff.1 h1
   have hj : plcO (termsF (fdA sg rs s N).1) _ = some j := hj
   exact ⟨wkF_sz q1 (by omega) hi, wkF_sz q4 (by omega) (by have := (plc_spot hj).1; rwa [termsF_len] at this)⟩
end joinX
end
section
namespace join2
open Go.RowKit base ints sig term marks app sym segs shape kindsR kindsW varsOf ruleMath ruleSpec stepMath walkMath stepSpec reachMath findSpec reachSpec walkSpec joinSpec joinImpl walkToX walkX joinX
abbrev sJoin2 : Sh := .cat sWalk sWalk
theorem parts2 {w : World} {B : Nat} {v0 v1 v2 v3 : Value} {d : Dat sJoin2} (h : Rd w B sJoin2 [v0, v1, v2, v3] d) : Rd w B sWalk [v0, v1] d.1 ∧ Rd w B sWalk [v2, v3] d.2 := by
 obtain ⟨ca, cb, e, h1, h2⟩ := h
 obtain ⟨x0, x1, rfl⟩ := cells_Walk h1
 obtain ⟨y0, y1, rfl⟩ := cells_Walk h2
 simp only [List.cons_append, List.nil_append, List.cons.injEq, and_true] at e
 obtain ⟨rfl, rfl, rfl, rfl⟩ := e
 exact ⟨h1, h2⟩
def AnsJ2 (w : World) (ys : Dat sJoin2) (b : Bool) (e : Ending) (w' : World) : Prop := ∃ A0 n0 c0 A1 n1 c1 A2 n2 c2 A3 n3 c3, e = .returned (.tuple #[.agg #[.slice A0 n0 c0, .slice A1 n1 c1], .agg #[.slice A2 n2 c2, .slice A3 n3 c3], .bool b]) ∧ Owned w' w.heap.size w'.heap.size sJoin2 [.slice A0 n0 c0, .slice A1 n1 c1, .slice A2 n2 c2, .slice A3 n3 c3] ys ∧ Below w.heap.size w w'
theorem ansJ2 {w w' : World} {o : Option (Wk × Wk)} {e : Ending} (h : AnsJ w o e w') : AnsJ2 w (o.getD (([], []), ([], []))) o.isSome e w' := by
 obtain ⟨A0, n0, c0, A1, n1, c1, A2, n2, c2, A3, n3, c3, rfl, ⟨F, G, h1, h2, h3, h4⟩, h5⟩ := h
 exact ⟨A0, n0, c0, A1, n1, c1, A2, n2, c2, A3, n3, c3, rfl, ⟨F ++ G, Ow.join (a := sWalk) (b := sWalk) h1 h2, h3, h4⟩, h5⟩
theorem specJoin2 (a v u y : Value) (d : Dat sSystem) (t s : List Int) (x : Int) (w : World) (h : Rd w w.heap.size sSystem [a, v] d) (ht : Rd w w.heap.size sI [u] t) (hs : Rd w w.heap.size sI [y] s) (hz : sz sSystem d ≤ 1048576) (hz1 : sz sI t ≤ 1048576) (hz2 : sz sI s ≤ 1048576) (_ : -9223372036854775808 ≤ x) (_ : x ≤ 9223372036854775807) :
  Calls Try.prog 25 #[.agg #[a, v], u, y, .int .i64 x] w (AnsJ2 w ((joinO d.1 d.2 t s x).getD (([], []), ([], []))) (joinO d.1 d.2 t s x).isSome) := (specJoinOf a v u y d t s x w h ht hs hz hz1 hz2).mono fun _ _ h => ansJ2 h
theorem implJoin2 (a v u y : Value) (d : Dat sSystem) (t s : List Int) (x : Int) (w : World) (h : Rd w w.heap.size sSystem [a, v] d) (ht : Rd w w.heap.size sI [u] t) (hs : Rd w w.heap.size sI [y] s) (hz : sz sSystem d ≤ 1048576) (hz1 : sz sI t ≤ 1048576) (hz2 : sz sI s ≤ 1048576) (_ : -9223372036854775808 ≤ x) (_ : x ≤ 9223372036854775807) :
  Calls Try.prog 26 #[.agg #[a, v], u, y, .int .i64 x] w (AnsJ2 w ((joinO d.1 d.2 t s x).getD (([], []), ([], []))) (joinO d.1 d.2 t s x).isSome) := (implJoinOf a v u y d t s x w h ht hs hz hz1 hz2).mono fun _ _ h => ansJ2 h
end join2
end
end Go.Proofs.Ytblhmplpcdcejaa
