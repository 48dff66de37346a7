/-
  MERGED: my texts RuleImplD, RuleSpecB, RuleSpecC, RuleImplE, WConstructorsIn, OpenX, one behind the other, as they are. By an AI agent.
-/
import Derived.Test.YtdkjafjphgcbjaaMFnExactConstructorsIn3
import Derived.Deep.RegionHeld3
import Derived.ProofKit
import Derived.OpenShut
import Derived.Lib.SmallJoins
import Derived.Deep.Slices
import Derived.Deep.Fields
section
/-
  CONTRACTS: impl's system.nests, symbols, collapses, Sig.repeats, Sig.duplicates (and its closure). Conditions: the arguments read as data ('Rd'), at most 1048576 numbers; no side is empty where its head is read. By an AI agent.
-/
namespace Go.Proofs.Ytdkjafjphgcbjaa.ruleImpl
open Go.RowKit Go.Proofs.Ytdkjafjphgcbjaa.base Go.Proofs.Ytdkjafjphgcbjaa.ints Go.Proofs.Ytdkjafjphgcbjaa.sig Go.Proofs.Ytdkjafjphgcbjaa.term Go.Proofs.Ytdkjafjphgcbjaa.termOk Go.Proofs.Ytdkjafjphgcbjaa.marks Go.Proofs.Ytdkjafjphgcbjaa.app Go.Proofs.Ytdkjafjphgcbjaa.appAt Go.Proofs.Ytdkjafjphgcbjaa.sym Go.Proofs.Ytdkjafjphgcbjaa.segs Go.Proofs.Ytdkjafjphgcbjaa.termFacts Go.Proofs.Ytdkjafjphgcbjaa.varsMath Go.Proofs.Ytdkjafjphgcbjaa.varsOf Go.Proofs.Ytdkjafjphgcbjaa.rename Go.Proofs.Ytdkjafjphgcbjaa.same Go.Proofs.Ytdkjafjphgcbjaa.count Go.Proofs.Ytdkjafjphgcbjaa.linear Go.Proofs.Ytdkjafjphgcbjaa.shape Go.Proofs.Ytdkjafjphgcbjaa.kindsR Go.Proofs.Ytdkjafjphgcbjaa.ruleMath Go.Proofs.Ytdkjafjphgcbjaa.ruleSpec Go.Proofs.Ytdkjafjphgcbjaa.anyR
set_option maxRecDepth 100000

/-! ### nests -/
set_option maxHeartbeats 4000000 in
theorem nests_ (a v l r : Value) (d : Dat sSystem) (x : Dat sRule) (w : World) (h : Rd w w.heap.size sSystem [a, v] d) (hz : sz sSystem d ≤ 1048576) (hL : ∀ x ∈ d.2, 1 ≤ x.1.length) (h' : Rd w w.heap.size sRule [l, r] x) (hz' : sz sRule x ≤ 1048576) (h1 : 1 ≤ x.1.length) :
    Calls Try.prog 81 #[.agg #[a, v], .agg #[l, r]] w (AnsB w (nestB d.2 x)) := by
  obtain ⟨A1, n1, c1, A2, n2, c2, rfl, rfl, s1, k1, s2, k2, hn1, hn2⟩ := rd_rule h' hz'
  have hl1 := s1.1
  have h2 := h1
  rw [hl1] at h2
  obtain ⟨b, off, p, rfl, hbB, hp, ep⟩ := s1.spot (k := 0) (by omega)
  obtain ⟨W, hW, rA, rB, bel⟩ := box2 w 64 35 #[a, v] #[.slice (some ⟨b, off, none⟩) n1 c1, .slice A2 n2 c2]
  have cut := Seg.post s1 (k := 1) (by omega)
  have hll : (x.1.drop 1).length = n1 - 1 := by rw [List.length_drop, hl1]
  have HW := Lib.hid hW
  have i1 : (1 : Int) ≤ (n1 : Int) := by omega
  have i2 : (n1 : Int) ≤ (c1 : Int) := by have := k1.1; omega
  have i3 : (1 : Int) ≤ (c1 : Int) := by omega
  have d0 : W.drew.cell? ⟨w.heap.size, 0, none⟩ = some a := rA.cell 0
  have d1 : W.drew.cell? ⟨w.heap.size, 1, none⟩ = some v := rA.cell 1
  have d2 : W.drew.cell? ⟨w.heap.size + 1, 0, none⟩ = some (.slice (some ⟨b, off, none⟩) n1 c1) := rB.cell 0
  have lt0 : w.heap.size < W.drew.heap.size := rA.lt
  have lt1 : w.heap.size + 1 < W.drew.heap.size := rB.lt
  by_cases hc : c1 = 1
  · have hn : n1 = 1 := by have := k1.1; omega
    subst hn hc
    clear cut
    have hrd : Rd w w.heap.size sI [.slice (some ⟨b, off, none⟩) 0 0] (x.1.drop 1) := rd_ints.2 ⟨_, _, _, rfl, ⟨hll, fun h => absurd h (by omega)⟩, by omega, by omega, fun e => by cases e⟩
    have L := Lib.hid (fun (w1 : World) (bb : Below w.heap.size w w1) => containsFuncI 97 #[.agg #[a, v]] #[] (fun _ _ => rfl) (isDef d.2) (some ⟨b, off, none⟩) (0) (0) (x.1.drop 1) w1
      (fun W' y hW' _ => defines_ a v d y W' (h.next (next_trans bb hW')) hz hL) (hrd.next bb) hll (by omega))
    have hmf := makeFn
    have HB := Lib.hid bel.drew
    have HN := Lib.hid (show (List.drop 1 x.1).any (isDef d.2) = nestB d.2 x from rfl)
    clear hW h hz hL h' hz' s1 s2 k1 k2 bel hrd hll ep hp hl1 h1 rA rB
    go_enter Try.func81, Try.ntmps81
    go_wp2_with fail
    rw [← HW.out]
    go_region_held3 (fun w' => w'.cell? ⟨w.heap.size, 0, none⟩ = some a ∧ w'.cell? ⟨w.heap.size, 1, none⟩ = some v ∧ w'.cell? ⟨w.heap.size + 1, 0, none⟩ = some (.slice (some ⟨b, off, none⟩) 1 1))
      (go_keep)
      (first
        | (go_at_call 68; refine (L.out W.drew HB.out).mono ?_; rintro e w1 ⟨he, bb⟩; rw [HN.out] at he; subst he; have F := Lib.hid (next_trans HB.out bb); have e0 : w1.cell? ⟨w.heap.size, 0, none⟩ = some a := (bb.cell (p := ⟨w.heap.size, 0, none⟩) lt0).trans d0; have e1 : w1.cell? ⟨w.heap.size, 1, none⟩ = some v := (bb.cell (p := ⟨w.heap.size, 1, none⟩) lt0).trans d1; have e2 : w1.cell? ⟨w.heap.size + 1, 0, none⟩ = some (.slice (some ⟨b, off, none⟩) 1 1) := (bb.cell (p := ⟨w.heap.size + 1, 0, none⟩) lt1).trans d2; clear bb))
    clear L d0 d1 d2 e0 e1 e2
    generalize nestB d.2 x = z at *
    go_wp2
    go_ret
    exact ⟨rfl, F.out⟩
  · have hrd : Rd w w.heap.size sI [.slice (some ⟨b, off + 1, none⟩) (n1 - 1) (c1 - 1)] (x.1.drop 1) := rd_ints.2 ⟨_, _, _, rfl, cut, by have := k1.1; omega, by have := k1.2.1; omega, fun e => by cases e⟩
    clear cut
    have L := Lib.hid (fun (w1 : World) (bb : Below w.heap.size w w1) => containsFuncI 97 #[.agg #[a, v]] #[] (fun _ _ => rfl) (isDef d.2) (some ⟨b, off + 1, none⟩) (n1 - 1) (c1 - 1) (x.1.drop 1) w1
      (fun W' y hW' _ => defines_ a v d y W' (h.next (next_trans bb hW')) hz hL) (hrd.next bb) hll (by omega))
    have hmf := makeFn
    have HB := Lib.hid bel.drew
    have HN := Lib.hid (show (List.drop 1 x.1).any (isDef d.2) = nestB d.2 x from rfl)
    clear hW h hz hL h' hz' s1 s2 k1 k2 bel hrd hll ep hp hl1 h1 rA rB
    go_enter Try.func81, Try.ntmps81
    go_wp2_with fail
    rw [← HW.out]
    go_region_held3 (fun w' => w'.cell? ⟨w.heap.size, 0, none⟩ = some a ∧ w'.cell? ⟨w.heap.size, 1, none⟩ = some v ∧ w'.cell? ⟨w.heap.size + 1, 0, none⟩ = some (.slice (some ⟨b, off, none⟩) n1 c1))
      (go_keep)
      (first
        | (go_at_call 68; refine (L.out W.drew HB.out).mono ?_; rintro e w1 ⟨he, bb⟩; rw [HN.out] at he; subst he; have F := Lib.hid (next_trans HB.out bb); have e0 : w1.cell? ⟨w.heap.size, 0, none⟩ = some a := (bb.cell (p := ⟨w.heap.size, 0, none⟩) lt0).trans d0; have e1 : w1.cell? ⟨w.heap.size, 1, none⟩ = some v := (bb.cell (p := ⟨w.heap.size, 1, none⟩) lt0).trans d1; have e2 : w1.cell? ⟨w.heap.size + 1, 0, none⟩ = some (.slice (some ⟨b, off, none⟩) n1 c1) := (bb.cell (p := ⟨w.heap.size + 1, 0, none⟩) lt1).trans d2; clear bb))
    clear L d0 d1 d2 e0 e1 e2
    generalize nestB d.2 x = z at *
    go_wp2
    go_ret
    exact ⟨rfl, F.out⟩

/-! ### collapses, repeats -/
set_option maxHeartbeats 1000000 in
theorem collapses_ (l r : Value) (x : Dat sRule) (w : World) (h : Rd w w.heap.size sRule [l, r] x) (hz : sz sRule x ≤ 1048576) (h1 : 1 ≤ x.2.length) :
    Calls Try.prog 78 #[.agg #[l, r]] w (AnsB w (fallsB x)) := by
  obtain ⟨A1, n1, c1, A2, n2, c2, rfl, rfl, s1, k1, s2, k2, hn1, hn2⟩ := rd_rule h hz
  rw [s2.1] at h1
  obtain ⟨b, off, p, rfl, hbB, hp, ep⟩ := s2.spot (k := 0) (by omega)
  obtain ⟨W1, hW, rA, bel⟩ := box1 w 35 #[.slice A1 n1 c1, .slice (some ⟨b, off, none⟩) n2 c2]
  have hp1 : W1.cell? ⟨b, off, none⟩ = some (.int .i64 p) := by have := (bel.cell (p := ⟨b, off + 0, none⟩) hbB).trans hp; simpa using this
  have E := Lib.hid (show fallsB x = decide (p < 0) by unfold fallsB hd; rw [ep.out])
  have i0 : (0 : Int) < (n2 : Int) := by omega
  rw [hW] at hp1
  have HB := Lib.hid bel
  have HW := Lib.hid hW
  clear h hz s1 s2 k1 k2 rA bel ep hp hW
  go_enter Try.func78, Try.ntmps78
  go_wp2_with fail
  generalize decide (p < 0) = z at *
  go_wp2
  go_ret
  exact ⟨by rw [E.out]; rfl, by rw [← HW.out]; exact HB.out⟩

set_option maxHeartbeats 1000000 in
theorem repeats_ (a l r : Value) (sg : List Int) (x : Dat sRule) (w : World) (h0 : Rd w w.heap.size sI [a] sg) (hz0 : sz sI sg ≤ 1048576) (h : Rd w w.heap.size sRule [l, r] x) (hz : sz sRule x ≤ 1048576) :
    Calls Try.prog 76 #[.agg #[a], .agg #[l, r]] w (AnsB w (!linearB sg x.1)) := by
  obtain ⟨A, n, c, rfl, hs, hc⟩ := rd_ints.1 h0
  have hn := len_ints hs.1 hz0
  obtain ⟨A1, n1, c1, A2, n2, c2, rfl, rfl, s1, k1, s2, k2, hn1, hn2⟩ := rd_rule h hz
  obtain ⟨W, hW, rA, rB, bel⟩ := box2 w 26 35 #[.slice A n c] #[.slice A1 n1 c1, .slice A2 n2 c2]
  have L := Lib.hid (implLinearIn A A1 n c n1 c1 sg x.1 W (hs.next bel) (s1.next bel) hn hn1)
  have HW := Lib.hid hW
  clear h0 hz0 h hz hs hc s1 k1 s2 k2 hW
  go_enter Try.func76, Try.ntmps76
  go_wp2_with fail
  rw [← HW.out]
  refine L.out.mono ?_
  rintro e w1 ⟨rfl, bb⟩
  have F := Lib.hid (next_trans bel bb)
  clear bel bb rA rB L
  generalize linearB sg x.1 = z at *
  go_wp2
  go_ret
  exact ⟨rfl, F.out⟩

/-! ### duplicates -/
/-- as the program counts -/
def moreI (sg : List Int) (x : Rl) (y : Int) : Bool := decide (y < 0 ∧ countI sg x.1 y < countI sg x.2 y)
theorem more_same {sg : List Int} {x : Rl} (h : ruleOkB sg x = true) (y : Int) : moreI sg x y = moreB x y := by
  have h1 := rule_parts h
  unfold moreI moreB countI many
  rw [if_pos h1.1, if_pos h1.2.1]
  exact decide_eq_decide.2 ⟨fun h => ⟨h.1, by omega⟩, fun h => ⟨h.1, by omega⟩⟩

set_option maxHeartbeats 4000000 in
theorem dupNew (gs gr : Nat) (A : Option Addr) (n c : Nat) (A1 : Option Addr) (n1 c1 : Nat) (A2 : Option Addr) (n2 c2 : Nat) (sg : List Int) (x : Rl) (y : Int) (W : World) (r0 : Row W gs 26 #[.slice A n c]) (r1 : Row W gr 35 #[.slice A1 n1 c1, .slice A2 n2 c2])
    (hs : Seg W W.heap.size A n sg) (hn : n ≤ 1048576) (s1 : Seg W W.heap.size A1 n1 x.1) (hn1 : n1 ≤ 1048576) (s2 : Seg W W.heap.size A2 n2 x.2) (hn2 : n2 ≤ 1048576) (y0 : -9223372036854775808 ≤ y) (y1 : y ≤ 9223372036854775807) :
    Calls Try.prog 109 #[.int .i64 y, .pointer (some ⟨gs, 0, none⟩), .pointer (some ⟨gr, 0, none⟩)] W (AnsB W (moreI sg x y)) := by
  by_cases hy : y < 0
  · have hd : decide (y < 0) = true := decide_eq_true hy
    have L1 := Lib.hid (implCountOf A A2 n c n2 c2 sg x.2 y W.drew hs.drew s2.drew hn hn2 y0 y1)
    have L2 := Lib.hid (fun (w1 : World) (bb : Below W.heap.size W w1) => implCountOf A A1 n c n1 c1 sg x.1 y w1 (hs.next bb) (s1.next bb) hn hn1 y0 y1)
    have E := Lib.hid (show moreI sg x y = decide (countI sg x.1 y < countI sg x.2 y) by unfold moreI; exact decide_eq_decide.2 ⟨fun h => h.2, fun h => ⟨hy, h⟩⟩)
    have q0 : W.drew.cell? ⟨gs, 0, none⟩ = some (.slice A n c) := r0.cell 0
    have q1 : W.drew.cell? ⟨gr, 0, none⟩ = some (.slice A1 n1 c1) := r1.cell 0
    have q2 : W.drew.cell? ⟨gr, 1, none⟩ = some (.slice A2 n2 c2) := r1.cell 1
    clear hs s1 s2
    go_enter Try.func109, Try.ntmps109
    go_wp2_with fail
    go_region_held3 (fun w' => w'.cell? ⟨gs, 0, none⟩ = some (.slice A n c) ∧ w'.cell? ⟨gr, 0, none⟩ = some (.slice A1 n1 c1) ∧ w'.cell? ⟨gr, 1, none⟩ = some (.slice A2 n2 c2))
      (go_keep)
      (first
        | (go_at_call_of 110 (Value.slice A2 n2 c2); refine L1.out.mono ?_; rintro e w1 ⟨rfl, bb⟩; have b1 := (Go.Proofs.Ytdkjafjphgcbjaa.kinds.drew_below W).trans (show Below W.heap.size W.drew w1 from bb); have p0 : w1.cell? ⟨gs, 0, none⟩ = some (.slice A n c) := (r0.next b1).cell 0; have p1 : w1.cell? ⟨gr, 0, none⟩ = some (.slice A1 n1 c1) := (r1.next b1).cell 0; have p2 : w1.cell? ⟨gr, 1, none⟩ = some (.slice A2 n2 c2) := (r1.next b1).cell 1; clear bb)
        | (go_at_call_of 110 (Value.slice A1 n1 c1); refine (L2.out w1 b1).mono ?_; rintro e w2 ⟨rfl, bb⟩; have b2 := next_trans b1 bb; have p3 : w2.cell? ⟨gs, 0, none⟩ = some (.slice A n c) := (r0.next b2).cell 0; have p4 : w2.cell? ⟨gr, 0, none⟩ = some (.slice A1 n1 c1) := (r1.next b2).cell 0; have p5 : w2.cell? ⟨gr, 1, none⟩ = some (.slice A2 n2 c2) := (r1.next b2).cell 1; clear bb))
    have F := Lib.hid b2
    clear b1 b2 p0 p1 p2 p3 p4 p5 r0 r1 L1 L2 q0 q1 q2
    generalize countI sg x.1 y = z1 at *
    generalize countI sg x.2 y = z2 at *
    go_wp2
    go_ret
    exact ⟨by rw [E.out]; rfl, F.out⟩
  · have hd : decide (y < 0) = false := decide_eq_false hy
    have E := Lib.hid (show moreI sg x y = false by unfold moreI; exact decide_eq_false (fun h => hy h.1))
    have q0 : W.drew.cell? ⟨gs, 0, none⟩ = some (.slice A n c) := r0.cell 0
    have q1 : W.drew.cell? ⟨gr, 0, none⟩ = some (.slice A1 n1 c1) := r1.cell 0
    have q2 : W.drew.cell? ⟨gr, 1, none⟩ = some (.slice A2 n2 c2) := r1.cell 1
    have F := Lib.hid (fun d' : Nat => below_drewN (Below.refl W.heap.size W) d')
    clear hs s1 s2 r0 r1
    go_enter Try.func109, Try.ntmps109
    go_wp2_with fail
    go_quiet (fail)
    go_wp2
    go_ret
    exact ⟨by rw [E.out]; rfl, F.out _⟩

set_option maxHeartbeats 2000000 in
theorem duplicates_ (a l r : Value) (sg : List Int) (x : Dat sRule) (w : World) (h0 : Rd w w.heap.size sI [a] sg) (hz0 : sz sI sg ≤ 1048576) (h : Rd w w.heap.size sRule [l, r] x) (hz : sz sRule x ≤ 1048576) (hx : ∀ y : Int, y ∈ (x.2 : List Int) → -24 ≤ y ∧ y < 8) :
    Calls Try.prog 77 #[.agg #[a], .agg #[l, r]] w (AnsB w (x.2.any (moreI sg x))) := by
  have g1 := (parts_Rule h).2
  obtain ⟨A, n, c, rfl, hs, hc⟩ := rd_ints.1 h0
  have hn := len_ints hs.1 hz0
  obtain ⟨A1, n1, c1, A2, n2, c2, rfl, rfl, s1, k1, s2, k2, hn1, hn2⟩ := rd_rule h hz
  obtain ⟨W, hW, rA, rB, bel⟩ := box2 w 26 35 #[.slice A n c] #[.slice A1 n1 c1, .slice A2 n2 c2]
  have L := Lib.hid (containsFuncI 109 #[] #[.pointer (some ⟨w.heap.size, 0, none⟩), .pointer (some ⟨w.heap.size + 1, 0, none⟩)] (fun _ _ => rfl) (moreI sg x) A2 n2 c2 x.2 W
    (fun W' (y : Int) hW' hy => dupNew w.heap.size (w.heap.size + 1) A n c A1 n1 c1 A2 n2 c2 sg x y W' (rA.next hW') (rB.next hW') (hs.next (next_trans bel hW')) hn (s1.next (next_trans bel hW')) hn1 (s2.next (next_trans bel hW')) hn2 (by have := hx y hy; omega) (by have := hx y hy; omega)) (g1.next bel) s2.1 hn2)
  have hmf := makeFn
  have HW := Lib.hid hW
  clear h0 hz0 h hz hs hc s1 k1 s2 k2 hW rA rB g1 hx
  go_enter Try.func77, Try.ntmps77
  go_wp2_with fail
  rw [← HW.out]
  refine L.out.mono ?_
  rintro e w1 ⟨rfl, bb⟩
  have F := Lib.hid (next_trans bel bb)
  clear bel bb L
  generalize List.any x.2 (moreI sg x) = z at *
  go_wp2
  go_ret
  exact ⟨rfl, F.out⟩
end Go.Proofs.Ytdkjafjphgcbjaa.ruleImpl
end

section
/-
  CONTRACTS: spec.l6SameRule, SameSystem, LeftLinearIn, CollapsingIn, l6Doubles, DuplicatingIn. Conditions: the arguments read as data ('Rd'), at most 1048576 numbers. By an AI agent.
-/
namespace Go.Proofs.Ytdkjafjphgcbjaa.ruleSpec
open Go.RowKit Go.Proofs.Ytdkjafjphgcbjaa.base Go.Proofs.Ytdkjafjphgcbjaa.ints Go.Proofs.Ytdkjafjphgcbjaa.sig Go.Proofs.Ytdkjafjphgcbjaa.term Go.Proofs.Ytdkjafjphgcbjaa.termOk Go.Proofs.Ytdkjafjphgcbjaa.marks Go.Proofs.Ytdkjafjphgcbjaa.app Go.Proofs.Ytdkjafjphgcbjaa.sym Go.Proofs.Ytdkjafjphgcbjaa.segs Go.Proofs.Ytdkjafjphgcbjaa.termFacts Go.Proofs.Ytdkjafjphgcbjaa.varsMath Go.Proofs.Ytdkjafjphgcbjaa.varsOf Go.Proofs.Ytdkjafjphgcbjaa.rename Go.Proofs.Ytdkjafjphgcbjaa.same Go.Proofs.Ytdkjafjphgcbjaa.count Go.Proofs.Ytdkjafjphgcbjaa.linear Go.Proofs.Ytdkjafjphgcbjaa.shape Go.Proofs.Ytdkjafjphgcbjaa.kindsR Go.Proofs.Ytdkjafjphgcbjaa.ruleMath
set_option maxRecDepth 100000

theorem same_noL {x y : Rl} (h : decide (x.1 = y.1) = false) : sameRB x y = false := by
  unfold sameRB
  exact decide_eq_false fun e => (of_decide_eq_false h) (by rw [e])
theorem same_L {x y : Rl} (h : decide (x.1 = y.1) = true) : sameRB x y = decide (x.2 = y.2) := by
  unfold sameRB
  have h := of_decide_eq_true h
  exact decide_eq_decide.2 ⟨fun e => by rw [e], fun e => by obtain ⟨x1, x2⟩ := x; obtain ⟨y1, y2⟩ := y; simp_all⟩

set_option maxHeartbeats 4000000 in
theorem specSameRule (l r l' r' : Value) (x y : Dat sRule) (w : World) (h : Rd w w.heap.size sRule [l, r] x) (h' : Rd w w.heap.size sRule [l', r'] y) (hz : sz sRule x ≤ 1048576) (hz' : sz sRule y ≤ 1048576) :
    Calls Try.prog 87 #[.agg #[l, r], .agg #[l', r']] w (AnsB w (sameRB x y)) := by
  obtain ⟨A1, n1, c1, A2, n2, c2, rfl, rfl, s1, k1, s2, k2, hn1, hn2⟩ := rd_rule h hz
  obtain ⟨B1, m1, e1, B2, m2, e2, rfl, rfl, t1, q1, t2, q2, hm1, hm2⟩ := rd_rule h' hz'
  obtain ⟨W, hW, rA, rB, bel⟩ := box2 w 35 35 #[.slice A1 n1 c1, .slice A2 n2 c2] #[.slice B1 m1 e1, .slice B2 m2 e2]
  have HW := Lib.hid hW
  have L1 := Lib.hid (specSame A1 B1 n1 m1 c1 e1 x.1 y.1 W (s1.next bel) (t1.next bel) hn1 hm1)
  have L2 := Lib.hid (fun (w1 : World) (bb : Below w.heap.size w w1) => specSame A2 B2 n2 m2 c2 e2 x.2 y.2 w1 (s2.next bb) (t2.next bb) hn2 hm2)
  clear hW h h' hz hz' k1 k2 q1 q2 s1 s2 t1 t2
  cases ok1 : decide (x.1 = y.1) with
  | false =>
    have HS := Lib.hid ok1
    clear ok1
    go_enter Try.func87, Try.ntmps87
    go_wp2_with fail
    rw [← HW.out]
    refine L1.out.mono ?_
    rintro e w1 ⟨he, d, rfl⟩
    rw [HS.out] at he
    subst he
    have F := Lib.hid (ansB (b := sameRB x y) (a := false) (by rw [same_noL HS.out]) (below_drewN bel d))
    clear bel rA rB
    go_wp2
    go_ret
    exact F.out
  | true =>
    have HS := Lib.hid ok1
    clear ok1
    go_enter Try.func87, Try.ntmps87
    go_wp2_with fail
    rw [← HW.out]
    refine L1.out.mono ?_
    rintro e w1 ⟨he, d, hw1⟩
    rw [HS.out] at he
    subst he
    have rA1 : Row w1 w.heap.size 35 #[.slice A1 n1 c1, .slice A2 n2 c2] := by rw [hw1]; exact rA.drewN d
    have rB1 : Row w1 (w.heap.size + 1) 35 #[.slice B1 m1 e1, .slice B2 m2 e2] := by rw [hw1]; exact rB.drewN d
    have bel1 : Below w.heap.size w w1 := by rw [hw1]; exact below_drewN bel d
    have cA : w1.cell? ⟨w.heap.size, 1, none⟩ = some (.slice A2 n2 c2) := rA1.cell 1
    have cB : w1.cell? ⟨w.heap.size + 1, 1, none⟩ = some (.slice B2 m2 e2) := rB1.cell 1
    clear hw1 L1 rA rB bel
    go_wp2_with fail
    refine (L2.out w1 bel1).mono ?_
    rintro e w2 ⟨he, d2, rfl⟩
    rw [← same_L HS.out] at he
    subst he
    have F := Lib.hid (ansB (b := sameRB x y) (a := sameRB x y) rfl (below_drewN bel1 d2))
    clear bel1 rA1 rB1 cA cB L2
    go_wp2
    go_ret
    exact F.out

/-! ### SameSystem -/
def HeadSS (w : World) (T : TypeId) (cs cs' : Array Value) (n : Nat) (rs rs' : List Rl) (i : Value) (wr : World) : Prop :=
  ∃ k : Nat, k ≤ n ∧ i = .int .i64 k ∧ (∀ j, j < k → rs.getD j ([], []) = rs'.getD j ([], [])) ∧ Row wr w.heap.size T cs ∧ Row wr (w.heap.size + 1) T cs' ∧ Below w.heap.size w wr
theorem headSS_step {w wr : World} {T : TypeId} {cs cs' : Array Value} {n k : Nat} {rs rs' : List Rl} {x y : Rl} (hk : k < n) (hlow : ∀ j, j < k → rs.getD j ([], []) = rs'.getD j ([], [])) (ex : Hid (rs.getD k ([], []) = x)) (ey : Hid (rs'.getD k ([], []) = y)) (h : sameRB x y = true) (hr : Row wr w.heap.size T cs) (hr' : Row wr (w.heap.size + 1) T cs') (hb : Below w.heap.size w wr) : HeadSS w T cs cs' n rs rs' (.int .i64 ((k : Int) + 1)) wr :=
  ⟨k + 1, hk, by simp, fun j hj => by
    by_cases e : j = k
    · subst e; rw [ex.out, ey.out]; exact of_decide_eq_true h
    · exact hlow j (by omega), hr, hr', hb⟩
theorem ss_sig {sg sg' : List Int} {rs rs' : List Rl} (h : decide (sg = sg') = false) : sameSB sg sg' rs rs' = false := by unfold sameSB; rw [h]; simp
theorem ss_len {sg sg' : List Int} {rs rs' : List Rl} {n m : Nat} (hn : rs.length = n) (hm : rs'.length = m) (h : n ≠ m) : sameSB sg sg' rs rs' = false := by
  unfold sameSB
  rw [decide_eq_false (p := rs = rs') (fun e => by rw [e] at hn; omega)]; simp
theorem ss_rule {sg sg' : List Int} {rs rs' : List Rl} {k : Nat} {x y : Rl} (ex : rs.getD k ([], []) = x) (ey : rs'.getD k ([], []) = y) (h : sameRB x y = false) : sameSB sg sg' rs rs' = false := by
  unfold sameSB
  rw [decide_eq_false (p := rs = rs') (fun e => by rw [e] at ex; exact (of_decide_eq_false h) (by rw [← ex, ← ey]))]; simp
theorem ss_yes {sg sg' : List Int} {rs rs' : List Rl} {n : Nat} (h1 : sysOkB sg rs = true) (h2 : decide (sg = sg') = true) (hn : rs.length = n) (hm : rs'.length = n) (h : ∀ j, j < n → rs.getD j ([], []) = rs'.getD j ([], [])) : sameSB sg sg' rs rs' = true := by
  unfold sameSB
  rw [h1, h2, decide_eq_true (lists_eq (by omega) (fun j hj => h j (by omega)))]; rfl
theorem ss_no {sg sg' : List Int} {rs rs' : List Rl} (h : sysOkB sg rs = false) : sameSB sg sg' rs rs' = false := by unfold sameSB; rw [h]; rfl

set_option maxHeartbeats 8000000 in
theorem specSameSystem (a v a' v' : Value) (d d' : Dat sSystem) (w : World) (h : Rd w w.heap.size sSystem [a, v] d) (h' : Rd w w.heap.size sSystem [a', v'] d') (hz : sz sSystem d ≤ 1048576) (hz' : sz sSystem d' ≤ 1048576) :
    Calls Try.prog 47 #[.agg #[a, v], .agg #[a', v']] w (AnsB w (sameSB d.1 d'.1 d.2 d'.2)) := by
  have S1 := fun (w1 : World) (bb : Below w.heap.size w w1) => specSystemOk a v d w1 (h.next bb) hz
  have S2 := fun (w1 : World) (bb : Below w.heap.size w w1) => specSystemOk a' v' d' w1 (h'.next bb) hz'
  obtain ⟨A, n, c, V, m, cv, rfl, rfl, hs, hc, hcv, hm, hn, hm1, hrs, hsg, hE⟩ := rd_sys h hz
  obtain ⟨A', n', c', V', m', cv', rfl, rfl, hs', hc', hcv', hm', hn', hm1', hrs', hsg', hE'⟩ := rd_sys h' hz'
  obtain ⟨W, hW, rA, rB, bel⟩ := box2 w 29 29 #[.slice A n c, .slice V m cv] #[.slice A' n' c', .slice V' m' cv']
  have HW := Lib.hid hW
  have HM := Lib.hid hm
  have HM' := Lib.hid hm'
  have HE := Lib.hid hE
  have HE' := Lib.hid hE'
  have HR := Lib.hid hrs
  have HR' := Lib.hid hrs'
  have LS1 := Lib.hid (S1 W bel)
  have LS2 := Lib.hid S2
  have LT := Lib.hid (fun (w1 : World) (bb : Below w.heap.size w w1) => specSame A A' n n' c c' d.1 d'.1 w1 (hs.next bb) (hs'.next bb) hn hn')
  clear hW h h' hz hz' hs hs' hc hc' hcv hcv' hm hm' hE hE' hrs hrs' hsg hsg' S1 S2
  cases ok1 : sysOkB d.1 d.2 with
  | false =>
    have HS := Lib.hid ok1
    clear ok1
    go_enter Try.func47, Try.ntmps47
    go_wp2_with fail
    rw [← HW.out]
    refine LS1.out.mono ?_
    rintro e w1 ⟨he, bb⟩
    rw [HS.out] at he
    subst he
    have F := Lib.hid (ansB (b := sameSB d.1 d'.1 d.2 d'.2) (a := false) (by rw [ss_no HS.out]) (next_trans bel bb))
    clear bel rA rB bb
    go_wp2
    go_ret
    exact F.out
  | true =>
    have HS := Lib.hid ok1
    clear ok1
    go_enter Try.func47, Try.ntmps47
    go_wp2_with fail
    rw [← HW.out]
    refine LS1.out.mono ?_
    rintro e w1 ⟨he, bb⟩
    rw [HS.out] at he
    subst he
    replace rA := rA.next bb
    replace rB := rB.next bb
    replace bel := next_trans bel bb
    have b0 : w1.cell? ⟨w.heap.size + 1, 0, none⟩ = some (.slice A' n' c') := rB.cell 0
    have b1 : w1.cell? ⟨w.heap.size + 1, 1, none⟩ = some (.slice V' m' cv') := rB.cell 1
    clear bb LS1
    go_wp2_with fail
    refine (LS2.out w1 bel).mono ?_
    cases ok2 : sysOkB d'.1 d'.2 with
    | false =>
      have HS2 := Lib.hid ok2
      clear ok2
      rintro e w2 ⟨he, bb⟩
      subst he
      have F := Lib.hid (ansB (b := sameSB d.1 d'.1 d.2 d'.2) (a := false) (by rw [same_sys HS2.out]) (next_trans bel bb))
      clear bel rA rB bb b0 b1
      go_wp2
      go_ret
      exact F.out
    | true =>
      have HS2 := Lib.hid ok2
      clear ok2
      rintro e w2 ⟨he, bb⟩
      subst he
      replace rA := rA.next bb
      replace rB := rB.next bb
      replace bel := next_trans bel bb
      have a0 : w2.cell? ⟨w.heap.size, 0, none⟩ = some (.slice A n c) := rA.cell 0
      have b0' : w2.cell? ⟨w.heap.size + 1, 0, none⟩ = some (.slice A' n' c') := rB.cell 0
      clear bb LS2 b0 b1
      go_wp2_with fail
      refine (LT.out w2 bel).mono ?_
      cases ok3 : decide (d.1 = d'.1) with
      | false =>
        have HS3 := Lib.hid ok3
        clear ok3
        rintro e w3 ⟨he, dd, rfl⟩
        rw [HS3.out] at he
        subst he
        have F := Lib.hid (ansB (b := sameSB d.1 d'.1 d.2 d'.2) (a := false) (by rw [ss_sig HS3.out]) (below_drewN bel dd))
        clear bel rA rB a0 b0'
        go_wp2
        go_ret
        exact F.out
      | true =>
        have HS3 := Lib.hid ok3
        clear ok3
        rintro e w3 ⟨he, dd, hw3⟩
        rw [HS3.out] at he
        subst he
        replace rA := rA.drewN dd
        replace rB := rB.drewN dd
        replace bel := below_drewN bel dd
        rw [← hw3] at rA rB bel
        have a1 : w3.cell? ⟨w.heap.size, 1, none⟩ = some (.slice V m cv) := rA.cell 1
        have b1 : w3.cell? ⟨w.heap.size + 1, 1, none⟩ = some (.slice V' m' cv') := rB.cell 1
        clear a0 b0' hw3 LT
        by_cases hmm : m = m'
        · subst hmm
          have H0 : Hid (HeadSS w 29 #[.slice A n c, .slice V m cv] #[.slice A' n' c', .slice V' m cv'] m d.2 d'.2 (.int .i64 0) w3) := Lib.hid ⟨0, Nat.zero_le _, rfl, fun j hj => absurd hj (Nat.not_lt_zero _), rA, rB, bel⟩
          clear rA rB bel
          go_wp2_with fail
          go_loopw [5] (fun i wr => HeadSS w 29 #[.slice A n c, .slice V m cv] #[.slice A' n' c', .slice V' m cv'] m d.2 d'.2 i wr) (fun i _ => m - (intOf i).toNat)
          case atStart => exact H0.out
          case round =>
            obtain ⟨k, hk, rfl, hlow, rr, rr', hb⟩ := hrel
            have HLOW := Lib.hid hlow
            clear hlow H0 a1 b1
            by_cases hlt : k < m
            · obtain ⟨b, off, l, r, x, rfl, hbB, ex, hc0, hc1, hx⟩ := rd_at HR.out hb HM.out hlt
              obtain ⟨b', off', l', r', y, rfl, hbB', ey, hc0', hc1', hy⟩ := rd_at HR'.out hb HM'.out hlt
              have a1 : wr.cell? ⟨w.heap.size, 1, none⟩ = some (.slice (some ⟨b, off, none⟩) m cv) := rr.cell 1
              have b1 : wr.cell? ⟨w.heap.size + 1, 1, none⟩ = some (.slice (some ⟨b', off', none⟩) m cv') := rr'.cell 1
              have hzx : sz sRule x ≤ 1048576 := by have := HE.out k hlt; rw [ex.out] at this; exact this
              have hzy : sz sRule y ≤ 1048576 := by have := HE'.out k hlt; rw [ey.out] at this; exact this
              have L := Lib.hid (specSameRule l r l' r' x y wr.drew ((hx.more hb.size).keep (fun _ _ => rfl)) ((hy.more hb.size).keep (fun _ _ => rfl)) hzx hzy)
              have i0 : (0 : Int) ≤ (k : Int) := by omega
              have i1 : (k : Int) < (m : Int) := by omega
              have hbr : b < wr.drew.heap.size := Nat.lt_of_lt_of_le hbB hb.size
              have hbr' : b' < wr.drew.heap.size := Nat.lt_of_lt_of_le hbB' hb.size
              have rd := rr.drew
              have rd' := rr'.drew
              have hbd := hb.drew
              clear hx hy rr rr' hb hzx hzy
              cases ok : sameRB x y with
              | false =>
                have HO := Lib.hid ok
                clear ok
                have BAD := Lib.hid (show sameSB d.1 d'.1 d.2 d'.2 = false from ss_rule ex.out ey.out HO.out)
                go_wp2_with fail
                go_region_held3 (fun w' => w'.cell? ⟨w.heap.size, 1, none⟩ = some (.slice (some ⟨b, off, none⟩) m cv) ∧ w'.cell? ⟨w.heap.size + 1, 1, none⟩ = some (.slice (some ⟨b', off', none⟩) m cv') ∧ w'.cell? ⟨b, off + k * 2, none⟩ = some l ∧ w'.cell? ⟨b, off + k * 2 + 1, none⟩ = some r ∧ w'.cell? ⟨b', off' + k * 2, none⟩ = some l' ∧ w'.cell? ⟨b', off' + k * 2 + 1, none⟩ = some r')
                  (go_keep)
                  (first
                    | (go_at_call 87; refine L.out.mono ?_; rintro e w4 ⟨he, bb⟩; rw [HO.out] at he; subst he; have x1 : w4.cell? ⟨w.heap.size, 1, none⟩ = some (.slice (some ⟨b, off, none⟩) m cv) := (rd.next bb).cell 1; have x2 : w4.cell? ⟨w.heap.size + 1, 1, none⟩ = some (.slice (some ⟨b', off', none⟩) m cv') := (rd'.next bb).cell 1; have x3 := (bb.cell (p := ⟨b, off + k * 2, none⟩) hbr).trans hc0; have x4 := (bb.cell (p := ⟨b, off + k * 2 + 1, none⟩) hbr).trans hc1; have x5 := (bb.cell (p := ⟨b', off' + k * 2, none⟩) hbr').trans hc0'; have x6 := (bb.cell (p := ⟨b', off' + k * 2 + 1, none⟩) hbr').trans hc1'))
                have F := Lib.hid (ansB (b := sameSB d.1 d'.1 d.2 d'.2) (a := false) BAD.out.symm (next_trans hbd bb))
                clear bb rd rd' hbd L x1 x2 x3 x4 x5 x6 a1 b1 hc0 hc1 hc0' hc1'
                go_wp2
                go_ret
                exact F.out
              | true =>
                have HO := Lib.hid ok
                clear ok
                go_wp2_with fail
                go_region_held3 (fun w' => w'.cell? ⟨w.heap.size, 1, none⟩ = some (.slice (some ⟨b, off, none⟩) m cv) ∧ w'.cell? ⟨w.heap.size + 1, 1, none⟩ = some (.slice (some ⟨b', off', none⟩) m cv') ∧ w'.cell? ⟨b, off + k * 2, none⟩ = some l ∧ w'.cell? ⟨b, off + k * 2 + 1, none⟩ = some r ∧ w'.cell? ⟨b', off' + k * 2, none⟩ = some l' ∧ w'.cell? ⟨b', off' + k * 2 + 1, none⟩ = some r')
                  (go_keep)
                  (first
                    | (go_at_call 87; refine L.out.mono ?_; rintro e w4 ⟨he, bb⟩; rw [HO.out] at he; subst he; have x1 : w4.cell? ⟨w.heap.size, 1, none⟩ = some (.slice (some ⟨b, off, none⟩) m cv) := (rd.next bb).cell 1; have x2 : w4.cell? ⟨w.heap.size + 1, 1, none⟩ = some (.slice (some ⟨b', off', none⟩) m cv') := (rd'.next bb).cell 1; have x3 := (bb.cell (p := ⟨b, off + k * 2, none⟩) hbr).trans hc0; have x4 := (bb.cell (p := ⟨b, off + k * 2 + 1, none⟩) hbr).trans hc1; have x5 := (bb.cell (p := ⟨b', off' + k * 2, none⟩) hbr').trans hc0'; have x6 := (bb.cell (p := ⟨b', off' + k * 2 + 1, none⟩) hbr').trans hc1'))
                have F := Lib.hid (headSS_step (w := w) hlt HLOW.out ex ey HO.out (rd.next bb) (rd'.next bb) (next_trans hbd bb))
                clear bb rd rd' hbd L x1 x2 x3 x4 x5 x6 a1 b1 hc0 hc1 hc0' hc1'
                go_wp2
                go_roundw
                case rel => exact F.out
                case measure => simp [intOf]; omega
            · have a1 : wr.cell? ⟨w.heap.size, 1, none⟩ = some (.slice V m cv) := rr.cell 1
              have F := Lib.hid (ansB (b := sameSB d.1 d'.1 d.2 d'.2) (a := true) (by rw [ss_yes HS.out HS3.out HM.out HM'.out (fun j hj => HLOW.out j (by omega))]) hb)
              clear rr rr' hb
              go_wp2
              go_ret
              exact F.out
        · have hne : ((m : Int) != (m' : Int)) = true := by simp; omega
          have F := Lib.hid (ansB (b := sameSB d.1 d'.1 d.2 d'.2) (a := false) (by rw [ss_len HM.out HM'.out hmm]) bel)
          clear bel rA rB
          go_wp2
          go_ret
          exact F.out

/-! ### LeftLinearIn -/
theorem ll_no {sg : List Int} {rs : List Rl} (h : sysOkB sg rs = false) : leftLinB sg rs = false := by unfold leftLinB; rw [h]; rfl
theorem ll_bad {sg : List Int} {rs : List Rl} {k : Nat} {x : Rl} (hk : k < rs.length) (ex : rs.getD k ([], []) = x) (h : linB x.1 = false) : leftLinB sg rs = false := by
  unfold leftLinB leftB
  rw [any_round hk (f := fun r => !linB r.1) (by rw [ex, h]; rfl)]; simp
theorem ll_yes {sg : List Int} {rs : List Rl} (h : sysOkB sg rs = true) (hl : ∀ j, j < rs.length → linB (rs.getD j ([], [])).1 = true) : leftLinB sg rs = true := by
  unfold leftLinB leftB
  rw [h, any_rounds (f := fun r => !linB r.1) (fun j hj => by rw [hl j hj]; rfl)]; rfl

set_option maxHeartbeats 4000000 in
theorem specLeftLinearIn (a v : Value) (d : Dat sSystem) (w : World) (h : Rd w w.heap.size sSystem [a, v] d) (hz : sz sSystem d ≤ 1048576) :
    Calls Try.prog 32 #[.agg #[a, v]] w (AnsB w (leftLinB d.1 d.2)) := by
  have S1 := fun (w1 : World) (bb : Below w.heap.size w w1) => specSystemOk a v d w1 (h.next bb) hz
  obtain ⟨A, n, c, V, m, cv, rfl, rfl, hs, hc, hcv, hm, hn, hm1, hrs, hsg, hE⟩ := rd_sys h hz
  obtain ⟨W, hW, rA, bel⟩ := box1 w 29 #[.slice A n c, .slice V m cv]
  have HW := Lib.hid hW
  have HM := Lib.hid hm
  have HE := Lib.hid hE
  have HR := Lib.hid hrs
  have LS1 := Lib.hid (S1 W bel)
  clear hW h hz hs hc hcv hm hE hrs hsg S1
  cases ok1 : sysOkB d.1 d.2 with
  | false =>
    have HS := Lib.hid ok1
    clear ok1
    go_enter Try.func32, Try.ntmps32
    go_wp2_with fail
    rw [← HW.out]
    refine LS1.out.mono ?_
    rintro e w1 ⟨he, bb⟩
    rw [HS.out] at he
    subst he
    have F := Lib.hid (ansB (b := leftLinB d.1 d.2) (a := false) (by rw [ll_no HS.out]) (next_trans bel bb))
    clear bel rA bb
    go_wp2
    go_ret
    exact F.out
  | true =>
    have HS := Lib.hid ok1
    clear ok1
    go_enter Try.func32, Try.ntmps32
    go_wp2_with fail
    rw [← HW.out]
    refine LS1.out.mono ?_
    rintro e w1 ⟨he, bb⟩
    rw [HS.out] at he
    subst he
    have H0 : Hid (HeadSy w 29 #[.slice A n c, .slice V m cv] m (fun x => linB x.1) d.2 (.int .i64 0) w1) := Lib.hid ⟨0, Nat.zero_le _, rfl, fun j hj => absurd hj (Nat.not_lt_zero _), rA.next bb, next_trans bel bb⟩
    clear rA bel bb LS1
    go_wp2_with fail
    go_loopw [3] (fun i wr => HeadSy w 29 #[.slice A n c, .slice V m cv] m (fun x => linB x.1) d.2 i wr) (fun i _ => m - (intOf i).toNat)
    case atStart => exact H0.out
    case round =>
      obtain ⟨k, hk, rfl, hlow, rr, hb⟩ := hrel
      have HLOW := Lib.hid hlow
      clear hlow H0
      by_cases hlt : k < m
      · obtain ⟨b, off, l, r, x, rfl, hbB, ex, hc0, hc1, hx⟩ := rd_at HR.out hb HM.out hlt
        have a1 : wr.cell? ⟨w.heap.size, 1, none⟩ = some (.slice (some ⟨b, off, none⟩) m cv) := rr.cell 1
        have hzx : sz sRule x ≤ 1048576 := by have := HE.out k hlt; rw [ex.out] at this; exact this
        obtain ⟨A1, n1, c1, A2, n2, c2, rfl, rfl, s1, k1, s2, k2, hn1, hn2⟩ := rd_rule hx hzx
        have L := Lib.hid (l2Linear A1 n1 c1 x.1 wr (s1.more hb.size) hn1)
        have i0 : (0 : Int) ≤ (k : Int) := by omega
        have i1 : (k : Int) < (m : Int) := by omega
        clear hx hzx s1 s2 k1 k2
        cases ok : linB x.1 with
        | false =>
          have HO := Lib.hid ok
          clear ok
          have F := Lib.hid (ansB (b := leftLinB d.1 d.2) (a := false) (by rw [ll_bad (by rw [HM.out]; exact hlt) ex.out HO.out]) hb)
          clear rr hb
          go_wp2_with fail
          refine L.out.mono ?_
          rintro e w2 ⟨rfl, he⟩
          rw [HO.out] at he
          subst he
          clear L
          go_wp2
          go_ret
          exact F.out
        | true =>
          have HO := Lib.hid ok
          clear ok
          have F := Lib.hid (headSy_step (f := fun x => linB x.1) (w := w) hlt HLOW.out ex HO.out rr hb)
          clear rr hb
          go_wp2_with fail
          refine L.out.mono ?_
          rintro e w2 ⟨rfl, he⟩
          rw [HO.out] at he
          subst he
          clear L
          go_wp2
          go_roundw
          case rel => exact F.out
          case measure => simp [intOf]; omega
      · have a1 : wr.cell? ⟨w.heap.size, 1, none⟩ = some (.slice V m cv) := rr.cell 1
        have F := Lib.hid (ansB (b := leftLinB d.1 d.2) (a := true) (by rw [ll_yes HS.out (fun j hj => HLOW.out j (by rw [HM.out] at hj; omega))]) hb)
        clear rr hb
        go_wp2
        go_ret
        exact F.out

/-! ### CollapsingIn: the system is asked in each round -/
theorem cl_no {sg : List Int} {rs : List Rl} (h : sysOkB sg rs = false) : collB sg rs = false := by unfold collB; rw [h]; rfl
theorem cl_bad {sg : List Int} {rs : List Rl} {k : Nat} {x : Rl} (h : sysOkB sg rs = true) (hk : k < rs.length) (ex : rs.getD k ([], []) = x) (h2 : fallsB x = true) : collB sg rs = true := by
  unfold collB
  rw [h, any_round hk (f := fallsB) (by rw [ex, h2])]; rfl
theorem cl_yes {sg : List Int} {rs : List Rl} (hl : ∀ j, j < rs.length → fallsB (rs.getD j ([], [])) = false) : collB sg rs = false := by
  unfold collB
  rw [any_rounds (f := fallsB) hl]; simp

set_option maxHeartbeats 4000000 in
theorem specCollapsingIn (a v : Value) (d : Dat sSystem) (w : World) (h : Rd w w.heap.size sSystem [a, v] d) (hz : sz sSystem d ≤ 1048576) :
    Calls Try.prog 34 #[.agg #[a, v]] w (AnsB w (collB d.1 d.2)) := by
  have S1 := fun (w1 : World) (bb : Below w.heap.size w w1) => specSystemOk a v d w1 (h.next bb) hz
  obtain ⟨A, n, c, V, m, cv, rfl, rfl, hs, hc, hcv, hm, hn, hm1, hrs, hsg, hE⟩ := rd_sys h hz
  obtain ⟨W, hW, rA, bel⟩ := box1 w 29 #[.slice A n c, .slice V m cv]
  have HW := Lib.hid hW
  have HM := Lib.hid hm
  have HE := Lib.hid hE
  have HR := Lib.hid hrs
  have LS := Lib.hid S1
  have H0 : Hid (HeadSy w 29 #[.slice A n c, .slice V m cv] m (fun x => !fallsB x) d.2 (.int .i64 0) W) := Lib.hid ⟨0, Nat.zero_le _, rfl, fun j hj => absurd hj (Nat.not_lt_zero _), rA, bel⟩
  clear hW h hz hs hc hcv hm hE hrs hsg S1 rA bel
  go_enter Try.func34, Try.ntmps34
  go_wp2_with fail
  rw [← HW.out]
  go_loopw [3] (fun i wr => HeadSy w 29 #[.slice A n c, .slice V m cv] m (fun x => !fallsB x) d.2 i wr) (fun i _ => m - (intOf i).toNat)
  case atStart => exact H0.out
  case round =>
    obtain ⟨k, hk, rfl, hlow, rr, hb⟩ := hrel
    have HLOW := Lib.hid hlow
    clear hlow H0
    have a0 : wr.cell? ⟨w.heap.size, 0, none⟩ = some (.slice A n c) := rr.cell 0
    have a1 : wr.cell? ⟨w.heap.size, 1, none⟩ = some (.slice V m cv) := rr.cell 1
    by_cases hlt : k < m
    · have i1 : (k : Int) < (m : Int) := by omega
      cases ok : sysOkB d.1 d.2 with
      | false =>
        have HO := Lib.hid ok
        clear ok
        go_wp2_with fail
        refine (LS.out wr hb).mono ?_
        rintro e w2 ⟨he, bb⟩
        rw [HO.out] at he
        subst he
        have F := Lib.hid (ansB (b := collB d.1 d.2) (a := false) (by rw [cl_no HO.out]) (next_trans hb bb))
        clear rr hb bb a0 a1
        go_wp2
        go_ret
        exact F.out
      | true =>
        have HO := Lib.hid ok
        have HZ := Lib.hid ((sys_parts ok).2.2)
        clear ok
        go_wp2_with fail
        refine (LS.out wr hb).mono ?_
        rintro e w2 ⟨he, bb⟩
        rw [HO.out] at he
        subst he
        replace rr := rr.next bb
        replace hb := next_trans hb bb
        obtain ⟨b, off, l, r, x, rfl, hbB, ex, hc0, hc1, hx⟩ := rd_at HR.out hb HM.out hlt
        have a1' : w2.cell? ⟨w.heap.size, 1, none⟩ = some (.slice (some ⟨b, off, none⟩) m cv) := rr.cell 1
        have hzx : sz sRule x ≤ 1048576 := by have := HE.out k hlt; rw [ex.out] at this; exact this
        have hrx : ruleOkB d.1 x = true := HZ.out x (by rw [← ex.out]; exact rl_mem (by rw [HM.out]; exact hlt))
        obtain ⟨A1, n1, c1, A2, n2, c2, rfl, rfl, s1, k1, s2, k2, hn1, hn2⟩ := rd_rule hx hzx
        have hp := (term_len (rule_parts hrx).2.1).1
        rw [s2.1] at hp
        obtain ⟨b2, off2, y, rfl, hbB2, hy, ey⟩ := s2.spot (k := 0) (by omega)
        have hy0 : w2.cell? ⟨b2, off2, none⟩ = some (.int .i64 y) := by simpa using hy
        have i2 : (0 : Int) < (n2 : Int) := by omega
        have i0 : (0 : Int) ≤ (k : Int) := by omega
        by_cases hyn : y < 0
        · have hd : decide (y < 0) = true := decide_eq_true hyn
          have F := Lib.hid (ansB (b := collB d.1 d.2) (a := true) (by rw [cl_bad HO.out (by rw [HM.out]; exact hlt) ex.out (by unfold fallsB ruleMath.hd; rw [ey.out]; exact hd)]) hb)
          clear hx hzx s1 s2 k1 k2 rr hb bb a0 a1 hrx hy ey hc0 LS
          go_wp2
          go_ret
          exact F.out
        · have hd : decide (y < 0) = false := decide_eq_false hyn
          have F := Lib.hid (headSy_step (f := fun x => !fallsB x) (w := w) hlt HLOW.out ex (by unfold fallsB ruleMath.hd; rw [ey.out, hd]; rfl) rr hb)
          clear hx hzx s1 s2 k1 k2 rr hb bb a0 a1 hrx hy ey hc0 LS
          go_wp2
          go_roundw
          case rel => exact F.out
          case measure => simp [intOf]; omega
    · have F := Lib.hid (ansB (b := collB d.1 d.2) (a := false) (by rw [cl_yes (fun j hj => by have := HLOW.out j (by rw [HM.out] at hj; omega); simpa using this)]) hb)
      clear rr hb
      go_wp2
      go_ret
      exact F.out
end Go.Proofs.Ytdkjafjphgcbjaa.ruleSpec
end

section
/-
  CONTRACTS: spec.l6Doubles, DuplicatingIn, l6Defined, DefinedIn, ConstructorsIn, ConstructorSystem, RenamedRule. Conditions: the arguments read as data ('Rd'), at most 1048576 numbers. By an AI agent.
-/
namespace Go.Proofs.Ytdkjafjphgcbjaa.ruleSpec
open Go.RowKit Go.Proofs.Ytdkjafjphgcbjaa.base Go.Proofs.Ytdkjafjphgcbjaa.ints Go.Proofs.Ytdkjafjphgcbjaa.sig Go.Proofs.Ytdkjafjphgcbjaa.term Go.Proofs.Ytdkjafjphgcbjaa.termOk Go.Proofs.Ytdkjafjphgcbjaa.marks Go.Proofs.Ytdkjafjphgcbjaa.app Go.Proofs.Ytdkjafjphgcbjaa.sym Go.Proofs.Ytdkjafjphgcbjaa.segs Go.Proofs.Ytdkjafjphgcbjaa.termFacts Go.Proofs.Ytdkjafjphgcbjaa.varsMath Go.Proofs.Ytdkjafjphgcbjaa.varsOf Go.Proofs.Ytdkjafjphgcbjaa.rename Go.Proofs.Ytdkjafjphgcbjaa.renMath Go.Proofs.Ytdkjafjphgcbjaa.same Go.Proofs.Ytdkjafjphgcbjaa.count Go.Proofs.Ytdkjafjphgcbjaa.linear Go.Proofs.Ytdkjafjphgcbjaa.shape Go.Proofs.Ytdkjafjphgcbjaa.kindsR Go.Proofs.Ytdkjafjphgcbjaa.ruleMath Go.Proofs.Ytdkjafjphgcbjaa.appAt Go.Proofs.Ytdkjafjphgcbjaa.kinds
set_option maxRecDepth 100000

/-! ### l6Doubles -/
def HeadDb (w : World) (T : TypeId) (cs : Array Value) (n : Nat) (d : Rl) (i : Value) (wr : World) : Prop :=
  ∃ k : Nat, k ≤ n ∧ i = .int .i64 k ∧ (∀ j, j < k → moreB d (d.2.getD j 0) = false) ∧ Row wr w.heap.size T cs ∧ Below w.heap.size w wr
theorem headDb_step {w wr : World} {T : TypeId} {cs : Array Value} {n k : Nat} {d : Rl} {x : Int} (hk : k < n) (hlow : ∀ j, j < k → moreB d (d.2.getD j 0) = false) (ex : Hid (d.2.getD k 0 = x)) (h : moreB d x = false) (hr : Row wr w.heap.size T cs) (hb : Below w.heap.size w wr) : HeadDb w T cs n d (.int .i64 ((k : Int) + 1)) wr :=
  ⟨k + 1, hk, by simp, fun j hj => by
    by_cases e : j = k
    · subst e; rw [ex.out]; exact h
    · exact hlow j (by omega), hr, hb⟩
theorem db_yes {d : Rl} {x : Int} (hx : x ∈ d.2) (h : moreB d x = true) : dblB d = true := List.any_eq_true.2 ⟨x, hx, h⟩
theorem db_no {d : Rl} {n : Nat} (hl : d.2.length = n) (h : ∀ j, j < n → moreB d (d.2.getD j 0) = false) : dblB d = false := by
  unfold dblB
  rw [List.any_eq_false]
  intro x hx
  obtain ⟨i, hi, rfl⟩ := List.getElem_of_mem hx
  have := h i (by omega)
  have e : d.2.getD i 0 = d.2[i] := by simp [List.getD, hi]
  rw [e] at this; simp [this]

set_option maxHeartbeats 4000000 in
theorem l6Doubles (l r : Value) (d : Dat sRule) (w : World) (h : Rd w w.heap.size sRule [l, r] d) (hz : sz sRule d ≤ 1048576) :
    Calls Try.prog 80 #[.agg #[l, r]] w (AnsB w (dblB d)) := by
  obtain ⟨A1, n1, c1, A2, n2, c2, rfl, rfl, s1, k1, s2, k2, hn1, hn2⟩ := rd_rule h hz
  obtain ⟨W, hW, rA, bel⟩ := box1 w 35 #[.slice A1 n1 c1, .slice A2 n2 c2]
  have HW := Lib.hid hW
  have HL2 := Lib.hid s2.1
  have H0 : Hid (HeadDb w 35 #[.slice A1 n1 c1, .slice A2 n2 c2] n2 d (.int .i64 0) W) := Lib.hid ⟨0, Nat.zero_le _, rfl, fun j hj => absurd hj (Nat.not_lt_zero _), rA, bel⟩
  clear hW h hz k1 k2 rA bel
  go_enter Try.func80, Try.ntmps80
  go_wp2_with fail
  rw [← HW.out]
  go_loopw [3] (fun i wr => HeadDb w 35 #[.slice A1 n1 c1, .slice A2 n2 c2] n2 d i wr) (fun i _ => n2 - (intOf i).toNat)
  case atStart => exact H0.out
  case round =>
    obtain ⟨k, hk, rfl, hlow, rr, hb⟩ := hrel
    have HLOW := Lib.hid hlow
    clear hlow H0
    have a0 : wr.cell? ⟨w.heap.size, 0, none⟩ = some (.slice A1 n1 c1) := rr.cell 0
    have a1 : wr.cell? ⟨w.heap.size, 1, none⟩ = some (.slice A2 n2 c2) := rr.cell 1
    by_cases hlt : k < n2
    · obtain ⟨b, off, y, rfl, hbB, hy0, ey⟩ := s2.spot hlt
      have hy : wr.cell? ⟨b, off + k, none⟩ = some (.int .i64 y) := (hb.cell (p := ⟨b, off + k, none⟩) hbB).trans hy0
      have hmem := mem_of_get (by rw [HL2.out]; exact hlt) ey.out
      have i0 : (0 : Int) ≤ (k : Int) := by omega
      have i1 : (k : Int) < (n2 : Int) := by omega
      have LC2 := Lib.hid (fun d' : Nat => l1Count (some ⟨b, off, none⟩) n2 c2 d.2 y (wr.drewN d') ((s2.next hb).drewN d') hn2)
      have LC1 := Lib.hid (fun d' : Nat => l1Count A1 n1 c1 d.1 y (wr.drewN d') ((s1.next hb).drewN d') hn1)
      by_cases hyn : y < 0
      · have hdy : decide (y < 0) = true := decide_eq_true hyn
        obtain ⟨p, hp⟩ : ∃ p, cnt d.2 y d.2.length = p := ⟨_, rfl⟩
        obtain ⟨q, hq⟩ : ∃ q, cnt d.1 y d.1.length = q := ⟨_, rfl⟩
        rw [hp] at LC2
        rw [hq] at LC1
        by_cases hpq : q < p
        · have M := Lib.hid (show moreB d y = true by unfold moreB many; rw [hp, hq]; exact decide_eq_true ⟨hyn, hpq⟩)
          have F := Lib.hid (fun d' : Nat => ansB (w' := wr.drewN d') (b := dblB d) (a := true) (by rw [db_yes hmem M.out]) (below_drewN hb d'))
          have hpd : decide ((q : Int) < (p : Int)) = true := decide_eq_true (by omega)
          clear s1 s2 rr hb hmem hy0 ey hp hq
          go_wp2_with fail
          go_quiet (first
            | (go_at_call_of 111 (Value.slice (some ⟨b, off, none⟩) n2 c2); exact Calls.quiet_of_same (v := .int .i64 p) ((LC2.out _).mono fun _ _ ⟨h1, h2⟩ => ⟨h2, h1.symm⟩))
            | (go_at_call_of 111 (Value.slice A1 n1 c1); exact Calls.quiet_of_same (v := .int .i64 q) ((LC1.out _).mono fun _ _ ⟨h1, h2⟩ => ⟨h2, h1.symm⟩)))
          go_wp2
          go_ret
          exact F.out _
        · have M := Lib.hid (show moreB d y = false by unfold moreB many; rw [hp, hq]; exact decide_eq_false (fun hh => hpq hh.2))
          have S := Lib.hid (fun d' : Nat => headDb_step (w := w) (wr := wr.drewN d') hlt HLOW.out ey M.out (rr.drewN d') (below_drewN hb d'))
          have hpd : decide ((q : Int) < (p : Int)) = false := decide_eq_false (by omega)
          clear s1 s2 rr hb hmem hy0 ey hp hq
          go_wp2_with fail
          go_quiet (first
            | (go_at_call_of 111 (Value.slice (some ⟨b, off, none⟩) n2 c2); exact Calls.quiet_of_same (v := .int .i64 p) ((LC2.out _).mono fun _ _ ⟨h1, h2⟩ => ⟨h2, h1.symm⟩))
            | (go_at_call_of 111 (Value.slice A1 n1 c1); exact Calls.quiet_of_same (v := .int .i64 q) ((LC1.out _).mono fun _ _ ⟨h1, h2⟩ => ⟨h2, h1.symm⟩)))
          go_wp2
          go_roundw
          case rel => exact S.out _
          case measure => simp [intOf]; omega
      · have hdy : decide (y < 0) = false := decide_eq_false hyn
        have M := Lib.hid (show moreB d y = false by unfold moreB; exact decide_eq_false (fun hh => hyn hh.1))
        have S := Lib.hid (fun d' : Nat => headDb_step (w := w) (wr := wr.drewN d') hlt HLOW.out ey M.out (rr.drewN d') (below_drewN hb d'))
        clear s1 s2 rr hb hmem hy0 ey LC1 LC2
        go_wp2_with fail
        go_quiet (fail)
        go_wp2
        go_roundw
        case rel => exact S.out _
        case measure => simp [intOf]; omega
    · have F := Lib.hid (ansB (b := dblB d) (a := false) (by rw [db_no HL2.out (fun j hj => HLOW.out j (by omega))]) hb)
      clear s1 s2 rr hb
      go_wp2
      go_ret
      exact F.out

/-! ### DuplicatingIn -/
theorem du_no {sg : List Int} {rs : List Rl} (h : sysOkB sg rs = false) : dupB sg rs = false := by unfold dupB; rw [h]; rfl
theorem du_bad {sg : List Int} {rs : List Rl} {k : Nat} {x : Rl} (h : sysOkB sg rs = true) (hk : k < rs.length) (ex : rs.getD k ([], []) = x) (h2 : dblB x = true) : dupB sg rs = true := by
  unfold dupB
  rw [h, any_round hk (f := dblB) (by rw [ex, h2])]; rfl
theorem du_yes {sg : List Int} {rs : List Rl} (hl : ∀ j, j < rs.length → dblB (rs.getD j ([], [])) = false) : dupB sg rs = false := by
  unfold dupB
  rw [any_rounds (f := dblB) hl]; simp

set_option maxHeartbeats 4000000 in
theorem specDuplicatingIn (a v : Value) (d : Dat sSystem) (w : World) (h : Rd w w.heap.size sSystem [a, v] d) (hz : sz sSystem d ≤ 1048576) :
    Calls Try.prog 33 #[.agg #[a, v]] w (AnsB w (dupB d.1 d.2)) := by
  have S1 := fun (w1 : World) (bb : Below w.heap.size w w1) => specSystemOk a v d w1 (h.next bb) hz
  obtain ⟨A, n, c, V, m, cv, rfl, rfl, hs, hc, hcv, hm, hn, hm1, hrs, hsg, hE⟩ := rd_sys h hz
  obtain ⟨W, hW, rA, bel⟩ := box1 w 29 #[.slice A n c, .slice V m cv]
  have HW := Lib.hid hW
  have HM := Lib.hid hm
  have HE := Lib.hid hE
  have HR := Lib.hid hrs
  have LS := Lib.hid S1
  have H0 : Hid (HeadSy w 29 #[.slice A n c, .slice V m cv] m (fun x => !dblB x) d.2 (.int .i64 0) W) := Lib.hid ⟨0, Nat.zero_le _, rfl, fun j hj => absurd hj (Nat.not_lt_zero _), rA, bel⟩
  clear hW h hz hs hc hcv hm hE hrs hsg S1 rA bel
  go_enter Try.func33, Try.ntmps33
  go_wp2_with fail
  rw [← HW.out]
  go_loopw [3] (fun i wr => HeadSy w 29 #[.slice A n c, .slice V m cv] m (fun x => !dblB x) d.2 i wr) (fun i _ => m - (intOf i).toNat)
  case atStart => exact H0.out
  case round =>
    obtain ⟨k, hk, rfl, hlow, rr, hb⟩ := hrel
    have HLOW := Lib.hid hlow
    clear hlow H0
    have a0 : wr.cell? ⟨w.heap.size, 0, none⟩ = some (.slice A n c) := rr.cell 0
    have a1 : wr.cell? ⟨w.heap.size, 1, none⟩ = some (.slice V m cv) := rr.cell 1
    by_cases hlt : k < m
    · have i1 : (k : Int) < (m : Int) := by omega
      cases ok : sysOkB d.1 d.2 with
      | false =>
        have HO := Lib.hid ok
        clear ok
        go_wp2_with fail
        refine (LS.out wr hb).mono ?_
        rintro e w2 ⟨he, bb⟩
        rw [HO.out] at he
        subst he
        have F := Lib.hid (ansB (b := dupB d.1 d.2) (a := false) (by rw [du_no HO.out]) (next_trans hb bb))
        clear rr hb bb a0 a1
        go_wp2
        go_ret
        exact F.out
      | true =>
        have HO := Lib.hid ok
        clear ok
        go_wp2_with fail
        refine (LS.out wr hb).mono ?_
        rintro e w2 ⟨he, bb⟩
        rw [HO.out] at he
        subst he
        replace rr := rr.next bb
        replace hb := next_trans hb bb
        obtain ⟨b, off, l, r, x, rfl, hbB, ex, hc0, hc1, hx⟩ := rd_at HR.out hb HM.out hlt
        have a1' : w2.cell? ⟨w.heap.size, 1, none⟩ = some (.slice (some ⟨b, off, none⟩) m cv) := rr.cell 1
        have hzx : sz sRule x ≤ 1048576 := by have := HE.out k hlt; rw [ex.out] at this; exact this
        have L := Lib.hid (l6Doubles l r x w2 (hx.more hb.size) hzx)
        have i0 : (0 : Int) ≤ (k : Int) := by omega
        clear hx hzx bb a0 a1 LS
        cases ok : dblB x with
        | true =>
          have HB := Lib.hid ok
          clear ok
          go_wp2_with fail
          refine L.out.mono ?_
          rintro e w3 ⟨he, bb⟩
          rw [HB.out] at he
          subst he
          have F := Lib.hid (ansB (b := dupB d.1 d.2) (a := true) (by rw [du_bad HO.out (by rw [HM.out]; exact hlt) ex.out HB.out]) (next_trans hb bb))
          clear rr hb bb L
          go_wp2
          go_ret
          exact F.out
        | false =>
          have HB := Lib.hid ok
          clear ok
          go_wp2_with fail
          refine L.out.mono ?_
          rintro e w3 ⟨he, bb⟩
          rw [HB.out] at he
          subst he
          have F := Lib.hid (headSy_step (f := fun x => !dblB x) (w := w) hlt HLOW.out ex (by rw [HB.out]; rfl) (rr.next bb) (next_trans hb bb))
          clear rr hb bb L
          go_wp2
          go_roundw
          case rel => exact F.out
          case measure => simp [intOf]; omega
    · have F := Lib.hid (ansB (b := dupB d.1 d.2) (a := false) (by rw [du_yes (fun j hj => by have := HLOW.out j (by rw [HM.out] at hj; omega); simpa using this)]) hb)
      clear rr hb
      go_wp2
      go_ret
      exact F.out

/-! ### l6Defined -/
def HeadDf (w : World) (T : TypeId) (cs : Array Value) (m : Nat) (rs : List Rl) (out i : Value) (wr : World) : Prop :=
  ∃ (k : Nat) (b off n c : Nat), k ≤ m ∧ i = .int .i64 k ∧ out = .slice (some ⟨b, off, none⟩) n c ∧ Seg wr wr.heap.size (some ⟨b, off, none⟩) n (defL (rs.take k)) ∧ n ≤ c ∧ c ≤ 9223372036854775807 ∧ Row wr w.heap.size T cs ∧ Below w.heap.size w wr

set_option maxHeartbeats 4000000 in
theorem l6Defined (a v : Value) (d : Dat sSystem) (w : World) (h : Rd w w.heap.size sSystem [a, v] d) (hz : sz sSystem d ≤ 1048576) (hok : sysOkB d.1 d.2 = true) :
    Calls Try.prog 60 #[.agg #[a, v]] w (AnsInto w (defL d.2)) := by
  obtain ⟨A, n, c, V, m, cv, rfl, rfl, hs, hc, hcv, hm, hn, hm1, hrs, hsg, hE⟩ := rd_sys h hz
  have bel : Below w.heap.size w ((w.alloc (.cells #[.slice A n c, .slice V m cv] 29)).alloc (.cells #[] 2)) := ((Below.refl _ _).alloc (Nat.le_refl _) _).alloc (by simp) _
  have rA := (Row.new w 29 #[.slice A n c, .slice V m cv]).alloc (.cells #[] 2)
  have HM := Lib.hid hm
  have HE := Lib.hid hE
  have HR := Lib.hid hrs
  have HZ := Lib.hid ((sys_parts hok).2.2)
  have H0 : Hid (HeadDf w 29 #[.slice A n c, .slice V m cv] m d.2 (.slice (some ⟨w.heap.size + 1, 0, none⟩) 0 0) (.int .i64 0) ((w.alloc (.cells #[.slice A n c, .slice V m cv] 29)).alloc (.cells #[] 2))) :=
    Lib.hid ⟨0, _, _, 0, 0, Nat.zero_le _, rfl, rfl, Seg.empty, Nat.le_refl _, by omega, rA, bel⟩
  clear h hz hs hc hcv hm hE hrs hsg rA bel hok
  go_enter Try.func60, Try.ntmps60
  go_wp2_with fail
  go_loopw [3, 4] (fun out i wr => HeadDf w 29 #[.slice A n c, .slice V m cv] m d.2 out i wr) (fun _ i _ => m - (intOf i).toNat)
  case atStart => exact H0.out
  case round =>
    obtain ⟨k, ob, oo, on, oc, hk, rfl, rfl, hseg, ho1, ho2, rr, hb⟩ := hrel
    clear H0
    have a1 : wr.cell? ⟨w.heap.size, 1, none⟩ = some (.slice V m cv) := rr.cell 1
    by_cases hlt : k < m
    · obtain ⟨b, off, l, r, x, rfl, hbB, ex, hc0, hc1, hx⟩ := rd_at HR.out hb HM.out hlt
      have hzx : sz sRule x ≤ 1048576 := by have := HE.out k hlt; rw [ex.out] at this; exact this
      have hrx := HZ.out x (by rw [← ex.out]; exact rl_mem (by rw [HM.out]; exact hlt))
      obtain ⟨A1, n1, c1, A2, n2, c2, rfl, rfl, s1, k1, s2, k2, hn1, hn2⟩ := rd_rule hx hzx
      have hp := (term_len (rule_parts hrx).1).1
      rw [s1.1] at hp
      obtain ⟨b2, off2, y, rfl, hbB2, hy, ey⟩ := s1.spot (k := 0) (by omega)
      have hy0 : wr.cell? ⟨b2, off2, none⟩ = some (.int .i64 y) := by simpa using hy
      have i2 : (0 : Int) < (n1 : Int) := by omega
      have i0 : (0 : Int) ≤ (k : Int) := by omega
      have i1 : (k : Int) < (m : Int) := by omega
      have hon : on ≤ 1048576 := by have h1 := hseg.1; have h2 := def_len (d.2.take k); rw [List.length_take] at h2; omega
      have L := Lib.hid (l1Into ob oo on oc (defL (d.2.take k)) y wr hseg ho1 ho2 hon)
      have E := Lib.hid (show defL (d.2.take (k + 1)) = into (defL (d.2.take k)) y by rw [def_take (by rw [HM.out]; exact hlt), ex.out]; unfold ruleMath.hd; rw [ey.out])
      clear hx hzx hrx s1 s2 k1 k2 hy ey ex hseg hc1
      go_wp2_with fail
      refine L.out.mono ?_
      rintro e w2 ⟨ob', oo', on', oc', rfl, hseg', h1', h2', bb⟩
      have F : HeadDf w 29 #[.slice A n c, .slice (some ⟨b, off, none⟩) m cv] m d.2 (.slice (some ⟨ob', oo', none⟩) on' oc') (.int .i64 ((k : Int) + 1)) w2 :=
        ⟨k + 1, ob', oo', on', oc', hlt, by simp, rfl, by rw [E.out]; exact hseg', h1', h2', rr.next bb, next_trans hb bb⟩
      have HF := Lib.hid F
      clear F hseg' bb rr hb L E
      go_wp2
      go_roundw
      case rel => exact HF.out
      case measure => simp [intOf]; omega
    · have F : AnsInto w (defL d.2) (.returned (.slice (some ⟨ob, oo, none⟩) on oc)) wr := ⟨ob, oo, on, oc, rfl, by rw [List.take_of_length_le (by rw [HM.out]; omega)] at hseg; exact hseg, ho1, ho2, hb⟩
      have HF := Lib.hid F
      clear F hseg rr hb
      go_wp2
      go_ret
      exact HF.out

set_option maxHeartbeats 4000000 in
theorem specDefinedIn (a v : Value) (d : Dat sSystem) (w : World) (h : Rd w w.heap.size sSystem [a, v] d) (hz : sz sSystem d ≤ 1048576) :
    Calls Try.prog 20 #[.agg #[a, v]] w (AnsSeg w (definedI d.1 d.2)) := by
  obtain ⟨W, hW, rA, bel⟩ := box1 w 29 #[a, v]
  have HW := Lib.hid hW
  have L1 := Lib.hid (specSystemOk a v d W (h.next bel) hz)
  have L2 := Lib.hid (fun (w1 : World) (bb : Below w.heap.size w w1) => l6Defined a v d w1 (h.next bb) hz)
  clear hW h hz
  cases ok : sysOkB d.1 d.2 with
  | false =>
    have HS := Lib.hid ok
    clear ok
    go_enter Try.func20, Try.ntmps20
    go_wp2_with fail
    rw [← HW.out]
    refine L1.out.mono ?_
    rintro e w1 ⟨he, bb⟩
    rw [HS.out] at he
    subst he
    have F : AnsSeg w (definedI d.1 d.2) (.returned (.slice (some ⟨w1.heap.size, 0, none⟩) 0 0)) (w1.alloc (.cells #[] 2)) :=
      ⟨_, 0, 0, rfl, by unfold definedI; rw [if_neg (by rw [HS.out]; simp)]; exact Seg.empty, (next_trans bel bb).alloc (next_trans bel bb).size _⟩
    have HF := Lib.hid F
    clear F bel rA bb
    go_wp2
    go_ret
    exact HF.out
  | true =>
    have HS := Lib.hid ok
    clear ok
    go_enter Try.func20, Try.ntmps20
    go_wp2_with fail
    rw [← HW.out]
    refine L1.out.mono ?_
    rintro e w1 ⟨he, bb⟩
    rw [HS.out] at he
    subst he
    replace rA := rA.next bb
    replace bel := next_trans bel bb
    have a0 : w1.cell? ⟨w.heap.size, 0, none⟩ = some a := rA.cell 0
    have a1 : w1.cell? ⟨w.heap.size, 1, none⟩ = some v := rA.cell 1
    clear bb L1
    go_wp2_with fail
    refine (L2.out w1 bel HS.out).mono ?_
    rintro e w2 ⟨b, off, n, c, rfl, hseg, _, _, bb⟩
    have F : AnsSeg w (definedI d.1 d.2) (.returned (.slice (some ⟨b, off, none⟩) n c)) w2 := ⟨_, n, c, rfl, by unfold definedI; rw [if_pos HS.out]; exact hseg, next_trans bel bb⟩
    have HF := Lib.hid F
    clear F bel rA bb hseg a0 a1 L2
    go_wp2
    go_ret
    exact HF.out

/-! ### ConstructorsIn -/
theorem one_row (w : World) (y : Int) : Seg (w.alloc (.cells #[.int .i64 y] 2)) (w.heap.size + 1) (some ⟨w.heap.size, 0, none⟩) 1 [y] :=
  (Row.new w 2 #[.int .i64 y]).seg rfl (by omega) (fun j hj => by
    have e : j = 0 := by omega
    subst e
    rfl)
def HeadCo (w : World) (T : TypeId) (cs : Array Value) (n : Nat) (rs : List Rl) (db dx dn : Nat) (out i : Value) (wr : World) : Prop :=
  ∃ (k : Nat) (O : Option Addr) (on oc : Nat), k ≤ n ∧ i = .int .i64 k ∧ out = .slice O on oc ∧ Own wr (w.heap.size + 1) (.slice O on oc) (symL (fun x => !isDef rs x) k) ∧ Seg wr wr.heap.size (some ⟨db, dx, none⟩) dn (defL rs) ∧ (dn = 0 ∨ blk O ≠ some db) ∧ Row wr w.heap.size T cs ∧ Below w.heap.size w wr
theorem sym_yes {p : Int → Bool} {k : Nat} (h : p (k : Int) = true) : symL p (k + 1) = symL p k ++ [(k : Int)] := by rw [symL, if_pos h]
theorem sym_no {p : Int → Bool} {k : Nat} (h : p (k : Int) = false) : symL p (k + 1) = symL p k := by rw [symL, if_neg (by rw [h]; simp), List.append_nil]

set_option maxHeartbeats 4000000 in
theorem specConstructorsIn (a v : Value) (d : Dat sSystem) (w : World) (h : Rd w w.heap.size sSystem [a, v] d) (hz : sz sSystem d ≤ 1048576) :
    Calls Try.prog 21 #[.agg #[a, v]] w (AnsSeg w (consI d.1 d.2)) := by
  have S1 := fun (w1 : World) (bb : Below w.heap.size w w1) => specSystemOk a v d w1 (h.next bb) hz
  have S2 := fun (w1 : World) (bb : Below w.heap.size w w1) => l6Defined a v d w1 (h.next bb) hz
  obtain ⟨A, n, c, V, m, cv, rfl, rfl, hs, hc, hcv, hm, hn, hm1, hrs, hsg, hE⟩ := rd_sys h hz
  obtain ⟨W, hW, rA, rO, bel⟩ := box2 w 29 2 #[.slice A n c, .slice V m cv] #[]
  have hO := own_empty (w.alloc (.cells #[.slice A n c, .slice V m cv] 29)) (w.heap.size + 1) (by simp)
  rw [← hW] at hO
  have hO : Own W (w.heap.size + 1) (.slice (some ⟨w.heap.size + 1, 0, none⟩) 0 0) [] := by simpa using hO
  have HW := Lib.hid hW
  have HN := Lib.hid hs.1
  have L1 := Lib.hid (S1 W bel)
  have L2 := Lib.hid S2
  clear hW h hz hs hc hcv hm hE hrs hsg S1 S2
  cases ok : sysOkB d.1 d.2 with
  | false =>
    have HS := Lib.hid ok
    clear ok
    go_enter Try.func21, Try.ntmps21
    go_wp2_with fail
    rw [← HW.out]
    refine L1.out.mono ?_
    rintro e w1 ⟨he, bb⟩
    rw [HS.out] at he
    subst he
    have F : AnsSeg w (consI d.1 d.2) (.returned (.slice (some ⟨w.heap.size + 1, 0, none⟩) 0 0)) w1 :=
      ⟨_, 0, 0, rfl, by unfold consI; rw [if_neg (by rw [HS.out]; simp)]; exact Seg.empty, next_trans bel bb⟩
    have HF := Lib.hid F
    clear F bel rA rO hO bb
    go_wp2
    go_ret
    exact HF.out
  | true =>
    have HS := Lib.hid ok
    clear ok
    go_enter Try.func21, Try.ntmps21
    go_wp2_with fail
    rw [← HW.out]
    refine L1.out.mono ?_
    rintro e w1 ⟨he, bb⟩
    rw [HS.out] at he
    subst he
    replace rA := rA.next bb
    replace rO := rO.next bb
    replace hO := hO.next bb
    replace bel := next_trans bel bb
    have a0 : w1.cell? ⟨w.heap.size, 0, none⟩ = some (.slice A n c) := rA.cell 0
    have a1 : w1.cell? ⟨w.heap.size, 1, none⟩ = some (.slice V m cv) := rA.cell 1
    clear bb L1
    go_wp2_with fail
    refine (L2.out w1 bel HS.out).mono ?_
    rintro e w2 ⟨db, dx, dn, dc, rfl, hseg, hd1, hd2, bb⟩
    replace rA := rA.next bb
    replace rO := rO.next bb
    replace hO := hO.next bb
    replace bel := next_trans bel bb
    have hdn : dn ≤ 1048576 := by have h1 := hseg.1; have h2 := def_len d.2; have h3 := (sys_parts HS.out).2.1; omega
    have hdis : dn = 0 ∨ blk (some ⟨w.heap.size + 1, 0, none⟩) ≠ some db := by
      by_cases h0 : dn = 0
      · exact .inl h0
      · right
        intro e
        have e : w.heap.size + 1 = db := Option.some.inj e
        obtain ⟨b', off', e2, _, hc⟩ := hseg.2 (by omega)
        injection e2 with e2
        injection e2 with e3 e4
        subst e3 e4
        have := hc 0 (by omega)
        rw [← e, rO.cell] at this
        simp at this
    have H0 : Hid (HeadCo w 29 #[.slice A n c, .slice V m cv] n d.2 db dx dn (.slice (some ⟨w.heap.size + 1, 0, none⟩) 0 0) (.int .i64 0) w2) := Lib.hid ⟨0, _, _, _, Nat.zero_le _, rfl, rfl, by simpa [symL] using hO, hseg, hdis, rA, bel⟩
    clear bb L2 rA rO hO bel hseg hdis a0 a1
    go_wp2_with fail
    go_loopw [3, 5] (fun out i wr => HeadCo w 29 #[.slice A n c, .slice V m cv] n d.2 db dx dn out i wr) (fun _ i _ => n - (intOf i).toNat)
    case atStart => exact H0.out
    case round =>
      obtain ⟨k, O, on, oc, hk, rfl, rfl, ho, hseg, hdis, rr, hb⟩ := hrel
      clear H0
      have a0 : wr.cell? ⟨w.heap.size, 0, none⟩ = some (.slice A n c) := rr.cell 0
      by_cases hlt : k < n
      · have LH := Lib.hid (l1Has (some ⟨db, dx, none⟩) dn dc (defL d.2) (k : Int) wr hseg hdn)
        have hon : on ≤ 1048576 := by have h1 := Own.len ho; have h2 := sym_len (p := fun x => !isDef d.2 x) k; omega
        have i1 : (k : Int) < (n : Int) := by omega
        cases hdf : isDef d.2 (k : Int) with
        | true =>
          have E := Lib.hid (show decide ((k : Int) ∈ defL d.2) = true by rw [← isDef_mem]; exact hdf)
          have F : HeadCo w 29 #[.slice A n c, .slice V m cv] n d.2 db dx dn (.slice O on oc) (.int .i64 ((k : Int) + 1)) wr := ⟨k + 1, O, on, oc, hlt, by simp, rfl, by rw [sym_no (by rw [hdf]; rfl)]; exact ho, hseg, hdis, rr, hb⟩
          have HF := Lib.hid F
          clear F ho hseg hdis rr hb hdf
          go_wp2_with fail
          refine LH.out.mono ?_
          rintro e w3 ⟨rfl, he⟩
          rw [E.out] at he
          subst he
          clear LH
          go_wp2
          go_roundw
          case rel => exact HF.out
          case measure => simp [intOf]; omega
        | false =>
          have E := Lib.hid (show decide ((k : Int) ∈ defL d.2) = false by rw [← isDef_mem]; exact hdf)
          have hlw := hb.size
          have hrl := rr.lt
          have ho1 := Own.alloc ho (.cells #[.int .i64 (k : Int)] 2)
          have R := Lib.hid (fun (O' : Option Addr) (oc' : Nat) (w' : World) (ho' : Own w' (w.heap.size + 1) (.slice O' (on + 1) oc') (symL (fun x => !isDef d.2 x) k ++ [(k : Int)])) (hg : (wr.alloc (.cells #[.int .i64 (k : Int)] 2)).grownBy w' (blk O)) (hat : blk O' = blk O ∨ blk O' = some (wr.alloc (.cells #[.int .i64 (k : Int)] 2)).heap.size) =>
            (show HeadCo w 29 #[.slice A n c, .slice V m cv] n d.2 db dx dn (.slice O' (on + 1) oc') (.int .i64 ((k : Int) + 1)) w' from by
              have hge := Own.ge ho
              refine ⟨k + 1, O', on + 1, oc', hlt, by simp, rfl, by rw [sym_yes (by rw [hdf]; rfl)]; exact ho', ?_, ?_, ?_, ?_⟩
              · rcases hdis with h0 | hne
                · have := hseg.1
                  have e2 : defL d.2 = [] := List.eq_nil_of_length_eq_zero (by omega)
                  rw [e2, h0]; exact Seg.empty
                · have h1 := hseg.alloc (Nat.le_refl _) (.cells #[.int .i64 (k : Int)] 2)
                  refine ⟨h1.1, fun hn0 => ?_⟩
                  obtain ⟨b', off', e2, hbb, hcc⟩ := h1.2 hn0
                  refine ⟨b', off', e2, Nat.lt_of_lt_of_le hbb (by have := hg.size; simp at this; omega), fun j hj => ?_⟩
                  injection e2 with e2
                  injection e2 with e3 e4
                  rw [← hcc j hj]
                  exact World.cell?_of_block (hg.block b' (by simp; omega) (fun e => hne (by rw [← e, e3])))
              · rcases hat with h | h
                · rw [h]; exact hdis
                · by_cases h0 : dn = 0
                  · exact .inl h0
                  · right
                    rw [h]
                    intro e
                    have e := Option.some.inj e
                    obtain ⟨b', off', e2, hbb, _⟩ := hseg.2 (by omega)
                    injection e2 with e2
                    injection e2 with e3 e4
                    simp at e
                    omega
              · exact Row.away (rr.alloc _) hg (fun e => by have := hge _ e; omega)
              · exact (hb.alloc hlw _).grown hg (by simp; omega) (fun q hq => by have := hge q hq; omega)))
          clear ho hseg hdis rr hb hdf
          go_wp2_with (first
            | (go_at_call 61; refine LH.out.mono ?_; rintro e w3 ⟨rfl, he⟩; rw [E.out] at he; subst he)
            | (at_builtin; refine appAllAt rfl _ _ rfl (w.heap.size + 1) O on oc (symL (fun x => !isDef d.2 x) k) rfl ho1 (some ⟨wr.heap.size, 0, none⟩) 1 1 (wr.heap.size + 1) [(k : Int)] rfl (one_row wr (k : Int)) (by omega) (by omega) (by omega) (by simp; omega) ?_; intro O' oc' w' ho' hg hat))
          have HF := Lib.hid (R.out O' oc' w' ho' hg hat)
          clear ho' hg hat ho1 R
          go_wp2
          go_roundw
          case rel => exact HF.out
          case measure => simp [intOf]; omega
      · have F : AnsSeg w (consI d.1 d.2) (.returned (.slice O on oc)) wr := ⟨O, on, oc, rfl, by
          have e1 : k = n := by omega
          subst e1
          unfold consI; rw [if_pos HS.out, HN.out]; exact Own.seg ho, hb⟩
        have HF := Lib.hid F
        clear F ho hseg hdis rr hb
        go_wp2
        go_ret
        exact HF.out

/-! ### ConstructorSystem -/
theorem nest_yes {rs : List Rl} {x : Rl} {j : Nat} {y : Int} (h1 : 1 ≤ j) (h2 : j < x.1.length) (e : x.1.getD j 0 = y) (h : isDef rs y = true) : nestB rs x = true := by
  unfold nestB
  rw [List.any_eq_true]
  refine ⟨y, ?_, h⟩
  rw [← e]
  obtain ⟨q, rfl⟩ : ∃ q, j = 1 + q := ⟨j - 1, by omega⟩
  have : x.1.getD (1 + q) 0 = (x.1.drop 1)[q]'(by rw [List.length_drop]; omega) := by rw [List.getElem_drop]; simp only [List.getD, List.getElem?_eq_getElem h2, Option.getD_some]
  rw [this]
  exact List.getElem_mem _
theorem nest_no {rs : List Rl} {x : Rl} (h : ∀ j, 1 ≤ j → j < x.1.length → isDef rs (x.1.getD j 0) = false) : nestB rs x = false := by
  unfold nestB
  rw [List.any_eq_false]
  intro y hy
  obtain ⟨q, hq, rfl⟩ := List.getElem_of_mem hy
  rw [List.length_drop] at hq
  have := h (1 + q) (by omega) (by omega)
  simp only [List.getElem_drop]
  have e : x.1.getD (1 + q) 0 = x.1[1 + q]'(by omega) := by simp [List.getD, show 1 + q < x.1.length by omega]
  rw [e] at this
  simp [this]
theorem cs_no {sg : List Int} {rs : List Rl} (h : sysOkB sg rs = false) : consB sg rs = false := by unfold consB; rw [h]; rfl
theorem cs_bad {sg : List Int} {rs : List Rl} {k : Nat} {x : Rl} (hk : k < rs.length) (ex : rs.getD k ([], []) = x) (h : nestB rs x = true) : consB sg rs = false := by
  unfold consB
  rw [any_round hk (f := nestB rs) (by rw [ex, h])]; simp
theorem cs_yes {sg : List Int} {rs : List Rl} (h : sysOkB sg rs = true) (hl : ∀ j, j < rs.length → nestB rs (rs.getD j ([], [])) = false) : consB sg rs = true := by
  unfold consB
  rw [h, any_rounds (f := nestB rs) hl]; rfl

set_option maxHeartbeats 8000000 in
theorem specConstructorSystem (a v : Value) (d : Dat sSystem) (w : World) (h : Rd w w.heap.size sSystem [a, v] d) (hz : sz sSystem d ≤ 1048576) :
    Calls Try.prog 36 #[.agg #[a, v]] w (AnsB w (consB d.1 d.2)) := by
  have S1 := fun (w1 : World) (bb : Below w.heap.size w w1) => specSystemOk a v d w1 (h.next bb) hz
  have S2 := fun (w1 : World) (bb : Below w.heap.size w w1) => l6Defined a v d w1 (h.next bb) hz
  obtain ⟨A, n, c, V, m, cv, rfl, rfl, hs, hc, hcv, hm, hn, hm1, hrs, hsg, hE⟩ := rd_sys h hz
  obtain ⟨W, hW, rA, bel⟩ := box1 w 29 #[.slice A n c, .slice V m cv]
  have HW := Lib.hid hW
  have HM := Lib.hid hm
  have HE := Lib.hid hE
  have HR := Lib.hid hrs
  have L1 := Lib.hid (S1 W bel)
  have L2 := Lib.hid S2
  clear hW h hz hs hc hcv hm hE hrs hsg S1 S2
  cases ok : sysOkB d.1 d.2 with
  | false =>
    have HS := Lib.hid ok
    clear ok
    go_enter Try.func36, Try.ntmps36
    go_wp2_with fail
    rw [← HW.out]
    refine L1.out.mono ?_
    rintro e w1 ⟨he, bb⟩
    rw [HS.out] at he
    subst he
    have F := Lib.hid (ansB (b := consB d.1 d.2) (a := false) (by rw [cs_no HS.out]) (next_trans bel bb))
    clear bel rA bb
    go_wp2
    go_ret
    exact F.out
  | true =>
    have HS := Lib.hid ok
    clear ok
    go_enter Try.func36, Try.ntmps36
    go_wp2_with fail
    rw [← HW.out]
    refine L1.out.mono ?_
    rintro e w1 ⟨he, bb⟩
    rw [HS.out] at he
    subst he
    replace rA := rA.next bb
    replace bel := next_trans bel bb
    have a0 : w1.cell? ⟨w.heap.size, 0, none⟩ = some (.slice A n c) := rA.cell 0
    have a1 : w1.cell? ⟨w.heap.size, 1, none⟩ = some (.slice V m cv) := rA.cell 1
    clear bb L1
    go_wp2_with fail
    refine (L2.out w1 bel HS.out).mono ?_
    rintro e w2 ⟨db, dx, dn, dc, rfl, hseg, hd1, hd2, bb⟩
    replace rA := rA.next bb
    replace bel := next_trans bel bb
    have hdn : dn ≤ 1048576 := by have h1 := hseg.1; have h2 := def_len d.2; have h3 := (sys_parts HS.out).2.1; omega
    have b1 : w2.cell? ⟨w.heap.size, 1, none⟩ = some (.slice V m cv) := rA.cell 1
    have LH := Lib.hid (fun y : Int => l1Has (some ⟨db, dx, none⟩) dn dc (defL d.2) y w2 hseg hdn)
    clear bb L2 rA hseg a0 a1 hd1 hd2
    go_wp2_with fail
    go_loopw [4] (fun i wr => ∃ k : Nat, k ≤ m ∧ i = .int .i64 k ∧ (∀ j, j < k → nestB d.2 (d.2.getD j ([], [])) = false) ∧ wr = w2) (fun i _ => m - (intOf i).toNat)
    case atStart => exact ⟨0, Nat.zero_le _, rfl, fun j hj => absurd hj (Nat.not_lt_zero _), rfl⟩
    case round =>
      obtain ⟨k, hk, rfl, hlow, hw⟩ := hrel
      subst hw
      have HLOW := Lib.hid hlow
      clear hlow
      by_cases hlt : k < m
      · obtain ⟨b, off, l, r, x, rfl, hbB, ex, hc0, hc1, hx⟩ := rd_at HR.out bel HM.out hlt
        have hzx : sz sRule x ≤ 1048576 := by have := HE.out k hlt; rw [ex.out] at this; exact this
        have hrx := (sys_parts HS.out).2.2 x (by rw [← ex.out]; exact rl_mem (by rw [HM.out]; exact hlt))
        obtain ⟨A1, n1, c1, A2, n2, c2, rfl, rfl, s1, k1, s2, k2, hn1, hn2⟩ := rd_rule hx hzx
        have hp := (term_len (rule_parts hrx).1).1
        rw [s1.1] at hp
        have HL1 := Lib.hid s1.1
        have i0 : (0 : Int) ≤ (k : Int) := by omega
        have i1 : (k : Int) < (m : Int) := by omega
        clear hx hzx hrx s2 k1 k2 hc1
        go_wp2_with fail
        go_loopw [5] (fun q wi => ∃ p : Nat, 1 ≤ p ∧ p ≤ n1 ∧ q = .int .i64 p ∧ (∀ j, 1 ≤ j → j < p → isDef d.2 (x.1.getD j 0) = false) ∧ wi = wr) (fun q _ => n1 - (intOf q).toNat)
        case atStart => exact ⟨1, Nat.le_refl _, hp, rfl, fun j h1 h2 => absurd h2 (by omega), rfl⟩
        case round =>
          obtain ⟨p, hp1, hp2, rfl, hlow2, hw2⟩ := hrel
          subst hw2
          have HLOW2 := Lib.hid hlow2
          clear hlow2
          by_cases hlt2 : p < n1
          · obtain ⟨b2, off2, y, rfl, hbB2, hy, ey⟩ := s1.spot hlt2
            have j0 : (0 : Int) ≤ (p : Int) := by omega
            have j1 : (p : Int) < (n1 : Int) := by omega
            have L := Lib.hid (LH.out y)
            cases hdf : isDef d.2 y with
            | true =>
              have E := Lib.hid (show decide (y ∈ defL d.2) = true by rw [← isDef_mem]; exact hdf)
              have F := Lib.hid (ansB (b := consB d.1 d.2) (a := false) (by rw [cs_bad (by rw [HM.out]; exact hlt) ex.out (nest_yes hp1 (by rw [HL1.out]; exact hlt2) ey.out hdf)]) bel)
              clear s1 ey hdf bel
              go_wp2_with fail
              refine L.out.mono ?_
              rintro e w4 ⟨rfl, he⟩
              rw [E.out] at he
              subst he
              clear L LH
              go_wp2
              go_ret
              exact F.out
            | false =>
              have E := Lib.hid (show decide (y ∈ defL d.2) = false by rw [← isDef_mem]; exact hdf)
              have S : Hid (∀ j, 1 ≤ j → j < p + 1 → isDef d.2 (x.1.getD j 0) = false) := Lib.hid fun j h1 h2 => by
                by_cases e : j = p
                · subst e; rw [ey.out]; exact hdf
                · exact HLOW2.out j h1 (by omega)
              clear s1 ey hdf
              go_wp2_with fail
              refine L.out.mono ?_
              rintro e w4 ⟨rfl, he⟩
              rw [E.out] at he
              subst he
              clear L LH
              go_wp2
              go_roundw
              case rel => exact ⟨p + 1, by omega, hlt2, by simp, S.out, by trivial⟩
              case measure => simp [intOf]; omega
          · have S : Hid (∀ j, j < k + 1 → nestB d.2 (d.2.getD j ([], [])) = false) := Lib.hid fun j hj => by
              by_cases e : j = k
              · subst e; rw [ex.out]; exact nest_no (fun j h1 h2 => HLOW2.out j h1 (by rw [HL1.out] at h2; omega))
              · exact HLOW.out j (by omega)
            clear s1
            go_wp2
            go_roundw
            case rel => exact ⟨k + 1, hlt, by simp, S.out, by trivial⟩
            case measure => simp [intOf]; omega
      · have F := Lib.hid (ansB (b := consB d.1 d.2) (a := true) (by rw [cs_yes HS.out (fun j hj => HLOW.out j (by rw [HM.out] at hj; omega))]) bel)
        clear bel
        go_wp2
        go_ret
        exact F.out
end Go.Proofs.Ytdkjafjphgcbjaa.ruleSpec
end

section
/-
  CONTRACTS: impl.LeftLinearIn, CollapsingIn, DuplicatingIn, ConstructorSystem, system.symbols, DefinedIn, ConstructorsIn. Conditions: the arguments read as data ('Rd'), at most 1048576 numbers. (By wip/tools/mkrulefin.py.) By an AI agent.
-/
namespace Go.Proofs.Ytdkjafjphgcbjaa.ruleImpl
open Go.RowKit Go.Proofs.Ytdkjafjphgcbjaa.base Go.Proofs.Ytdkjafjphgcbjaa.ints Go.Proofs.Ytdkjafjphgcbjaa.sig Go.Proofs.Ytdkjafjphgcbjaa.term Go.Proofs.Ytdkjafjphgcbjaa.termOk Go.Proofs.Ytdkjafjphgcbjaa.marks Go.Proofs.Ytdkjafjphgcbjaa.app Go.Proofs.Ytdkjafjphgcbjaa.appAt Go.Proofs.Ytdkjafjphgcbjaa.sym Go.Proofs.Ytdkjafjphgcbjaa.segs Go.Proofs.Ytdkjafjphgcbjaa.termFacts Go.Proofs.Ytdkjafjphgcbjaa.varsMath Go.Proofs.Ytdkjafjphgcbjaa.varsOf Go.Proofs.Ytdkjafjphgcbjaa.rename Go.Proofs.Ytdkjafjphgcbjaa.same Go.Proofs.Ytdkjafjphgcbjaa.count Go.Proofs.Ytdkjafjphgcbjaa.linear Go.Proofs.Ytdkjafjphgcbjaa.shape Go.Proofs.Ytdkjafjphgcbjaa.kindsR Go.Proofs.Ytdkjafjphgcbjaa.ruleMath Go.Proofs.Ytdkjafjphgcbjaa.ruleSpec Go.Proofs.Ytdkjafjphgcbjaa.anyR
set_option maxRecDepth 100000

/-- a box that a variable lies in -/
theorem boxN {w w1 : World} {T : TypeId} {cs : Array Value} (bel : Below w.heap.size w w1) : Row (w1.alloc (.cells cs T)) w1.heap.size T cs ∧ Below w.heap.size w (w1.alloc (.cells cs T)) ∧ Below w1.heap.size w1 (w1.alloc (.cells cs T)) :=
  ⟨Row.new _ _ _, bel.alloc bel.size _, (Below.refl _ _).alloc (Nat.le_refl _) _⟩
theorem any_congr {rs : List Rl} {f g : Rl → Bool} (h : ∀ x ∈ rs, f x = g x) : rs.any f = rs.any g := by
  induction rs with
  | nil => rfl
  | cons x rs ih => rw [List.any_cons, List.any_cons, h x (List.mem_cons_self ..), ih (fun y hy => h y (List.mem_cons_of_mem _ hy))]
theorem rd_zero (w : World) (B : Nat) : Rd w B sSystem [.slice none 0 0, .slice none 0 0] (([], []) : List Int × List Rl) :=
  ⟨[.slice none 0 0], [.slice none 0 0], rfl, ⟨none, 0, 0, rfl, ⟨by omega, by omega, fun _ => rfl⟩, rfl, fun h => absurd h (by omega)⟩, ⟨none, 0, 0, rfl, ⟨by omega, by omega, fun _ => rfl⟩, rfl, fun h => absurd h (by omega)⟩⟩


theorem fin_LeftLinearIn_no {sg : List Int} {rs : List Rl} (h : sysOkB sg rs = false) : leftLinB sg rs = false := by unfold leftLinB; rw [h]; rfl
theorem fin_LeftLinearIn_yes {sg : List Int} {rs : List Rl} (h : sysOkB sg rs = true) : leftLinB sg rs = !rs.any (fun x => !linearB sg x.1) := by
  unfold leftLinB leftB; rw [h, Bool.true_and]; congr 1
  exact any_congr fun x hx => by unfold linearB; rw [(rule_parts ((sys_parts h).2.2 x hx)).1]; rfl
set_option maxHeartbeats 4000000 in
theorem implLeftLinearIn (a v : Value) (d : Dat sSystem) (w : World) (h : Rd w w.heap.size sSystem [a, v] d) (hz : sz sSystem d ≤ 1048576) :
    Calls Try.prog 29 #[.agg #[a, v]] w (AnsB w (leftLinB d.1 d.2)) := by
  have hzs := sys_szs hz
  have hsg := (parts_System h).1
  have SO := fun (w1 : World) (bb : Below w.heap.size w w1) => systemOf a v d w1 (h.next bb) hz
  have LT := fun (ok : sysOkB d.1 d.2 = true) (w1 : World) (bb : Below w.heap.size w w1) => some_ 76 #[.agg #[a]] #[] (fun _ _ => rfl) (fun x => !linearB d.1 x.1) a v d w1
    (fun W' l r (x : Rl) hW' hx hr => repeats_ a l r d.1 x W' (hsg.next (next_trans bb hW')) hzs.1 hr (sz_mem hzs.2 hx)) (h.next bb) hz
  obtain ⟨A, n, c, V, m, cv, rfl, rfl, -⟩ := rd_sys h hz
  obtain ⟨W, hW, rA, bel⟩ := box1 w 29 #[.slice A n c, .slice V m cv]
  have HW := Lib.hid hW
  have L := Lib.hid (SO W bel)
  have HLT := Lib.hid LT
  have hmf := makeFn
  clear hW h hz SO LT hzs hsg
  go_enter Try.func29, Try.ntmps29
  go_wp2_with fail
  rw [← HW.out]
  refine L.out.mono ?_
  cases ok : sysOkB d.1 d.2 with
  | false =>
    have HO := Lib.hid ok
    rintro e w1 ⟨rfl, bb⟩
    have F := Lib.hid (boxN (T := 64) (cs := #[.slice none 0 0, .slice none 0 0]) (next_trans bel bb)).2.1
    simp only [sysV, if_true, Bool.false_eq_true, if_false]
    clear bel bb rA L HLT ok
    go_wp2
    go_ret
    exact ⟨by rw [fin_LeftLinearIn_no HO.out]; rfl, F.out⟩
  | true =>
    have HO := Lib.hid ok
    rintro e w1 ⟨rfl, bb⟩
    obtain ⟨rS, belS, bS⟩ := boxN (T := 64) (cs := #[.slice A n c, .slice V m cv]) (next_trans bel bb)
    have L2 := Lib.hid (HLT.out ok _ belS)
    have c0 := rS.cell 0
    have c1 := rS.cell 1
    have E := Lib.hid (fin_LeftLinearIn_yes HO.out)
    simp only [sysV, if_true]
    clear bel bb rA L HLT ok rS bS
    go_wp2_with fail
    refine L2.out.mono ?_
    rintro e w2 ⟨he, bb⟩
    obtain ⟨z, hzz⟩ : ∃ z, d.2.any (fun x => !linearB d.1 x.1) = z := ⟨_, rfl⟩
    rw [hzz] at E
    rw [show (List.any d.2 fun x => !linearB d.1 x.1) = z from hzz] at he
    subst he
    have F := Lib.hid (next_trans belS bb)
    clear bb belS L2 c0 c1 hzz
    go_wp2
    go_ret
    exact ⟨by rw [E.out]; rfl, F.out⟩


theorem fin_CollapsingIn_no {sg : List Int} {rs : List Rl} (h : sysOkB sg rs = false) : collB sg rs = false := by unfold collB; rw [h]; rfl
theorem fin_CollapsingIn_yes {sg : List Int} {rs : List Rl} (h : sysOkB sg rs = true) : collB sg rs = rs.any (fallsB) := by
  unfold collB; rw [h]; rfl
set_option maxHeartbeats 4000000 in
theorem implCollapsingIn (a v : Value) (d : Dat sSystem) (w : World) (h : Rd w w.heap.size sSystem [a, v] d) (hz : sz sSystem d ≤ 1048576) :
    Calls Try.prog 31 #[.agg #[a, v]] w (AnsB w (collB d.1 d.2)) := by
  have hzs := sys_szs hz
  have hsg := (parts_System h).1
  have SO := fun (w1 : World) (bb : Below w.heap.size w w1) => systemOf a v d w1 (h.next bb) hz
  have LT := fun (ok : sysOkB d.1 d.2 = true) (w1 : World) (bb : Below w.heap.size w w1) => some_ 78 #[] #[] (fun _ _ => rfl) (fun x => fallsB x) a v d w1
    (fun W' l r (x : Rl) hW' hx hr => collapses_ l r x W' hr (sz_mem hzs.2 hx) (term_len (rule_parts ((sys_parts ok).2.2 x hx)).2.1).1) (h.next bb) hz
  obtain ⟨A, n, c, V, m, cv, rfl, rfl, -⟩ := rd_sys h hz
  obtain ⟨W, hW, rA, bel⟩ := box1 w 29 #[.slice A n c, .slice V m cv]
  have HW := Lib.hid hW
  have L := Lib.hid (SO W bel)
  have HLT := Lib.hid LT
  have hmf := makeFn
  clear hW h hz SO LT hzs hsg
  go_enter Try.func31, Try.ntmps31
  go_wp2_with fail
  rw [← HW.out]
  refine L.out.mono ?_
  cases ok : sysOkB d.1 d.2 with
  | false =>
    have HO := Lib.hid ok
    rintro e w1 ⟨rfl, bb⟩
    have F := Lib.hid (boxN (T := 64) (cs := #[.slice none 0 0, .slice none 0 0]) (next_trans bel bb)).2.1
    simp only [sysV, if_true, Bool.false_eq_true, if_false]
    clear bel bb rA L HLT ok
    go_wp2
    go_ret
    exact ⟨by rw [fin_CollapsingIn_no HO.out]; rfl, F.out⟩
  | true =>
    have HO := Lib.hid ok
    rintro e w1 ⟨rfl, bb⟩
    obtain ⟨rS, belS, bS⟩ := boxN (T := 64) (cs := #[.slice A n c, .slice V m cv]) (next_trans bel bb)
    have L2 := Lib.hid (HLT.out ok _ belS)
    have c0 := rS.cell 0
    have c1 := rS.cell 1
    have E := Lib.hid (fin_CollapsingIn_yes HO.out)
    simp only [sysV, if_true]
    clear bel bb rA L HLT ok rS bS
    go_wp2_with fail
    refine L2.out.mono ?_
    rintro e w2 ⟨he, bb⟩
    obtain ⟨z, hzz⟩ : ∃ z, d.2.any (fallsB) = z := ⟨_, rfl⟩
    rw [hzz] at E
    rw [show (List.any d.2 fun x => fallsB x) = z from hzz] at he
    subst he
    have F := Lib.hid (next_trans belS bb)
    clear bb belS L2 c0 c1 hzz
    go_wp2
    go_ret
    exact ⟨by rw [E.out]; rfl, F.out⟩


theorem fin_DuplicatingIn_no {sg : List Int} {rs : List Rl} (h : sysOkB sg rs = false) : dupB sg rs = false := by unfold dupB; rw [h]; rfl
theorem fin_DuplicatingIn_yes {sg : List Int} {rs : List Rl} (h : sysOkB sg rs = true) : dupB sg rs = rs.any (fun x => x.2.any (moreI sg x)) := by
  unfold dupB; rw [h, Bool.true_and]
  exact any_congr fun x hx => by
    unfold dblB
    have h2 : ∀ y, moreI sg x y = moreB x y := more_same ((sys_parts h).2.2 x hx)
    rw [show moreI sg x = moreB x from funext h2]
set_option maxHeartbeats 4000000 in
theorem implDuplicatingIn (a v : Value) (d : Dat sSystem) (w : World) (h : Rd w w.heap.size sSystem [a, v] d) (hz : sz sSystem d ≤ 1048576) :
    Calls Try.prog 30 #[.agg #[a, v]] w (AnsB w (dupB d.1 d.2)) := by
  have hzs := sys_szs hz
  have hsg := (parts_System h).1
  have SO := fun (w1 : World) (bb : Below w.heap.size w w1) => systemOf a v d w1 (h.next bb) hz
  have LT := fun (ok : sysOkB d.1 d.2 = true) (w1 : World) (bb : Below w.heap.size w w1) => some_ 77 #[.agg #[a]] #[] (fun _ _ => rfl) (fun x => x.2.any (moreI d.1 x)) a v d w1
    (fun W' l r (x : Rl) hW' hx hr => duplicates_ a l r d.1 x W' (hsg.next (next_trans bb hW')) hzs.1 hr (sz_mem hzs.2 hx) (fun y hy => term_mem (rule_parts ((sys_parts ok).2.2 x hx)).2.1 hy)) (h.next bb) hz
  obtain ⟨A, n, c, V, m, cv, rfl, rfl, -⟩ := rd_sys h hz
  obtain ⟨W, hW, rA, bel⟩ := box1 w 29 #[.slice A n c, .slice V m cv]
  have HW := Lib.hid hW
  have L := Lib.hid (SO W bel)
  have HLT := Lib.hid LT
  have hmf := makeFn
  clear hW h hz SO LT hzs hsg
  go_enter Try.func30, Try.ntmps30
  go_wp2_with fail
  rw [← HW.out]
  refine L.out.mono ?_
  cases ok : sysOkB d.1 d.2 with
  | false =>
    have HO := Lib.hid ok
    rintro e w1 ⟨rfl, bb⟩
    have F := Lib.hid (boxN (T := 64) (cs := #[.slice none 0 0, .slice none 0 0]) (next_trans bel bb)).2.1
    simp only [sysV, if_true, Bool.false_eq_true, if_false]
    clear bel bb rA L HLT ok
    go_wp2
    go_ret
    exact ⟨by rw [fin_DuplicatingIn_no HO.out]; rfl, F.out⟩
  | true =>
    have HO := Lib.hid ok
    rintro e w1 ⟨rfl, bb⟩
    obtain ⟨rS, belS, bS⟩ := boxN (T := 64) (cs := #[.slice A n c, .slice V m cv]) (next_trans bel bb)
    have L2 := Lib.hid (HLT.out ok _ belS)
    have c0 := rS.cell 0
    have c1 := rS.cell 1
    have E := Lib.hid (fin_DuplicatingIn_yes HO.out)
    simp only [sysV, if_true]
    clear bel bb rA L HLT ok rS bS
    go_wp2_with fail
    refine L2.out.mono ?_
    rintro e w2 ⟨he, bb⟩
    obtain ⟨z, hzz⟩ : ∃ z, d.2.any (fun x => x.2.any (moreI d.1 x)) = z := ⟨_, rfl⟩
    rw [hzz] at E
    rw [show (List.any d.2 fun x => x.2.any (moreI d.1 x)) = z from hzz] at he
    subst he
    have F := Lib.hid (next_trans belS bb)
    clear bb belS L2 c0 c1 hzz
    go_wp2
    go_ret
    exact ⟨by rw [E.out]; rfl, F.out⟩


theorem fin_ConstructorSystem_no {sg : List Int} {rs : List Rl} (h : sysOkB sg rs = false) : consB sg rs = false := by unfold consB; rw [h]; rfl
theorem fin_ConstructorSystem_yes {sg : List Int} {rs : List Rl} (h : sysOkB sg rs = true) : consB sg rs = !rs.any (nestB rs) := by
  unfold consB; rw [h]; rfl
set_option maxHeartbeats 4000000 in
theorem implConstructorSystem (a v : Value) (d : Dat sSystem) (w : World) (h : Rd w w.heap.size sSystem [a, v] d) (hz : sz sSystem d ≤ 1048576) :
    Calls Try.prog 35 #[.agg #[a, v]] w (AnsB w (consB d.1 d.2)) := by
  have hzs := sys_szs hz
  have hsg := (parts_System h).1
  have SO := fun (w1 : World) (bb : Below w.heap.size w w1) => systemOf a v d w1 (h.next bb) hz
  have LT := fun (ok : sysOkB d.1 d.2 = true) (w1 : World) (bb : Below w.heap.size w w1) => some_ 81 #[.agg #[a, v]] #[] (fun _ _ => rfl) (fun x => nestB d.2 x) a v d w1
    (fun W' l r (x : Rl) hW' hx hr => nests_ a v l r d x W' (h.next (next_trans bb hW')) hz (fun y hy => (term_len (rule_parts ((sys_parts ok).2.2 y hy)).1).1) hr (sz_mem hzs.2 hx) (term_len (rule_parts ((sys_parts ok).2.2 x hx)).1).1) (h.next bb) hz
  obtain ⟨A, n, c, V, m, cv, rfl, rfl, -⟩ := rd_sys h hz
  obtain ⟨W, hW, rA, bel⟩ := box1 w 29 #[.slice A n c, .slice V m cv]
  have HW := Lib.hid hW
  have L := Lib.hid (SO W bel)
  have HLT := Lib.hid LT
  have hmf := makeFn
  clear hW h hz SO LT hzs hsg
  go_enter Try.func35, Try.ntmps35
  go_wp2_with fail
  rw [← HW.out]
  refine L.out.mono ?_
  cases ok : sysOkB d.1 d.2 with
  | false =>
    have HO := Lib.hid ok
    rintro e w1 ⟨rfl, bb⟩
    have F := Lib.hid (boxN (T := 64) (cs := #[.slice none 0 0, .slice none 0 0]) (next_trans bel bb)).2.1
    simp only [sysV, if_true, Bool.false_eq_true, if_false]
    clear bel bb rA L HLT ok
    go_wp2
    go_ret
    exact ⟨by rw [fin_ConstructorSystem_no HO.out]; rfl, F.out⟩
  | true =>
    have HO := Lib.hid ok
    rintro e w1 ⟨rfl, bb⟩
    obtain ⟨rS, belS, bS⟩ := boxN (T := 64) (cs := #[.slice A n c, .slice V m cv]) (next_trans bel bb)
    have L2 := Lib.hid (HLT.out ok _ belS)
    have c0 := rS.cell 0
    have c1 := rS.cell 1
    have E := Lib.hid (fin_ConstructorSystem_yes HO.out)
    simp only [sysV, if_true]
    clear bel bb rA L HLT ok rS bS
    go_wp2_with fail
    refine L2.out.mono ?_
    rintro e w2 ⟨he, bb⟩
    obtain ⟨z, hzz⟩ : ∃ z, d.2.any (nestB d.2) = z := ⟨_, rfl⟩
    rw [hzz] at E
    rw [show (List.any d.2 fun x => nestB d.2 x) = z from hzz] at he
    subst he
    have F := Lib.hid (next_trans belS bb)
    clear bb belS L2 c0 c1 hzz
    go_wp2
    go_ret
    exact ⟨by rw [E.out]; rfl, F.out⟩


/-! ### symbols -/
def HeadSb (w : World) (T : TypeId) (cs : Array Value) (n : Nat) (p : Int → Bool) (out i : Value) (wr : World) : Prop :=
  ∃ (k : Nat) (O : Option Addr) (on oc : Nat), k ≤ n ∧ i = .int .i64 k ∧ out = .slice O on oc ∧ Own wr (w.heap.size + 1) (.slice O on oc) (symL p k) ∧ Row wr w.heap.size T cs ∧ Below w.heap.size w wr
theorem own_base {w w' : World} {base : Nat} {A : Option Addr} {n c : Nat} {xs : List Int} (h : Own w base (.slice A n c) xs) (hb : Below w.heap.size w w') : Own w' base (.slice A n c) xs := h.next hb

set_option maxHeartbeats 4000000 in
theorem symbols_ (a v : Value) (d : Dat sSystem) (b : Bool) (w : World) (h : Rd w w.heap.size sSystem [a, v] d) (hz : sz sSystem d ≤ 1048576) (hL : ∀ x ∈ d.2, 1 ≤ x.1.length) :
    Calls Try.prog 59 #[.agg #[a, v], .bool b] w (AnsList w (symL (fun x => isDef d.2 x == b) d.1.length)) := by
  have LD := fun (w1 : World) (bb : Below w.heap.size w w1) (y : Int) => defines_ a v d y w1 (h.next bb) hz hL
  obtain ⟨A, n, c, V, m, cv, rfl, rfl, hs, hc, hcv, hm, hn, hm1, hrs, hsg, hE⟩ := rd_sys h hz
  obtain ⟨W, hW, rA, bel⟩ := box1 w 64 #[.slice A n c, .slice V m cv]
  have HW := Lib.hid hW
  have HN := Lib.hid hs.1
  have HLD := Lib.hid LD
  have H0 : Hid (HeadSb w 64 #[.slice A n c, .slice V m cv] n (fun x => isDef d.2 x == b) (.slice none 0 0) (.int .i64 0) W) := Lib.hid ⟨0, _, _, _, Nat.zero_le _, rfl, rfl, by simpa [symL] using Own.nil W (w.heap.size + 1), rA, bel⟩
  clear hW h hz hL hs hc hcv hm hE hrs hsg LD rA bel
  go_enter Try.func59, Try.ntmps59
  go_wp2_with fail
  rw [← HW.out]
  go_loopw [5, 11] (fun out i wr => HeadSb w 64 #[.slice A n c, .slice V m cv] n (fun x => isDef d.2 x == b) out i wr) (fun _ i _ => n - (intOf i).toNat)
  case atStart => exact H0.out
  case round =>
    obtain ⟨k, O, on, oc, hk, rfl, rfl, ho, rr, hb⟩ := hrel
    clear H0
    have a0 : wr.cell? ⟨w.heap.size, 0, none⟩ = some (.slice A n c) := rr.cell 0
    have a1 : wr.cell? ⟨w.heap.size, 1, none⟩ = some (.slice V m cv) := rr.cell 1
    by_cases hlt : k < n
    · have hon : on ≤ 1048576 := by have h1 := Own.len ho; have h2 := sym_len (p := fun x => isDef d.2 x == b) k; omega
      have i1 : (k : Int) < (n : Int) := by omega
      have hzw := hb.size
      go_wp2_with fail
      refine (HLD.out wr hb (k : Int)).mono ?_
      rintro e w1 ⟨he, bb⟩
      replace rr := rr.next bb
      replace ho := ho.next bb
      replace hb := next_trans hb bb
      have hz1 := bb.size
      have hlr := rr.lt
      obtain ⟨z, hzz⟩ : ∃ z, isDef d.2 (k : Int) = z := ⟨_, rfl⟩
      rw [hzz] at he
      subst he
      have E := Lib.hid hzz
      clear bb a0 a1 hzz
      by_cases hzb : z = b
      · have e1 : (z == b) = true := by simp [hzb]
        have S := Lib.hid (show symL (fun x => isDef d.2 x == b) (k + 1) = symL (fun x => isDef d.2 x == b) k ++ [(k : Int)] from sym_yes (by rw [E.out]; exact e1))
        have ho1 := Own.alloc ho (.cells #[.int .i64 (k : Int)] 2)
        have rr1 := rr.alloc (.cells #[.int .i64 (k : Int)] 2)
        have hb1 := hb.alloc hb.size (.cells #[.int .i64 (k : Int)] 2)
        clear hzb ho
        go_wp2_with (first
          | (at_builtin; refine app1 rfl _ _ rfl (w.heap.size + 1) O on oc (symL (fun x => isDef d.2 x == b) k) rfl ho1 w1.heap.size 1 (k : Int) rfl ((Row.new _ _ _).cell 0) (by omega) (by simp; omega) ?_; intro O' oc' w2 ho2 b2))
        have F : HeadSb w 64 #[.slice A n c, .slice V m cv] n (fun x => isDef d.2 x == b) (.slice O' (on + 1) oc') (.int .i64 ((k : Int) + 1)) w2 :=
          ⟨k + 1, O', on + 1, oc', hlt, by simp, rfl, by rw [S.out]; exact ho2, rr1.below b2 (by omega), hb1.trans (b2.mono (by omega))⟩
        have HF := Lib.hid F
        clear F ho2 b2 ho1 rr1 hb1 rr hb S
        go_wp2
        go_roundw
        case rel => exact HF.out
        case measure => simp [intOf]; omega
      · have e1 : (z == b) = false := by simpa using hzb
        have F : HeadSb w 64 #[.slice A n c, .slice V m cv] n (fun x => isDef d.2 x == b) (.slice O on oc) (.int .i64 ((k : Int) + 1)) w1 :=
          ⟨k + 1, O, on, oc, hlt, by simp, rfl, by rw [sym_no (by rw [E.out]; exact e1)]; exact ho, rr, hb⟩
        have HF := Lib.hid F
        clear F ho rr hb hzb
        go_wp2
        go_roundw
        case rel => exact HF.out
        case measure => simp [intOf]; omega
    · have F : AnsList w (symL (fun x => isDef d.2 x == b) d.1.length) (.returned (.slice O on oc)) wr := ⟨O, on, oc, rfl, by rw [HN.out, show n = k by omega]; exact Own.lower ho (by omega), hb⟩
      have HF := Lib.hid F
      clear F ho rr hb
      go_wp2
      go_ret
      exact HF.out


theorem fin_DefinedIn_no {sg : List Int} {rs : List Rl} (h : sysOkB sg rs = false) : definedI sg rs = [] := by unfold definedI; rw [if_neg (by rw [h]; simp)]
theorem fin_DefinedIn_yes {sg : List Int} {rs : List Rl} (h : sysOkB sg rs = true) : definedI sg rs = symL (fun x => isDef rs x == true) sg.length := by
  unfold definedI; rw [if_pos h]
  rw [def_sym h]; congr 1; funext x; simp
set_option maxHeartbeats 4000000 in
theorem implDefinedIn (a v : Value) (d : Dat sSystem) (w : World) (h : Rd w w.heap.size sSystem [a, v] d) (hz : sz sSystem d ≤ 1048576) :
    Calls Try.prog 17 #[.agg #[a, v]] w (AnsList w (definedI d.1 d.2)) := by
  have SO := fun (w1 : World) (bb : Below w.heap.size w w1) => systemOf a v d w1 (h.next bb) hz
  have LT := fun (ok : sysOkB d.1 d.2 = true) (w1 : World) (bb : Below w.heap.size w w1) => symbols_ a v d true w1 (h.next bb) hz (fun x hx => (term_len (rule_parts ((sys_parts ok).2.2 x hx)).1).1)
  obtain ⟨A, n, c, V, m, cv, rfl, rfl, -⟩ := rd_sys h hz
  obtain ⟨W, hW, rA, bel⟩ := box1 w 29 #[.slice A n c, .slice V m cv]
  have HW := Lib.hid hW
  have L := Lib.hid (SO W bel)
  have HLT := Lib.hid LT
  clear hW h hz SO LT
  go_enter Try.func17, Try.ntmps17
  go_wp2_with fail
  rw [← HW.out]
  refine L.out.mono ?_
  cases ok : sysOkB d.1 d.2 with
  | false =>
    have HO := Lib.hid ok
    rintro e w1 ⟨rfl, bb⟩
    obtain ⟨rS, belS, bS⟩ := boxN (T := 64) (cs := #[.slice none 0 0, .slice none 0 0]) (next_trans bel bb)
    have L2 := Lib.hid (symbols_ (.slice none 0 0) (.slice none 0 0) ([], []) true _ (rd_zero (w1.alloc (.cells #[.slice none 0 0, .slice none 0 0] 64)) _) (by simp [sz]) (fun x hx => by cases hx))
    have c0 := rS.cell 0
    have c1 := rS.cell 1
    simp only [sysV, if_true, Bool.false_eq_true, if_false]
    clear bel bb rA L HLT ok rS bS
    go_wp2_with fail
    refine L2.out.mono ?_
    rintro e w2 ⟨O, on, oc, rfl, ho, bb⟩
    have F : AnsList w (definedI d.1 d.2) (.returned (.slice O on oc)) w2 := ⟨O, on, oc, rfl, by rw [fin_DefinedIn_no HO.out]; exact Own.lower ho belS.size, next_trans belS bb⟩
    have HF := Lib.hid F
    clear F ho bb belS L2 c0 c1
    go_wp2
    go_ret
    exact HF.out
  | true =>
    have HO := Lib.hid ok
    rintro e w1 ⟨rfl, bb⟩
    obtain ⟨rS, belS, bS⟩ := boxN (T := 64) (cs := #[.slice A n c, .slice V m cv]) (next_trans bel bb)
    have L2 := Lib.hid (HLT.out ok _ belS)
    have c0 := rS.cell 0
    have c1 := rS.cell 1
    simp only [sysV, if_true]
    clear bel bb rA L HLT ok rS bS
    go_wp2_with fail
    refine L2.out.mono ?_
    rintro e w2 ⟨O, on, oc, rfl, ho, bb⟩
    have F : AnsList w (definedI d.1 d.2) (.returned (.slice O on oc)) w2 := ⟨O, on, oc, rfl, by rw [fin_DefinedIn_yes HO.out]; exact Own.lower ho belS.size, next_trans belS bb⟩
    have HF := Lib.hid F
    clear F ho bb belS L2 c0 c1
    go_wp2
    go_ret
    exact HF.out


theorem fin_ConstructorsIn_no {sg : List Int} {rs : List Rl} (h : sysOkB sg rs = false) : consI sg rs = [] := by unfold consI; rw [if_neg (by rw [h]; simp)]
theorem fin_ConstructorsIn_yes {sg : List Int} {rs : List Rl} (h : sysOkB sg rs = true) : consI sg rs = symL (fun x => isDef rs x == false) sg.length := by
  unfold consI; rw [if_pos h]
  congr 1; funext x; cases isDef rs x <;> rfl
set_option maxHeartbeats 4000000 in
theorem implConstructorsIn (a v : Value) (d : Dat sSystem) (w : World) (h : Rd w w.heap.size sSystem [a, v] d) (hz : sz sSystem d ≤ 1048576) :
    Calls Try.prog 18 #[.agg #[a, v]] w (AnsList w (consI d.1 d.2)) := by
  have SO := fun (w1 : World) (bb : Below w.heap.size w w1) => systemOf a v d w1 (h.next bb) hz
  have LT := fun (ok : sysOkB d.1 d.2 = true) (w1 : World) (bb : Below w.heap.size w w1) => symbols_ a v d false w1 (h.next bb) hz (fun x hx => (term_len (rule_parts ((sys_parts ok).2.2 x hx)).1).1)
  obtain ⟨A, n, c, V, m, cv, rfl, rfl, -⟩ := rd_sys h hz
  obtain ⟨W, hW, rA, bel⟩ := box1 w 29 #[.slice A n c, .slice V m cv]
  have HW := Lib.hid hW
  have L := Lib.hid (SO W bel)
  have HLT := Lib.hid LT
  clear hW h hz SO LT
  go_enter Try.func18, Try.ntmps18
  go_wp2_with fail
  rw [← HW.out]
  refine L.out.mono ?_
  cases ok : sysOkB d.1 d.2 with
  | false =>
    have HO := Lib.hid ok
    rintro e w1 ⟨rfl, bb⟩
    obtain ⟨rS, belS, bS⟩ := boxN (T := 64) (cs := #[.slice none 0 0, .slice none 0 0]) (next_trans bel bb)
    have L2 := Lib.hid (symbols_ (.slice none 0 0) (.slice none 0 0) ([], []) false _ (rd_zero (w1.alloc (.cells #[.slice none 0 0, .slice none 0 0] 64)) _) (by simp [sz]) (fun x hx => by cases hx))
    have c0 := rS.cell 0
    have c1 := rS.cell 1
    simp only [sysV, if_true, Bool.false_eq_true, if_false]
    clear bel bb rA L HLT ok rS bS
    go_wp2_with fail
    refine L2.out.mono ?_
    rintro e w2 ⟨O, on, oc, rfl, ho, bb⟩
    have F : AnsList w (consI d.1 d.2) (.returned (.slice O on oc)) w2 := ⟨O, on, oc, rfl, by rw [fin_ConstructorsIn_no HO.out]; exact Own.lower ho belS.size, next_trans belS bb⟩
    have HF := Lib.hid F
    clear F ho bb belS L2 c0 c1
    go_wp2
    go_ret
    exact HF.out
  | true =>
    have HO := Lib.hid ok
    rintro e w1 ⟨rfl, bb⟩
    obtain ⟨rS, belS, bS⟩ := boxN (T := 64) (cs := #[.slice A n c, .slice V m cv]) (next_trans bel bb)
    have L2 := Lib.hid (HLT.out ok _ belS)
    have c0 := rS.cell 0
    have c1 := rS.cell 1
    simp only [sysV, if_true]
    clear bel bb rA L HLT ok rS bS
    go_wp2_with fail
    refine L2.out.mono ?_
    rintro e w2 ⟨O, on, oc, rfl, ho, bb⟩
    have F : AnsList w (consI d.1 d.2) (.returned (.slice O on oc)) w2 := ⟨O, on, oc, rfl, by rw [fin_ConstructorsIn_yes HO.out]; exact Own.lower ho belS.size, next_trans belS bb⟩
    have HF := Lib.hid F
    clear F ho bb belS L2 c0 c1
    go_wp2
    go_ret
    exact HF.out

end Go.Proofs.Ytdkjafjphgcbjaa.ruleImpl
end

section
/-
  THE WALK of laws.FnExactConstructorsIn: it returns true, whatever the arguments, and writes nothing that was there. Conditions: the arguments read as data. Written by a program of mine (gen_x.py). By an AI agent.
-/
namespace Go.Proofs.Ytdkjafjphgcbjaa.wConstructorsIn
open Go.RowKit Go.Proofs.Ytdkjafjphgcbjaa.base Go.Proofs.Ytdkjafjphgcbjaa.ints Go.Proofs.Ytdkjafjphgcbjaa.sig Go.Proofs.Ytdkjafjphgcbjaa.cursor Go.Proofs.Ytdkjafjphgcbjaa.marks Go.Proofs.Ytdkjafjphgcbjaa.app Go.Proofs.Ytdkjafjphgcbjaa.sym Go.Proofs.Ytdkjafjphgcbjaa.appAt Go.Proofs.Ytdkjafjphgcbjaa.segs Go.Proofs.Ytdkjafjphgcbjaa.segsHelp Go.Proofs.Ytdkjafjphgcbjaa.segsMark Go.Proofs.Ytdkjafjphgcbjaa.kinds Go.Proofs.Ytdkjafjphgcbjaa.shape Go.Proofs.Ytdkjafjphgcbjaa.varsOf Go.Proofs.Ytdkjafjphgcbjaa.kindsR Go.Proofs.Ytdkjafjphgcbjaa.ruleMath Go.Proofs.Ytdkjafjphgcbjaa.ruleSpec Go.Proofs.Ytdkjafjphgcbjaa.ruleImpl
set_option maxRecDepth 100000

set_option maxHeartbeats 8000000 in
theorem law (v0_0 v0_1 : Value) (d0 : Dat sSystem) (w : World) (s0 : Rd w w.heap.size sSystem [v0_0, v0_1] d0) :
    Calls Try.prog 12 #[.agg #[v0_0, v0_1]] w (Fine w) := by
  obtain ⟨W, hW⟩ : ∃ W, W = w.alloc (.cells #[v0_0, v0_1] 51) := ⟨_, rfl⟩
  have rA0 : Row W (w.heap.size) 51 #[v0_0, v0_1] := by rw [hW]; have := Row.new (w) 51 #[v0_0, v0_1]; simpa using this
  have bW : Below w.heap.size w W := by rw [hW]; exact (Below.refl w.heap.size w).alloc (by simp) (.cells #[v0_0, v0_1] 51)
  have zA0 := rA0.lt
  replace s0 := s0.next bW
  have HW := Lib.hid hW
  clear hW
  obtain ⟨t0, ht0⟩ : ∃ z, sz sSystem d0 = z := ⟨_, rfl⟩
  have HT0 := Lib.hid ht0
  clear ht0
  go_enter Try.func12, Try.ntmps12
  go_wp2_with fail
  rw [← HW.out]
  clear HW
  have bel := Below.refl W.heap.size W
  have cA0_0 : W.cell? ⟨w.heap.size, 0, none⟩ = some (v0_0) := (rA0.next bel).cell 0
  have cA0_1 : W.cell? ⟨w.heap.size, 1, none⟩ = some (v0_1) := (rA0.next bel).cell 1
  refine (szK_System _ _ d0 (1048576) _ (s0.next bel) (by omega) (by omega)).mono ?_
  rintro e w1 ⟨he, bb⟩
  rw [HT0.out] at he
  replace bel := next_trans bel bb
  have zw1 := bb.size
  clear bb
  by_cases q0 : t0 ≤ 1048576
  case neg =>
    rw [if_pos (by omega)] at he
    subst he
    have F := Lib.hid (bW.trans (bel.mono bW.size))
    clear bel bW cA0_0 cA0_1
    go_wp2
    go_ret
    exact ⟨rfl, F.out⟩
  rw [if_neg (by omega)] at he
  subst he
  have h0 : Hid (sz sSystem d0 ≤ 1048576) := Lib.hid (by rw [HT0.out]; omega)
  clear cA0_0 cA0_1
  have cA0_0 : w1.cell? ⟨w.heap.size, 0, none⟩ = some (v0_0) := (rA0.next bel).cell 0
  have cA0_1 : w1.cell? ⟨w.heap.size, 1, none⟩ = some (v0_1) := (rA0.next bel).cell 1
  have hlen : (consI d0.1 d0.2).length ≤ 1048576 := cons_len h0.out
  obtain ⟨ys, hys⟩ : ∃ ys, consI d0.1 d0.2 = ys := ⟨_, rfl⟩
  rw [hys] at hlen
  have HY := Lib.hid hys
  clear hys
  replace hlen := Lib.hid hlen
  obtain ⟨k0, hk0⟩ : ∃ z, cntv sSystem d0 = z := ⟨_, rfl⟩
  have hK0 : k0 ≤ 3 * 1048576 := by have j1 := cntv_le sSystem d0; have j2 := h0.out; have j3 : wd sSystem = 3 := rfl; rw [hk0, j3] at j1; omega
  have HK0 := Lib.hid hk0
  clear hk0
  go_wp2_with fail
  refine (toK_System _ _ d0 _ (s0.next bel) h0.out).mono ?_
  rintro e w2 ⟨p0A0, p0n0, p0c0, p0A1, p0n1, p0c1, rfl, op0, bb⟩
  replace bel := next_trans bel bb
  have zw2 := bb.size
  clear bb
  clear cA0_0 cA0_1
  have cA0_0 : w2.cell? ⟨w.heap.size, 0, none⟩ = some (v0_0) := (rA0.next bel).cell 0
  have cA0_1 : w2.cell? ⟨w.heap.size, 1, none⟩ = some (v0_1) := (rA0.next bel).cell 1
  go_wp2_with fail
  refine (specConstructorsIn _ _ d0 _ op0.rd h0.out).mono ?_
  rintro e w3 ⟨wA, wn, wc, he, o0, bb⟩
  rw [HY.out] at o0
  subst he
  replace op0 := op0.next bb
  replace bel := next_trans bel bb
  have zw3 := bb.size
  clear bb
  have sw := o0
  clear o0
  clear op0
  clear cA0_0 cA0_1
  have cA0_0 : w3.cell? ⟨w.heap.size, 0, none⟩ = some (v0_0) := (rA0.next bel).cell 0
  have cA0_1 : w3.cell? ⟨w.heap.size, 1, none⟩ = some (v0_1) := (rA0.next bel).cell 1
  have belw := Below.refl w3.heap.size w3
  clear cA0_0 cA0_1
  have cA0_0 : w3.cell? ⟨w.heap.size, 0, none⟩ = some (v0_0) := (rA0.next bel).cell 0
  have cA0_1 : w3.cell? ⟨w.heap.size, 1, none⟩ = some (v0_1) := (rA0.next bel).cell 1
  go_wp2_with fail
  refine (toK_System _ _ d0 _ (s0.next bel) h0.out).mono ?_
  rintro e w4 ⟨x0A0, x0n0, x0c0, x0A1, x0n1, x0c1, rfl, ox0, bb⟩
  replace bel := next_trans bel bb
  replace belw := next_trans belw bb
  have zw4 := bb.size
  clear bb
  clear cA0_0 cA0_1
  have cA0_0 : w4.cell? ⟨w.heap.size, 0, none⟩ = some (v0_0) := (rA0.next bel).cell 0
  have cA0_1 : w4.cell? ⟨w.heap.size, 1, none⟩ = some (v0_1) := (rA0.next bel).cell 1
  have dA0_0 : (w4.alloc (.cells #[.slice x0A0 x0n0 x0c0, .slice x0A1 x0n1 x0c1] 29)).cell? ⟨w.heap.size, 0, none⟩ = some (v0_0) := ((rA0.next bel).alloc _).cell 0
  have dA0_1 : (w4.alloc (.cells #[.slice x0A0 x0n0 x0c0, .slice x0A1 x0n1 x0c1] 29)).cell? ⟨w.heap.size, 1, none⟩ = some (v0_1) := ((rA0.next bel).alloc _).cell 1
  go_wp2_with fail
  obtain ⟨w5, hw⟩ : ∃ W, W = w4.alloc (.cells #[.slice x0A0 x0n0 x0c0, .slice x0A1 x0n1 x0c1] 29) := ⟨_, rfl⟩
  rw [← hw]
  have rx0 : Row w5 w4.heap.size 29 #[.slice x0A0 x0n0 x0c0, .slice x0A1 x0n1 x0c1] := by rw [hw]; exact Row.new _ _ _
  have bb : Below w4.heap.size w4 w5 := by rw [hw]; exact (Below.refl _ _).alloc (Nat.le_refl _) _
  have yrx0 : w4.heap.size < w5.heap.size := by rw [hw]; simp
  clear hw
  replace ox0 := ox0.next bb
  replace bel := next_trans bel bb
  replace belw := next_trans belw bb
  have zw5 := bb.size
  clear bb
  clear dA0_0 dA0_1
  clear cA0_0 cA0_1
  have cA0_0 : w5.cell? ⟨w.heap.size, 0, none⟩ = some (v0_0) := (rA0.next bel).cell 0
  have cA0_1 : w5.cell? ⟨w.heap.size, 1, none⟩ = some (v0_1) := (rA0.next bel).cell 1
  have cx0_0 : w5.cell? ⟨w4.heap.size, 0, none⟩ = some (.slice x0A0 x0n0 x0c0) := (rx0).cell 0
  have cx0_1 : w5.cell? ⟨w4.heap.size, 1, none⟩ = some (.slice x0A1 x0n1 x0c1) := (rx0).cell 1
  refine (implConstructorsIn _ _ d0 _ ox0.rd h0.out).mono ?_
  rintro e w6 ⟨gA, gn, gc, he, o0, bb⟩
  rw [HY.out] at o0
  subst he
  replace ox0 := ox0.next bb
  replace rx0 := rx0.next bb
  replace bel := next_trans bel bb
  replace belw := next_trans belw bb
  have zw6 := bb.size
  clear bb
  have og := Ownd.of_own o0
  clear o0
  clear cA0_0 cA0_1 cx0_0 cx0_1
  have cA0_0 : w6.cell? ⟨w.heap.size, 0, none⟩ = some (v0_0) := (rA0.next bel).cell 0
  have cA0_1 : w6.cell? ⟨w.heap.size, 1, none⟩ = some (v0_1) := (rA0.next bel).cell 1
  have cx0_0 : w6.cell? ⟨w4.heap.size, 0, none⟩ = some (.slice x0A0 x0n0 x0c0) := (rx0).cell 0
  have cx0_1 : w6.cell? ⟨w4.heap.size, 1, none⟩ = some (.slice x0A1 x0n1 x0c1) := (rx0).cell 1
  have hlenn : gn ≤ 1048576 := by rw [← og.rd.1]; exact hlen.out
  go_wp2_with fail
  refine (intsEq _ _ _ _ _ _ ys _ og.rd (sw.next belw) hlenn).mono ?_
  rintro e w7 ⟨rfl, bb⟩
  replace ox0 := ox0.next bb
  replace rx0 := rx0.next bb
  replace og := og.next bb
  replace bel := next_trans bel bb
  replace belw := next_trans belw bb
  have zw7 := bb.size
  clear bb
  clear cA0_0 cA0_1 cx0_0 cx0_1
  have cA0_0 : w7.cell? ⟨w.heap.size, 0, none⟩ = some (v0_0) := (rA0.next bel).cell 0
  have cA0_1 : w7.cell? ⟨w.heap.size, 1, none⟩ = some (v0_1) := (rA0.next bel).cell 1
  have cx0_0 : w7.cell? ⟨w4.heap.size, 0, none⟩ = some (.slice x0A0 x0n0 x0c0) := (rx0).cell 0
  have cx0_1 : w7.cell? ⟨w4.heap.size, 1, none⟩ = some (.slice x0A1 x0n1 x0c1) := (rx0).cell 1
  go_wp2_with fail
  replace ox0 := ox0.drew
  replace rx0 := rx0.drew
  replace og := og.drew
  replace bel := bel.drew
  replace belw := belw.drew
  have zdw7 := (drew_below w7).size
  go_region_held3 (fun w' => w'.cell? ⟨w4.heap.size, 0, none⟩ = some (.slice x0A0 x0n0 x0c0) ∧ w'.cell? ⟨w4.heap.size, 1, none⟩ = some (.slice x0A1 x0n1 x0c1) ∧ w'.cell? ⟨w.heap.size, 0, none⟩ = some (v0_0) ∧ w'.cell? ⟨w.heap.size, 1, none⟩ = some (v0_1))
    (go_keep)
    (first
      | (go_at_call 45; refine (toK_System _ _ d0 _ (s0.next bel) h0.out).mono ?_; rintro e w8 ⟨t0A0, t0n0, t0c0, t0A1, t0n1, t0c1, rfl, ot, bb⟩; replace ox0 := ox0.next bb; replace rx0 := rx0.next bb; replace og := og.next bb; replace bel := next_trans bel bb; replace belw := next_trans belw bb; have k0_0w8 : w8.cell? ⟨w.heap.size, 0, none⟩ = some (v0_0) := (rA0.next bel).cell 0; have k0_1w8 : w8.cell? ⟨w.heap.size, 1, none⟩ = some (v0_1) := (rA0.next bel).cell 1; have l0_0w8 : w8.cell? ⟨w4.heap.size, 0, none⟩ = some (.slice x0A0 x0n0 x0c0) := rx0.cell 0; have l0_1w8 : w8.cell? ⟨w4.heap.size, 1, none⟩ = some (.slice x0A1 x0n1 x0c1) := rx0.cell 1; have zqw8 := bb.size; clear bb)
      | (go_at_call 46; refine (eqK_System _ _ _ _ d0 _ ox0.rd ot.rd h0.out).mono ?_; rintro e w9 ⟨rfl, bb⟩; replace ox0 := ox0.next bb; replace rx0 := rx0.next bb; replace og := og.next bb; replace bel := next_trans bel bb; replace belw := next_trans belw bb; have k0_0w9 : w9.cell? ⟨w.heap.size, 0, none⟩ = some (v0_0) := (rA0.next bel).cell 0; have k0_1w9 : w9.cell? ⟨w.heap.size, 1, none⟩ = some (v0_1) := (rA0.next bel).cell 1; have l0_0w9 : w9.cell? ⟨w4.heap.size, 0, none⟩ = some (.slice x0A0 x0n0 x0c0) := rx0.cell 0; have l0_1w9 : w9.cell? ⟨w4.heap.size, 1, none⟩ = some (.slice x0A1 x0n1 x0c1) := rx0.cell 1; have zqw9 := bb.size; clear bb ot))
  clear k0_0w8 l0_0w8 k0_1w8 l0_1w8 k0_0w9 l0_0w9 k0_1w9 l0_1w9
  clear cA0_0 cA0_1 cx0_0 cx0_1
  have cA0_0 : w9.cell? ⟨w.heap.size, 0, none⟩ = some (v0_0) := (rA0.next bel).cell 0
  have cA0_1 : w9.cell? ⟨w.heap.size, 1, none⟩ = some (v0_1) := (rA0.next bel).cell 1
  have cx0_0 : w9.cell? ⟨w4.heap.size, 0, none⟩ = some (.slice x0A0 x0n0 x0c0) := (rx0).cell 0
  have cx0_1 : w9.cell? ⟨w4.heap.size, 1, none⟩ = some (.slice x0A1 x0n1 x0c1) := (rx0).cell 1
  obtain ⟨Fox0, fox0, nox0, box0⟩ := ox0
  go_wp2_with fail
  refine (markK_System _ _ d0 (1) Fox0 _ fox0 nox0 h0.out (by omega) (by rw [HK0.out]; omega)).mono ?_
  rintro e w10 ⟨he, omox0, onox0⟩
  rw [HK0.out] at he
  have bt := onox0.btw box0
  clear onox0
  clear omox0 fox0 nox0 box0
  subst he
  replace rx0 := Row.btw rx0 bt (by omega)
  replace og := og.btw bt (by omega)
  replace bel := Below.btw bel bt (by omega) bel.size
  replace belw := Below.btw belw bt (by omega) belw.size
  have zw10 := bt.size
  clear bt
  clear cA0_0 cA0_1 cx0_0 cx0_1
  have cA0_0 : w10.cell? ⟨w.heap.size, 0, none⟩ = some (v0_0) := (rA0.next bel).cell 0
  have cA0_1 : w10.cell? ⟨w.heap.size, 1, none⟩ = some (v0_1) := (rA0.next bel).cell 1
  have cx0_0 : w10.cell? ⟨w4.heap.size, 0, none⟩ = some (.slice x0A0 x0n0 x0c0) := (rx0).cell 0
  have cx0_1 : w10.cell? ⟨w4.heap.size, 1, none⟩ = some (.slice x0A1 x0n1 x0c1) := (rx0).cell 1
  clear rx0
  clear cA0_0 cA0_1 cx0_0 cx0_1
  have cA0_0 : w10.cell? ⟨w.heap.size, 0, none⟩ = some (v0_0) := (rA0.next bel).cell 0
  have cA0_1 : w10.cell? ⟨w.heap.size, 1, none⟩ = some (v0_1) := (rA0.next bel).cell 1
  go_wp2_with fail
  refine (intsEq _ _ _ _ _ _ ys _ og.rd (sw.next belw) hlenn).mono ?_
  rintro e w11 ⟨rfl, bb⟩
  replace og := og.next bb
  replace bel := next_trans bel bb
  replace belw := next_trans belw bb
  have zw11 := bb.size
  clear bb
  clear cA0_0 cA0_1
  have cA0_0 : w11.cell? ⟨w.heap.size, 0, none⟩ = some (v0_0) := (rA0.next bel).cell 0
  have cA0_1 : w11.cell? ⟨w.heap.size, 1, none⟩ = some (v0_1) := (rA0.next bel).cell 1
  go_wp2_with fail
  refine (intsMark (w5.heap.size) (w6.heap.size) _ _ _ ys 1 _ og hlenn (by omega) (by omega)).mono ?_
  rintro e w12 ⟨he, om, bt⟩
  subst he
  clear og
  replace bel := Below.btw bel bt (by omega) bel.size
  replace belw := Below.btw belw bt (by omega) belw.size
  have zw12 := bt.size
  clear bt
  clear cA0_0 cA0_1
  have cA0_0 : w12.cell? ⟨w.heap.size, 0, none⟩ = some (v0_0) := (rA0.next bel).cell 0
  have cA0_1 : w12.cell? ⟨w.heap.size, 1, none⟩ = some (v0_1) := (rA0.next bel).cell 1
  go_wp2_with fail
  refine (intsHeld _ _ _ 1 _ om.rd hlenn (by omega) (by omega)).mono ?_
  rintro e w13 ⟨rfl, bb⟩
  replace om := om.next bb
  replace bel := next_trans bel bb
  replace belw := next_trans belw bb
  have zw13 := bb.size
  clear bb
  clear cA0_0 cA0_1
  have cA0_0 : w13.cell? ⟨w.heap.size, 0, none⟩ = some (v0_0) := (rA0.next bel).cell 0
  have cA0_1 : w13.cell? ⟨w.heap.size, 1, none⟩ = some (v0_1) := (rA0.next bel).cell 1
  go_wp2_with fail
  refine (toK_System _ _ d0 _ (s0.next bel) h0.out).mono ?_
  rintro e w14 ⟨p0A0, p0n0, p0c0, p0A1, p0n1, p0c1, rfl, op0, bb⟩
  replace om := om.next bb
  replace bel := next_trans bel bb
  replace belw := next_trans belw bb
  have zw14 := bb.size
  clear bb
  clear cA0_0 cA0_1
  have cA0_0 : w14.cell? ⟨w.heap.size, 0, none⟩ = some (v0_0) := (rA0.next bel).cell 0
  have cA0_1 : w14.cell? ⟨w.heap.size, 1, none⟩ = some (v0_1) := (rA0.next bel).cell 1
  go_wp2_with fail
  refine (implConstructorsIn _ _ d0 _ op0.rd h0.out).mono ?_
  rintro e w15 ⟨hA, hn, hc, he, o0, bb⟩
  rw [HY.out] at o0
  subst he
  replace om := om.next bb
  replace op0 := op0.next bb
  replace bel := next_trans bel bb
  replace belw := next_trans belw bb
  have zw15 := bb.size
  clear bb
  have sh := Own.seg o0
  clear o0
  clear op0
  clear cA0_0 cA0_1
  have cA0_0 : w15.cell? ⟨w.heap.size, 0, none⟩ = some (v0_0) := (rA0.next bel).cell 0
  have cA0_1 : w15.cell? ⟨w.heap.size, 1, none⟩ = some (v0_1) := (rA0.next bel).cell 1
  have belh := Below.refl w15.heap.size w15
  clear cA0_0 cA0_1
  have cA0_0 : w15.cell? ⟨w.heap.size, 0, none⟩ = some (v0_0) := (rA0.next bel).cell 0
  have cA0_1 : w15.cell? ⟨w.heap.size, 1, none⟩ = some (v0_1) := (rA0.next bel).cell 1
  go_wp2_with fail
  refine (intsEq _ _ _ _ _ _ ys _ (sh.next belh) (sw.next belw) (by rw [← sh.1]; exact hlen.out)).mono ?_
  rintro e w16 ⟨rfl, bb⟩
  replace om := om.next bb
  replace bel := next_trans bel bb
  replace belw := next_trans belw bb
  replace belh := next_trans belh bb
  have zw16 := bb.size
  clear bb
  clear cA0_0 cA0_1
  have cA0_0 : w16.cell? ⟨w.heap.size, 0, none⟩ = some (v0_0) := (rA0.next bel).cell 0
  have cA0_1 : w16.cell? ⟨w.heap.size, 1, none⟩ = some (v0_1) := (rA0.next bel).cell 1
  go_wp2_with fail
  refine (intsHeld _ _ _ 1 _ om.rd hlenn (by omega) (by omega)).mono ?_
  rintro e w17 ⟨rfl, bb⟩
  replace om := om.next bb
  replace bel := next_trans bel bb
  replace belw := next_trans belw bb
  replace belh := next_trans belh bb
  have zw17 := bb.size
  clear bb
  clear cA0_0 cA0_1
  have cA0_0 : w17.cell? ⟨w.heap.size, 0, none⟩ = some (v0_0) := (rA0.next bel).cell 0
  have cA0_1 : w17.cell? ⟨w.heap.size, 1, none⟩ = some (v0_1) := (rA0.next bel).cell 1
  have F := Lib.hid (bW.trans (bel.mono bW.size))
  clear bel belw belh om bW cA0_0 cA0_1
  go_wp2
  go_ret
  exact ⟨rfl, F.out⟩
end Go.Proofs.Ytdkjafjphgcbjaa.wConstructorsIn
end

section
/-
  ARGUMENTS OPENED OVER SHAPES: an argument of a law, as the row's form hands it over, reads as data ('Rd'), its numbers are numbers of 64 bits ('Wf'); whether a type has a shape is reckoned ('fitsB'). Conditions: none; plain lemmas over any program. By an AI agent.
-/
namespace Go.Proofs.Ytdkjafjphgcbjaa.openX
open Go.ChangeShapes Go.WideShapes Go.ChangeAt Go.RowKit Go.Proofs.Ytdkjafjphgcbjaa.base Go.Proofs.Ytdkjafjphgcbjaa.segs Go.Proofs.Ytdkjafjphgcbjaa.shape

/-- every number is one of 64 bits -/
def Wf : (s : Sh) → Dat s → Prop
  | .num, (x : Int) => -9223372036854775808 ≤ x ∧ x ≤ 9223372036854775807
  | .bit, _ => True
  | .row _ s, (d : List (Dat s)) => ∀ j, j < d.length → Wf s (d.getD j (dft s))
  | .cat a b, d => Wf a d.1 ∧ Wf b d.2
mutual
def fitsB (P : Program) : Nat → Sh → TypeId → Bool
  | 0, _, _ => false
  | n + 1, s, t => match P.underlying t with
    | some (.struct fs) => P.cellsOf t == nc s && fitsL P n fs.toList 0 s
    | some (.int .i64) => match s with | .num => true | _ => false
    | some .bool => match s with | .bit => true | _ => false
    | some (.slice e) => match s with | .row _ s' => P.cellsOf e == nc s' && fitsB P n s' e | _ => false
    | _ => false
def fitsL (P : Program) : Nat → List Field → Nat → Sh → Bool
  | 0, _, _, _ => false
  | _ + 1, [], _, _ => false
  | n + 1, [f], k, s => f.offset == k && (P.cellsOf f.type == nc s && fitsB P n s f.type)
  | n + 1, f :: g :: fs, k, s => match s with | .cat a b => f.offset == k && (P.cellsOf f.type == nc a && (fitsB P n a f.type && fitsL P n (g :: fs) (k + nc a) b)) | _ => false
end

section
variable {H : Type} {enc : TypeId × Value → H} {P : Program} {w : World} {held : Bool}
theorem addr_add {b off i : Nat} : (⟨b, off, none⟩ : Addr).add i = ⟨b, off + i, none⟩ := by unfold Addr.add; split <;> simp_all
theorem rd_trod : ∀ n : Nat, (∀ (s : Sh) (t : TypeId) (fuel : Nat) (cs : List Value) (x : DataW H × List MemPlace), fitsB P n s t = true → DataW.trod enc P w 0 (fun _ => true) held fuel t cs = some x → ∃ d, Rd w w.heap.size s cs d ∧ Wf s d) ∧
    (∀ (fs : List Field) (k : Nat) (s : Sh) (cs : List Value) (m : Nat), fitsL P n fs k s = true → (∀ (i : Nat) (f : Field), fs[i]? = some f → ∃ x, DataW.trod enc P w 0 (fun _ => true) held m f.type ((cs.drop f.offset).take (P.cellsOf f.type)) = some x) →
      ∃ d, Rd w w.heap.size s ((cs.drop k).take (nc s)) d ∧ Wf s d) := by
  intro n
  induction n with
  | zero => exact ⟨fun _ _ _ _ _ h => by simp [fitsB] at h, fun _ _ _ _ _ h => by simp [fitsL] at h⟩
  | succ n ih =>
    refine ⟨fun s t fuel cs x hf h => ?_, fun fs k s cs m hf h => ?_⟩
    · unfold fitsB at hf
      split at hf
      · rename_i fs hu
        simp only [Bool.and_eq_true, beq_iff_eq] at hf
        obtain ⟨xs, n', hfu, hx, hlen, hxl, hg⟩ := DataW.trod_struct hu h
        obtain ⟨d, hr, hw⟩ := ih.2 fs.toList 0 s cs n' hf.2 (fun i f hi => by
          have hi' : fs[i]? = some f := by simpa using hi
          have h1 := hg i f hi'
          have hlt : i < fs.size := (Array.getElem?_eq_some_iff.1 hi').1
          exact ⟨xs[i]'(by omega), by rw [h1]; exact List.getElem?_eq_getElem (by omega)⟩)
        rw [List.drop_zero, List.take_of_length_le (by omega)] at hr
        exact ⟨d, hr, hw⟩
      · rename_i hu
        split at hf
        · obtain ⟨z, e1, _, hw⟩ := DataW.trod_int hu h
          refine ⟨z, e1, ?_⟩
          show -9223372036854775808 ≤ z ∧ z ≤ 9223372036854775807
          simpa [Lit.wf, IntKind.min, IntKind.max, IntKind.signed, IntKind.bits] using hw
        · cases hf
      · rename_i hu
        split at hf
        · obtain ⟨z, e1, _⟩ := DataW.trod_bool hu h
          exact ⟨z, e1, trivial⟩
        · cases hf
      · rename_i e hu
        split at hf
        · rename_i e0 s'
          simp only [Bool.and_eq_true, beq_iff_eq] at hf
          rcases Go.Deep.open_slice hu h with ⟨hcs, _⟩ | ⟨a, len, cap, m, n', D, Pl, hcs, _, hl, hm, hmm, _, hi⟩
          · exact ⟨[], ⟨none, 0, 0, hcs, ⟨by omega, by omega, fun _ => rfl⟩, rfl, fun h => absurd h (by omega)⟩, fun j hj => absurd hj (Nat.not_lt_zero _)⟩
          · have hmc : m = cap := by simpa using hmm
            subst hmc
            have hd : ∀ j, j < len → ∃ (es : List Value) (dj : Dat s'), es.length = nc s' ∧ (∀ i, i < nc s' → w.cell? ((a.add (j * nc s')).add i) = es[i]?) ∧ Rd w w.heap.size s' es dj ∧ Wf s' dj := fun j hj => by
              obtain ⟨cs', hc, ht⟩ := hi j (by omega)
              obtain ⟨dj, hr, hw⟩ := ih.1 s' e n' cs' _ hf.2 ht
              rw [hf.1] at hc
              obtain ⟨_, hcl, hat⟩ := World.cells?_some hc
              exact ⟨cs', dj, hcl, hat, hr, hw⟩
            have hspot : 0 < len → a.spot = none := fun h0 => by
              obtain ⟨es, dj, h1, h2, _⟩ := hd 0 h0
              have hp := nc_pos s'
              have h3 := h2 0 (by omega)
              rw [List.getElem?_eq_getElem (by omega)] at h3
              have := World.cell?_spot h3
              simpa [Addr.add] using this
            obtain ⟨ds, hdl, hds⟩ : ∃ ds : List (Dat s'), ds.length = len ∧ ∀ j, j < len → ∃ es : List Value, es.length = nc s' ∧ (∀ i, i < nc s' → w.cell? ((a.add (j * nc s')).add i) = es[i]?) ∧ Rd w w.heap.size s' es (ds.getD j (dft s')) ∧ Wf s' (ds.getD j (dft s')) := by
              refine ⟨(List.range len).map fun j => if hj : j < len then Classical.choose (Classical.choose_spec (hd j hj)) else dft s', by simp, fun j hj => ?_⟩
              refine ⟨Classical.choose (hd j hj), ?_⟩
              have h1 := Classical.choose_spec (Classical.choose_spec (hd j hj))
              have e1 : ((List.range len).map fun j => if hj : j < len then Classical.choose (Classical.choose_spec (hd j hj)) else dft s').getD j (dft s') = Classical.choose (Classical.choose_spec (hd j hj)) := by simp [List.getD, hj]
              rw [e1]
              exact h1
            refine ⟨ds, ⟨some a, len, m, hcs, ⟨hl, by unfold maxLen at hm; omega, fun e => by cases e⟩, hdl, fun h0 => ?_⟩, fun j hj => by
              obtain ⟨es, _, _, _, hw⟩ := hds j (by rw [← hdl]; exact hj)
              exact hw⟩
            obtain ⟨b, off, spot⟩ := a
            have hs := hspot h0
            simp only at hs
            subst hs
            refine ⟨b, off, rfl, ?_, fun j hj => ?_⟩
            · obtain ⟨es, h1, h2, _⟩ := hds 0 h0
              have hp := nc_pos s'
              have h3 := h2 0 (by omega)
              rw [List.getElem?_eq_getElem (by omega)] at h3
              have h4 := World.block_lt_of_cell? _ _ h3
              simpa [addr_add] using h4
            · obtain ⟨es, h1, h2, h3, _⟩ := hds j hj
              refine ⟨es, h1, fun i hi2 => ?_, h3⟩
              have := h2 i (by omega)
              rw [addr_add, addr_add] at this
              exact this
        · cases hf
      · cases hf
    · match fs, hf, h with
      | [], hf, _ => simp [fitsL] at hf
      | [f], hf, h =>
        unfold fitsL at hf
        simp only [Bool.and_eq_true, beq_iff_eq] at hf
        obtain ⟨h1, h2, h3⟩ := hf
        obtain ⟨x, hx⟩ := h 0 f rfl
        rw [h1, h2] at hx
        exact ih.1 s f.type m _ x h3 hx
      | f :: g :: fs, hf, h =>
        cases s with
        | cat a b =>
          unfold fitsL at hf
          simp only [Bool.and_eq_true, beq_iff_eq] at hf
          obtain ⟨h1, h2, h3, h4⟩ := hf
          obtain ⟨x, hx⟩ := h 0 f rfl
          rw [h1, h2] at hx
          obtain ⟨d1, r1, w1⟩ := ih.1 a f.type m _ x h3 hx
          obtain ⟨d2, r2, w2⟩ := ih.2 (g :: fs) (k + nc a) b cs m h4 (fun i f' hi => h (i + 1) f' hi)
          refine ⟨(d1, d2), ⟨_, _, ?_, r1, r2⟩, w1, w2⟩
          show List.take (nc a + nc b) (List.drop k cs) = _
          rw [List.take_add, List.drop_drop]
        | num => simp [fitsL] at hf
        | bit => simp [fitsL] at hf
        | row e s' => simp [fitsL] at hf
/-- a slice, or a number, as an argument -/
theorem open_val {s : Sh} {t : TypeId} {v : Value} {d : DataW H} {p : List MemPlace} {n : Nat} (hf : fitsB P n s t = true) (h : DataW.Trod enc P w 0 (fun _ => true) held t v d p) : ∃ x, Rd w w.heap.size s v.cells.toList x ∧ Wf s x := by
  obtain ⟨fuel, hfu⟩ := h
  exact (rd_trod n).1 s t fuel _ _ hf hfu
end
end Go.Proofs.Ytdkjafjphgcbjaa.openX
end
