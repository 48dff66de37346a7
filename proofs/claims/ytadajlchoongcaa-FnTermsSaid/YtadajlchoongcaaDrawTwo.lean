/-
  CONTRACTS: spec.l1New, l1DrawTwo, DrawLessTerm. Conditions: at most 4096 bytes. By an AI agent.
-/
import Derived.Test.YtadajlchoongcaaDrawAny
import Derived.Test.YtadajlchoongcaaSub
namespace Go.Proofs.Ytadajlchoongcaa.drawTwo
open Go.RowKit Go.Proofs.Ytadajlchoongcaa.base Go.Proofs.Ytadajlchoongcaa.ints Go.Proofs.Ytadajlchoongcaa.sig Go.Proofs.Ytadajlchoongcaa.term Go.Proofs.Ytadajlchoongcaa.cursor Go.Proofs.Ytadajlchoongcaa.termOk Go.Proofs.Ytadajlchoongcaa.marks Go.Proofs.Ytadajlchoongcaa.app Go.Proofs.Ytadajlchoongcaa.sym Go.Proofs.Ytadajlchoongcaa.sub Go.Proofs.Ytadajlchoongcaa.dice Go.Proofs.Ytadajlchoongcaa.drawSig Go.Proofs.Ytadajlchoongcaa.drawTerm Go.Proofs.Ytadajlchoongcaa.drawAny

/-- a new cursor -/
def AnsNew (w : World) (A : Option Addr) (n c : Nat) (e : Ending) (w' : World) : Prop := ∃ p, e = .returned (.pointer (some ⟨p, 0, none⟩)) ∧ w.heap.size ≤ p ∧ Dice w' p A n c ∧ Below w.heap.size w w'

set_option maxHeartbeats 1000000 in
theorem new_ (A : Option Addr) (n c : Nat) (w : World) (h : SegB w w.heap.size A n) (hn : n ≤ 4096) :
    Calls Try.prog 49 #[.slice A n c] w (AnsNew w A n c) := by
  go_enter Try.func49, Try.ntmps49
  go_wp2_with fail
  go_loop [3, 4] (fun hh i => ∃ (k : Nat) (h0 : Int), k ≤ n ∧ i = .int .i64 k ∧ hh = .int .i64 h0) (fun _ i => n - (intOf i).toNat)
  case atStart => exact ⟨0, _, Nat.zero_le _, rfl, rfl⟩
  case round =>
    obtain ⟨k, h0, hk, rfl, rfl⟩ := hrel
    by_cases hlt : k < n
    · obtain ⟨b, off, rfl, hb, hc⟩ := h (by omega)
      obtain ⟨y, hy0, hy1, hy⟩ := hc k hlt
      clear hc h
      go_wp2
      go_round
      case rel => exact ⟨k + 1, _, hlt, by go_num, rfl⟩
      case measure => simp [intOf]; omega
    · have F : AnsNew w A n c (.returned (.pointer (some ⟨w.heap.size, 0, none⟩))) (w.alloc (.cells #[.slice A n c, .int .i64 0, .int .i64 h0] 73)) :=
        ⟨_, rfl, Nat.le_refl _, ⟨0, h0, Row.new _ _ _, Nat.zero_le _, h.keep (fun q hq => World.cell?_alloc_lt w _ q hq), hn⟩, (Below.refl _ _).alloc (Nat.le_refl _) _⟩
      have HF := Lib.hid F
      clear F h
      go_wp2
      go_ret
      exact HF.out

/-- two drawn lists -/
def AnsTwo (w : World) (p : Nat) (e : Ending) (w' : World) : Prop :=
  ∃ O1 n1 c1 xs O2 n2 c2 ys, e = .returned (.tuple #[.slice O1 n1 c1, .slice O2 n2 c2]) ∧ Rd w' p w'.heap.size O1 n1 xs ∧ Rd w' p w'.heap.size O2 n2 ys ∧ n1 ≤ 65 ∧ n2 ≤ 65 ∧ w.grownBy w' (some p)

set_option maxHeartbeats 4000000 in
theorem drawTwo (p : Nat) (A : Option Addr) (n c : Nat) (w : World) (hd : Dice w p A n c) :
    Calls Try.prog 62 #[.pointer (some ⟨p, 0, none⟩)] w (AnsTwo w p) := by
  have hp := hd.lt
  have L := Lib.hid (drawSig p A n c w hd)
  clear hd
  go_enter Try.func62, Try.ntmps62
  go_wp2_with fail
  refine L.out.mono ?_
  rintro e w1 ⟨S, sn, sc, sg, rfl, o1, hgood, d1, g1⟩
  have hsn : sn ≤ 4 := by have := Own.len o1; have := hgood.2.1; omega
  have T0 := DT.start (sc := sc) d1 (Rd.of_own o1 hp)
  obtain ⟨W, hW⟩ : ∃ W, W = w1.alloc (.cells #[.slice S sn sc] 26) := ⟨_, rfl⟩
  rw [← hW] at T0
  have HW := Lib.hid hW
  have cV : W.cell? ⟨w1.heap.size, 0, none⟩ = some (.slice S sn sc) := T0.r.cell 0
  clear L o1 hgood d1 hW
  go_wp2_with fail
  rw [← HW.out]
  refine (drawAny p A n c S sn sc sg W T0.d (T0.s.more T0.g.size) (by omega)).mono ?_
  rintro e w2 ⟨O1, n1, c1, xs, rfl, ra, hc1, hc1', hno1, hn1, d2, g2⟩
  have T1 := T0.dice d2 g2
  clear T0 d2 g2 cV
  have cV : w2.cell? ⟨w1.heap.size, 0, none⟩ = some (.slice S sn sc) := T1.r.cell 0
  go_wp2_with fail
  refine (drawAny p A n c S sn sc sg w2 T1.d (T1.s.more T1.g.size) (by omega)).mono ?_
  rintro e w3 ⟨O2, n2, c2, ys, rfl, rb, hc2, hc2', hno2, hn2, d3, g3⟩
  have T2 := T1.dice d3 g3
  replace ra := (ra.grown g3 (Nat.le_refl _)).more g3.size
  clear T1 d3 g3 cV
  have L3 := Lib.hid (once p A n c 3 w3 T2.d (by omega) (by omega))
  go_wp2_with fail
  refine L3.out.mono ?_
  rintro e w4 ⟨b, rfl, d4, g4⟩
  have T3 := T2.dice d4 g4
  replace ra := (ra.grown g4 (Nat.le_refl _)).more g4.size
  replace rb := (rb.grown g4 (Nat.le_refl _)).more g4.size
  clear T2 d4 g4 L3
  cases b with
  | false =>
    have F : AnsTwo w p (.returned (.tuple #[.slice O1 n1 c1, .slice O2 n2 c2])) w4 := ⟨O1, n1, c1, xs, O2, n2, c2, ys, rfl, ra, rb, hn1, hn2, grown_trans g1 T3.g⟩
    have HF := Lib.hid F
    clear F T3 ra rb
    go_wp2
    go_ret2
    exact HF.out
  | true =>
    have hp4 : p < w4.heap.size := T3.d.lt
    go_wp2_with fail
    refine (copyInts O1 n1 c1 xs w4 ra.seg hno1 (by omega)).mono ?_
    rintro e w5 ⟨O3, n3, c3, rfl, o3, bb⟩
    have hn3 : n3 = n1 := by rw [Own.len o3]; exact ra.1
    subst hn3
    have hz := T3.r.lt
    have T4 := T3.below (bb.mono (by omega))
    have ra4 := ra.below bb (Nat.le_refl _)
    have z45 := bb.size
    clear T3 bb ra rb
    go_wp2_with fail
    refine (once p A n c 2 _ T4.d (by omega) (by omega)).mono ?_
    rintro e w6 ⟨b, rfl, d6, g6⟩
    have T5 := T4.dice d6 g6
    have ra5 := ra4.grown g6 z45
    have o5 := Own.far o3 g6 (fun k hk => by injection hk; omega)
    have z56 := g6.size
    clear T4 d6 g6 ra4 o3
    have done : ∀ (wz : World) (O3 : Option Addr) (c3 : Nat) (zs : List Int) (ra' : Rd wz p w4.heap.size O1 n3 xs) (o' : Own wz w4.heap.size (.slice O3 n3 c3) zs) (gz : w1.grownBy wz (some p)) (hz : w4.heap.size ≤ wz.heap.size), AnsTwo w p (.returned (.tuple #[.slice O1 n3 c1, .slice O3 n3 c3])) wz :=
      fun wz O3 c3 zs ra' o' gz hz => ⟨O1, n3, c1, xs, O3, n3, c3, zs, rfl, ra'.more hz, Rd.of_own o' hp4, hn1, hn1, grown_trans g1 gz⟩
    have DONE := Lib.hid done
    clear done
    cases b with
    | false =>
      have HF := Lib.hid (DONE.out _ _ _ _ ra5 o5 T5.g (by omega))
      clear T5 ra5 o5 DONE
      go_wp2
      go_ret2
      exact HF.out
    | true =>
      by_cases h0 : n3 = 0
      · subst h0
        have HF := Lib.hid (DONE.out _ _ _ _ ra5 o5 T5.g (by omega))
        clear T5 ra5 o5 DONE
        go_wp2
        go_ret2
        exact HF.out
      · have hpos : (0 : Int) < (n3 : Int) := by omega
        obtain ⟨gg, rfl⟩ := Own.some_ o5 (by omega)
        have hgg := Own.ge o5 gg rfl
        go_wp2_with fail
        refine (below p A n c (n3 : Int) _ T5.d (by omega) (by omega)).mono ?_
        rintro e w7 ⟨y, rfl, y0, y1, d7, g7⟩
        obtain ⟨k, rfl⟩ := Int.eq_ofNat_of_zero_le y0
        have T6 := T5.dice d7 g7
        have ra6 := ra5.grown g7 (by omega)
        have o6 := Own.far o5 g7 (fun k hk => by injection hk; omega)
        have z67 := g7.size
        clear T5 d7 g7 ra5 o5
        go_wp2_with fail
        refine (fromTo p A n c (-3) 3 _ T6.d (by omega) (by omega) (by omega) (by omega)).mono ?_
        rintro e w8 ⟨z, rfl, z0, z1, d8, g8⟩
        have T7 := T6.dice d8 g8
        have ra7 := ra6.grown g8 (by omega)
        have o7 := Own.far o6 g8 (fun k hk => by injection hk; omega)
        have z78 := g8.size
        have hk : k < n3 := by omega
        have i1 : (k : Int) < (n3 : Int) := by omega
        obtain ⟨u, hu⟩ := Own.cellAt o7 hk
        have hf := Own.frozenAt o7 k
        have o8 := Own.put o7 k z
        have b8 : Below w4.heap.size w8 (w8.setCell ⟨gg, k, none⟩ (.int .i64 z)) := (Below.refl _ _).setCell (p := ⟨gg, k, none⟩) hgg (.int .i64 z)
        have T8 := T7.below (b8.mono (by omega))
        have ra8 := ra7.below b8 (Nat.le_refl _)
        have HF := Lib.hid (DONE.out _ _ _ _ ra8 o8 T8.g (by simp; omega))
        clear T8 T7 T6 o8 o7 o6 ra8 ra7 ra6 b8 d8 g8 DONE
        go_wp2
        go_ret2
        exact HF.out

/-- what DrawLessTerm gives -/
def AnsLT (w : World) (e : Ending) (w' : World) : Prop :=
  ∃ O1 n1 c1 xs O2 n2 c2 ys, e = .returned (.tuple #[.slice O1 n1 c1, .slice O2 n2 c2]) ∧ Seg w' w'.heap.size O1 n1 xs ∧ Seg w' w'.heap.size O2 n2 ys ∧ n1 ≤ 65 ∧ n2 ≤ 65 ∧ Below w.heap.size w w'

set_option maxHeartbeats 1000000 in
theorem drawLessTerm (A : Option Addr) (n c : Nat) (w : World) (h : SegB w w.heap.size A n) (hn : n ≤ 4096) :
    Calls Try.prog 27 #[.slice A n c] w (AnsLT w) := by
  have L := Lib.hid (new_ A n c w h hn)
  clear h
  go_enter Try.func27, Try.ntmps27
  go_wp2_with fail
  refine L.out.mono ?_
  rintro e w1 ⟨p, rfl, hp, d1, b1⟩
  have L2 := Lib.hid (drawTwo p A n c w1 d1)
  clear d1 L
  go_wp2_with fail
  refine L2.out.mono ?_
  rintro e w2 ⟨O1, n1, c1, xs, O2, n2, c2, ys, rfl, ra, rb, h1, h2, g2⟩
  have F : AnsLT w (.returned (.tuple #[.slice O1 n1 c1, .slice O2 n2 c2])) w2 := ⟨O1, n1, c1, xs, O2, n2, c2, ys, rfl, ra.seg, rb.seg, h1, h2, b1.grown g2 b1.size (fun k hk => by injection hk; omega)⟩
  have HF := Lib.hid F
  clear F ra rb b1 g2 L2
  go_wp2
  go_ret2
  exact HF.out
end Go.Proofs.Ytadajlchoongcaa.drawTwo
