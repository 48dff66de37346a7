/-
  CONTRACT: spec.DrawVariantIn: a drawn signature and two drawn lists. Conditions: at most 4096 bytes. By an AI agent.
-/
import Derived.Test.YtdeegjeopkcomaaDrawOne
import Derived.Test.YtdeegjeopkcomaaShifted
namespace Go.Proofs.Ytdeegjeopkcomaa.drawVar
open Go.RowKit Go.Proofs.Ytdeegjeopkcomaa.base Go.Proofs.Ytdeegjeopkcomaa.ints Go.Proofs.Ytdeegjeopkcomaa.sig Go.Proofs.Ytdeegjeopkcomaa.term Go.Proofs.Ytdeegjeopkcomaa.cursor Go.Proofs.Ytdeegjeopkcomaa.termOk Go.Proofs.Ytdeegjeopkcomaa.marks Go.Proofs.Ytdeegjeopkcomaa.app Go.Proofs.Ytdeegjeopkcomaa.sym Go.Proofs.Ytdeegjeopkcomaa.dice Go.Proofs.Ytdeegjeopkcomaa.drawSig Go.Proofs.Ytdeegjeopkcomaa.drawTerm Go.Proofs.Ytdeegjeopkcomaa.drawAny Go.Proofs.Ytdeegjeopkcomaa.drawTwo Go.Proofs.Ytdeegjeopkcomaa.drawPair Go.Proofs.Ytdeegjeopkcomaa.drawOne Go.Proofs.Ytdeegjeopkcomaa.fillMath Go.Proofs.Ytdeegjeopkcomaa.shifted

theorem Seg.other {w : World} {B N : Nat} {O : Option Addr} {on : Nat} {xs : List Int} {a : Option Addr} {l k : Nat} (h : Seg w B O on xs) (hN : w.cell? ⟨N, 0, none⟩ = some (.slice a l k)) (u : Value) : Seg (w.setCell ⟨N, 0, none⟩ u) B O on xs :=
  ⟨h.1, fun hn => by
    obtain ⟨b, off, e, hb, hc⟩ := h.2 hn
    refine ⟨b, off, e, hb, fun j hj => ?_⟩
    rw [World.cell?_setCell_other w _ _ _ (fun e => by have := hc j hj; rw [← e, hN] at this; cases this)]
    exact hc j hj⟩

/-- what is known in the course of the draw: the result's box at w.heap.size, the signature's variable at v -/
structure V3 (w : World) (p : Nat) (A : Option Addr) (n c v : Nat) (S : Option Addr) (sn sc : Nat) (sg : List Int) (O : Option Addr) (on : Nat) (xs : List Int) (wr : World) : Prop where
  d : Dice wr p A n c
  rN : Row wr w.heap.size 26 #[.slice none 0 0]
  rV : Row wr v 26 #[.slice S sn sc]
  s : Rd wr p wr.heap.size S sn sg
  o : Rd wr p wr.heap.size O on xs
  b : Below w.heap.size w wr
  hp : w.heap.size < p
  pv : p < v
section
variable {w : World} {p : Nat} {A : Option Addr} {n c v : Nat} {S : Option Addr} {sn sc : Nat} {sg : List Int} {O : Option Addr} {on : Nat} {xs : List Int} {wr w' : World}
theorem V3.dice (t : V3 w p A n c v S sn sc sg O on xs wr) (d : Dice w' p A n c) (hg : wr.grownBy w' (some p)) : V3 w p A n c v S sn sc sg O on xs w' :=
  ⟨d, Row.away t.rN hg (fun e => by injection e; have := t.hp; omega), Row.away t.rV hg (fun e => by injection e; have := t.pv; omega), (t.s.grown hg (Nat.le_refl _)).more hg.size, (t.o.grown hg (Nat.le_refl _)).more hg.size, t.b.grown hg t.b.size (fun k hk => by injection hk; have := t.hp; omega), t.hp, t.pv⟩
theorem V3.next (t : V3 w p A n c v S sn sc sg O on xs wr) (hb : Below wr.heap.size wr w') : V3 w p A n c v S sn sc sg O on xs w' :=
  ⟨t.d.next hb, t.rN.next hb, t.rV.next hb, (t.s.below hb (Nat.le_refl _)).more hb.size, (t.o.below hb (Nat.le_refl _)).more hb.size, next_trans t.b hb, t.hp, t.pv⟩
theorem V3.drew (t : V3 w p A n c v S sn sc sg O on xs wr) : V3 w p A n c v S sn sc sg O on xs wr.drew := t.next ⟨rfl, rfl, rfl, Nat.le_refl _, fun _ _ => rfl⟩
end

/-- a drawn signature and two drawn lists -/
def AnsTri (w : World) (e : Ending) (w' : World) : Prop :=
  ∃ S sn sc sg O on oc xs Q qn qc ys, e = .returned (.tuple #[.agg #[.slice S sn sc], .slice O on oc, .slice Q qn qc]) ∧ Seg w' w'.heap.size S sn sg ∧ Seg w' w'.heap.size O on xs ∧ Seg w' w'.heap.size Q qn ys ∧ sn ≤ 9 ∧ on ≤ 65 ∧ qn ≤ 65 ∧ Below w.heap.size w w'
theorem tri_of {w u : World} {p : Nat} {A : Option Addr} {n c v : Nat} {S : Option Addr} {sn sc : Nat} {sg : List Int} {O : Option Addr} {on oc : Nat} {xs : List Int} {Q : Option Addr} {qn qc : Nat} {ys : List Int} (t : V3 w p A n c v S sn sc sg O on xs u) (hq : Seg u u.heap.size Q qn ys)
    (h1 : sn ≤ 9) (h2 : on ≤ 65) (h3 : qn ≤ 65) : AnsTri w (.returned (.tuple #[.agg #[.slice S sn sc], .slice O on oc, .slice Q qn qc])) (u.setCell ⟨w.heap.size, 0, none⟩ (.slice S sn sc)) :=
  ⟨S, sn, sc, sg, O, on, oc, xs, Q, qn, qc, ys, rfl, (Seg.other t.s.seg (t.rN.cell 0) _).more (by simp), (Seg.other t.o.seg (t.rN.cell 0) _).more (by simp), (Seg.other hq (t.rN.cell 0) _).more (by simp), h1, h2, h3, t.b.setCell (Nat.le_refl _) _⟩

theorem segB_below {w w' : World} {A : Option Addr} {n : Nat} (h : SegB w w.heap.size A n) (hb : Below w.heap.size w w') : SegB w' w'.heap.size A n := fun hp => by
  obtain ⟨b, off, e, hbb, hc⟩ := h hp
  refine ⟨b, off, e, Nat.lt_of_lt_of_le hbb hb.size, fun j hj => ?_⟩
  obtain ⟨x, x0, x1, hx⟩ := hc j hj
  exact ⟨x, x0, x1, (hb.cell (p := ⟨b, off + j, none⟩) hbb).trans hx⟩

set_option maxHeartbeats 4000000 in
theorem drawVariantIn (A : Option Addr) (n c : Nat) (w : World) (h : SegB w w.heap.size A n) (hn : n ≤ 4096) :
    Calls Try.prog 30 #[.slice A n c] w (AnsTri w) := by
  obtain ⟨W0, hW0⟩ : ∃ W0, W0 = w.alloc (.cells #[.slice none 0 0] 26) := ⟨_, rfl⟩
  have rN : Row W0 w.heap.size 26 #[.slice none 0 0] := by rw [hW0]; exact Row.new _ _ _
  have b0 : Below w.heap.size w W0 := by rw [hW0]; exact (Below.refl _ _).alloc (Nat.le_refl _) _
  have L := Lib.hid (new_ A n c W0 (segB_below h b0) hn)
  have HW0 := Lib.hid hW0
  clear h hW0
  go_enter Try.func30, Try.ntmps30
  go_wp2_with fail
  rw [← HW0.out]
  refine L.out.mono ?_
  rintro e w1 ⟨p, rfl, hp, d1, bb⟩
  have hNp : w.heap.size < p := Nat.lt_of_lt_of_le rN.lt hp
  replace rN := rN.next bb
  have bel := next_trans b0 bb
  have L2 := Lib.hid (drawOne p A n c w1 d1)
  clear d1 bb b0 L
  go_wp2_with fail
  refine L2.out.mono ?_
  rintro e w2 ⟨S, sn, sc, sg, O, on, oc, xs, rfl, rs, ro, hsn, hon, -, -, d2, g2⟩
  replace rN := Row.away rN g2 (fun e => by injection e; omega)
  have bel2 : Below w.heap.size w w2 := bel.grown g2 bel.size (fun k hk => by injection hk; omega)
  obtain ⟨v, hv⟩ : ∃ v, w2.heap.size = v := ⟨_, rfl⟩
  obtain ⟨W, hW⟩ : ∃ W, W = w2.alloc (.cells #[.slice S sn sc] 26) := ⟨_, rfl⟩
  have hpv := d2.lt
  have T : V3 w p A n c v S sn sc sg O on xs W := by
    have bb : Below w2.heap.size w2 W := by rw [hW]; exact (Below.refl _ _).alloc (Nat.le_refl _) _
    exact ⟨d2.next bb, rN.next bb, by rw [hW, ← hv]; exact Row.new _ _ _, (rs.below bb (Nat.le_refl _)).more bb.size, (ro.below bb (Nat.le_refl _)).more bb.size, next_trans bel2 bb, hNp, by omega⟩
  have HW := Lib.hid hW
  have HV := Lib.hid hv
  have cV : W.cell? ⟨v, 0, none⟩ = some (.slice S sn sc) := T.rV.cell 0
  clear bel bel2 g2 rs ro d2 L2 rN hW hv hpv
  go_wp2_with fail
  rw [← HW.out, HV.out]
  refine (once p A n c 2 W T.d (by omega) (by omega)).mono ?_
  rintro e w3 ⟨b, rfl, d3, g3⟩
  replace T := T.dice d3 g3
  clear d3 g3 cV
  have zNv : w.heap.size < v := by have := T.hp; have := T.pv; omega
  have zne1 : ¬ v = w.heap.size := by omega
  have zne2 : ¬ w.heap.size = v := by omega
  have cV : w3.cell? ⟨v, 0, none⟩ = some (.slice S sn sc) := T.rV.cell 0
  cases b with
  | true =>
    have T1 := T.drew
    go_wp2_with fail
    go_region_held3 (fun w' => w'.cell? ⟨v, 0, none⟩ = some (.slice S sn sc))
      (go_keep)
      (first
        | (go_at_call 62; refine (drawAny p A n c S sn sc sg w3.drew T1.d T1.s (by omega)).mono ?_; rintro e w4 ⟨Q, qn, qc, ys, rfl, ra, h1, h2, h3, h4, d4, g4⟩; have T2 := T1.dice d4 g4; have cV4 : w4.cell? ⟨v, 0, none⟩ = some (.slice S sn sc) := T2.rV.cell 0; have cN4 : w4.cell? ⟨w.heap.size, 0, none⟩ = some (.slice none 0 0) := T2.rN.cell 0; have fN4 : w4.frozen? ⟨w.heap.size, 0, none⟩ = false := T2.rN.free 0; have F := Lib.hid (tri_of (oc := oc) (qc := qc) T2 ra.seg hsn hon h4)))
    clear cV4 T2 ra d4 g4 T1 T
    go_wp2
    exact bodyPost_ret (v := .tuple #[.agg #[.slice S sn sc], .slice O on oc, .slice Q qn qc]) (by simp [results, Try.results30, go_sem, cN4]) rfl F.out
  | false =>
    have T1 := T.drew
    go_wp2_with fail
    go_region_held3 (fun w' => w'.cell? ⟨v, 0, none⟩ = some (.slice S sn sc))
      (go_keep)
      (first
        | (go_at_call 78; refine (below p A n c 3 w3.drew T1.d (by omega) (by omega)).mono ?_; rintro e w4 ⟨y, rfl, y0, y1, d4, g4⟩; have T2 := T1.dice d4 g4; have cV4 : w4.cell? ⟨v, 0, none⟩ = some (.slice S sn sc) := T2.rV.cell 0)
        | (go_at_call 57; refine (specShifted S O sn sc on oc sg xs y w4 T2.s.seg T2.o.seg (by omega) (by omega) (by omega) (by omega)).mono ?_; rintro e w5 ⟨Q, qn, qc, rfl, rq, b5⟩; have T3 := T2.next b5; have cV5 : w5.cell? ⟨v, 0, none⟩ = some (.slice S sn sc) := T3.rV.cell 0))
    have hqn : qn ≤ 65 := by
      have e1 := rq.1
      have e2 := T3.o.1
      unfold shiftedL at e1
      split at e1
      · rw [shift_len] at e1; omega
      · simp at e1; omega
    have cN5 : w5.cell? ⟨w.heap.size, 0, none⟩ = some (.slice none 0 0) := T3.rN.cell 0
    have fN5 : w5.frozen? ⟨w.heap.size, 0, none⟩ = false := T3.rN.free 0
    have F := Lib.hid (tri_of (oc := oc) (qc := qc) T3 rq hsn hon hqn)
    clear cV4 T3 T2 d4 g4 T1 T b5 rq
    go_wp2
    exact bodyPost_ret (v := .tuple #[.agg #[.slice S sn sc], .slice O on oc, .slice Q qn qc]) (by simp [results, Try.results30, go_sem, cN5]) rfl F.out
end Go.Proofs.Ytdeegjeopkcomaa.drawVar
