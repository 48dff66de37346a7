/-
  CONTRACTS: spec.DrawDepthOf, spec.DrawTermOk: a drawn signature and a drawn list. Conditions: at most 4096 bytes. By an AI agent.
-/
import Derived.Test.YtadajlchoongcaaDrawTwo
namespace Go.Proofs.Ytadajlchoongcaa.drawPair
open Go.RowKit Go.Proofs.Ytadajlchoongcaa.base Go.Proofs.Ytadajlchoongcaa.ints Go.Proofs.Ytadajlchoongcaa.sig Go.Proofs.Ytadajlchoongcaa.term Go.Proofs.Ytadajlchoongcaa.cursor Go.Proofs.Ytadajlchoongcaa.termOk Go.Proofs.Ytadajlchoongcaa.marks Go.Proofs.Ytadajlchoongcaa.app Go.Proofs.Ytadajlchoongcaa.sym Go.Proofs.Ytadajlchoongcaa.sub Go.Proofs.Ytadajlchoongcaa.dice Go.Proofs.Ytadajlchoongcaa.drawSig Go.Proofs.Ytadajlchoongcaa.drawTerm Go.Proofs.Ytadajlchoongcaa.drawAny Go.Proofs.Ytadajlchoongcaa.drawTwo

/-- a cell that holds a slice is no cell of numbers -/
theorem Rd.other {w : World} {p B N : Nat} {O : Option Addr} {on : Nat} {xs : List Int} {a : Option Addr} {l k : Nat} (h : Rd w p B O on xs) (hN : w.cell? ⟨N, 0, none⟩ = some (.slice a l k)) (u : Value) : Rd (w.setCell ⟨N, 0, none⟩ u) p B O on xs :=
  ⟨h.1, fun hn => by
    obtain ⟨b, off, e, hb, hne, hc⟩ := h.2 hn
    refine ⟨b, off, e, hb, hne, fun j hj => ?_⟩
    rw [World.cell?_setCell_other w _ _ _ (fun e => by rw [e] at hN; rw [hc j hj] at hN; cases hN)]
    exact hc j hj⟩
theorem Dice.other {w : World} {p N : Nat} {A : Option Addr} {n c : Nat} {a : Option Addr} {l k : Nat} (d : Dice w p A n c) (hN : w.cell? ⟨N, 0, none⟩ = some (.slice a l k)) (hp : p ≠ N) (u : Value) : Dice (w.setCell ⟨N, 0, none⟩ u) p A n c := by
  obtain ⟨i, h, d⟩ := d
  refine ⟨i, h, d.row.far (p := ⟨N, 0, none⟩) hp u, d.le, fun hn => ?_, d.hn⟩
  obtain ⟨b, off, e, hb, hc⟩ := d.s hn
  refine ⟨b, off, e, hb, fun j hj => ?_⟩
  obtain ⟨x, x0, x1, hx⟩ := hc j hj
  refine ⟨x, x0, x1, ?_⟩
  rw [World.cell?_setCell_other w _ _ _ (fun e => by rw [e] at hN; rw [hx] at hN; cases hN)]
  exact hx

/-- a drawn signature and a drawn list -/
def AnsPair (w : World) (e : Ending) (w' : World) : Prop :=
  ∃ S sn sc sg O on oc xs, e = .returned (.tuple #[.agg #[.slice S sn sc], .slice O on oc]) ∧ Seg w' w'.heap.size S sn sg ∧ Seg w' w'.heap.size O on xs ∧ sn ≤ 9 ∧ on ≤ 65 ∧ on ≤ oc ∧ oc ≤ 9223372036854775807 ∧ Below w.heap.size w w'

theorem pair_of {w u : World} {p : Nat} {S : Option Addr} {sn sc : Nat} {sg : List Int} {O : Option Addr} {on oc : Nat} {xs : List Int} {B : Nat} {a : Option Addr} {l k : Nat} (hs : Rd u p B S sn sg) (hB : B ≤ u.heap.size) (ho : Rd u p u.heap.size O on xs)
    (h1 : sn ≤ 9) (h2 : on ≤ 65) (h3 : on ≤ oc) (h4 : oc ≤ 9223372036854775807) (hb : Below w.heap.size w u) (hN : u.cell? ⟨w.heap.size, 0, none⟩ = some (.slice a l k)) :
    AnsPair w (.returned (.tuple #[.agg #[.slice S sn sc], .slice O on oc])) (u.setCell ⟨w.heap.size, 0, none⟩ (.slice S sn sc)) :=
  ⟨S, sn, sc, sg, O, on, oc, xs, rfl, (Rd.other (Rd.more hs hB) hN _).seg.more (by simp), (Rd.other ho hN _).seg.more (by simp), h1, h2, h3, h4, hb.setCell (Nat.le_refl _) _⟩

theorem Dice.unN {w : World} {p : Nat} {A : Option Addr} {n c : Nat} (d : Dice w.drew p A n c) : Dice w p A n c := by
  obtain ⟨i, h, d⟩ := d
  exact ⟨i, h, d.row, d.le, d.s, d.hn⟩

set_option maxHeartbeats 4000000 in
theorem drawDepthOf (A : Option Addr) (n c : Nat) (w : World) (h : SegB w w.heap.size A n) (hn : n ≤ 4096) :
    Calls Try.prog 28 #[.slice A n c] w (AnsPair w) := by
  obtain ⟨W0, hW0⟩ : ∃ W0, W0 = w.alloc (.cells #[.slice none 0 0] 26) := ⟨_, rfl⟩
  have rN : Row W0 w.heap.size 26 #[.slice none 0 0] := by rw [hW0]; exact Row.new _ _ _
  have b0 : Below w.heap.size w W0 := by rw [hW0]; exact (Below.refl _ _).alloc (Nat.le_refl _) _
  have h0 : SegB W0 W0.heap.size A n := fun hp => by
    obtain ⟨b, off, e, hb, hc⟩ := h hp
    refine ⟨b, off, e, Nat.lt_of_lt_of_le hb b0.size, fun j hj => ?_⟩
    obtain ⟨x, x0, x1, hx⟩ := hc j hj
    exact ⟨x, x0, x1, (b0.cell (p := ⟨b, off + j, none⟩) hb).trans hx⟩
  have L := Lib.hid (new_ A n c W0 h0 hn)
  have HW0 := Lib.hid hW0
  clear h h0 hW0
  go_enter Try.func28, Try.ntmps28
  go_wp2_with fail
  rw [← HW0.out]
  refine L.out.mono ?_
  rintro e w1 ⟨p, rfl, hp, d1, bb⟩
  have hNp : w.heap.size < p := Nat.lt_of_lt_of_le rN.lt hp
  replace rN := rN.next bb
  have bel := next_trans b0 bb
  have L2 := Lib.hid (drawSigAny p A n c w1 d1)
  have hp1 := d1.lt
  clear d1 bb b0 L
  go_wp2_with fail
  refine L2.out.mono ?_
  rintro e w2 ⟨S, sn, sc, sg, rfl, o2, hshort, d2, g2⟩
  have hsn : sn ≤ 9 := by rw [Own.len o2]; exact hshort
  replace rN := Row.away rN g2 (fun e => by injection e; omega)
  have bel2 : Below w.heap.size w w2 := bel.grown g2 bel.size (fun k hk => by injection hk; omega)
  have T0 := DT.start (sc := sc) d2 (Rd.of_own o2 hp1)
  obtain ⟨W, hW⟩ : ∃ W, W = w2.alloc (.cells #[.slice S sn sc] 26) := ⟨_, rfl⟩
  replace rN : Row W w.heap.size 26 #[.slice none 0 0] := by rw [hW]; exact rN.alloc _
  have bel3 : Below w.heap.size w W := by rw [hW]; exact bel2.alloc bel2.size _
  rw [← hW] at T0
  have HW := Lib.hid hW
  have cV : W.cell? ⟨w2.heap.size, 0, none⟩ = some (.slice S sn sc) := T0.r.cell 0
  have cN : W.cell? ⟨w.heap.size, 0, none⟩ = some (.slice none 0 0) := rN.cell 0
  have fN : W.frozen? ⟨w.heap.size, 0, none⟩ = false := rN.free 0
  have zNv : w.heap.size < w2.heap.size := by have := T0.hp; omega
  have zne1 : ¬ w2.heap.size = w.heap.size := by omega
  have zne2 : ¬ w.heap.size = w2.heap.size := by omega
  have T1 := T0.drew
  have rN1 := rN.drew
  have bel4 := bel3.drew
  clear bel bel2 o2 hshort d2 g2 T0 hW L2 bel3 rN
  go_wp2_with fail
  rw [← HW.out]
  go_region_held3 (fun w' => w'.cell? ⟨w2.heap.size, 0, none⟩ = some (.slice S sn sc))
    (go_keep)
    (first
      | (go_at_call 51; refine (drawAny p A n c S sn sc sg W.drew T1.d (T1.s.more T1.g.size) (by omega)).mono ?_; rintro e w3 ⟨O, on, oc, xs, rfl, ra, h1, h2, h3, h4, d3, g3⟩; have T2 := T1.dice d3 g3; have cV3 : w3.cell? ⟨w2.heap.size, 0, none⟩ = some (.slice S sn sc) := T2.r.cell 0; have rN3 := Row.away rN1 g3 (fun e => by injection e; omega); have cN3 : w3.cell? ⟨w.heap.size, 0, none⟩ = some (.slice none 0 0) := rN3.cell 0; have fN3 : w3.frozen? ⟨w.heap.size, 0, none⟩ = false := rN3.free 0; have F := Lib.hid (pair_of (sc := sc) (p := p) T2.s T2.g.size ra hsn h4 h1 h2 (bel4.grown g3 bel4.size (fun k hk => by injection hk; omega)) cN3)))
  clear cV3 rN3 T2 ra d3 g3 rN1 T1 bel4 fN3
  go_wp2
  exact bodyPost_ret (v := .tuple #[.agg #[.slice S sn sc], .slice O on oc]) (by simp [results, Try.results28, go_sem, cN3]) rfl F.out

set_option maxHeartbeats 4000000 in
theorem drawTermOk (A : Option Addr) (n c : Nat) (w : World) (h : SegB w w.heap.size A n) (hn : n ≤ 4096) :
    Calls Try.prog 16 #[.slice A n c] w (AnsPair w) := by
  obtain ⟨W0, hW0⟩ : ∃ W0, W0 = w.alloc (.cells #[.slice none 0 0] 26) := ⟨_, rfl⟩
  have rN : Row W0 w.heap.size 26 #[.slice none 0 0] := by rw [hW0]; exact Row.new _ _ _
  have b0 : Below w.heap.size w W0 := by rw [hW0]; exact (Below.refl _ _).alloc (Nat.le_refl _) _
  have h0 : SegB W0 W0.heap.size A n := fun hp => by
    obtain ⟨b, off, e, hb, hc⟩ := h hp
    refine ⟨b, off, e, Nat.lt_of_lt_of_le hb b0.size, fun j hj => ?_⟩
    obtain ⟨x, x0, x1, hx⟩ := hc j hj
    exact ⟨x, x0, x1, (b0.cell (p := ⟨b, off + j, none⟩) hb).trans hx⟩
  have L := Lib.hid (new_ A n c W0 h0 hn)
  have HW0 := Lib.hid hW0
  clear h h0 hW0
  go_enter Try.func16, Try.ntmps16
  go_wp2_with fail
  rw [← HW0.out]
  refine L.out.mono ?_
  rintro e w1 ⟨p, rfl, hp, d1, bb⟩
  have hNp : w.heap.size < p := Nat.lt_of_lt_of_le rN.lt hp
  replace rN := rN.next bb
  have bel := next_trans b0 bb
  have L2 := Lib.hid (drawSigAny p A n c w1 d1)
  have hp1 := d1.lt
  clear d1 bb b0 L
  go_wp2_with fail
  refine L2.out.mono ?_
  rintro e w2 ⟨S, sn, sc, sg, rfl, o2, hshort, d2, g2⟩
  have hsn : sn ≤ 9 := by rw [Own.len o2]; exact hshort
  replace rN := Row.away rN g2 (fun e => by injection e; omega)
  have bel2 : Below w.heap.size w w2 := bel.grown g2 bel.size (fun k hk => by injection hk; omega)
  have T0 := DT.start (sc := sc) d2 (Rd.of_own o2 hp1)
  obtain ⟨W, hW⟩ : ∃ W, W = w2.alloc (.cells #[.slice S sn sc] 26) := ⟨_, rfl⟩
  replace rN : Row W w.heap.size 26 #[.slice none 0 0] := by rw [hW]; exact rN.alloc _
  have bel3 : Below w.heap.size w W := by rw [hW]; exact bel2.alloc bel2.size _
  rw [← hW] at T0
  have HW := Lib.hid hW
  have cV : W.cell? ⟨w2.heap.size, 0, none⟩ = some (.slice S sn sc) := T0.r.cell 0
  have cN : W.cell? ⟨w.heap.size, 0, none⟩ = some (.slice none 0 0) := rN.cell 0
  have fN : W.frozen? ⟨w.heap.size, 0, none⟩ = false := rN.free 0
  have zNv : w.heap.size < w2.heap.size := by have := T0.hp; omega
  have zne1 : ¬ w2.heap.size = w.heap.size := by omega
  have zne2 : ¬ w.heap.size = w2.heap.size := by omega
  have T1 := T0.drew
  have rN1 := rN.drew
  have bel4 := bel3.drew
  clear bel bel2 o2 hshort d2 g2 T0 hW L2 bel3 rN
  go_wp2_with fail
  rw [← HW.out]
  replace T1 : DT w2 p A n c S sn sc sg W := ⟨Dice.unN T1.d, T1.r, T1.s, ⟨T1.g.os, T1.g.tape, T1.g.output, T1.g.size, T1.g.block⟩, T1.hp⟩
  replace rN1 : Row W w.heap.size 26 #[.slice none 0 0] := rN1
  replace bel4 : Below w.heap.size w W := ⟨bel4.os, bel4.tape, bel4.output, bel4.size, bel4.block⟩
  refine (drawAny p A n c S sn sc sg W T1.d (T1.s.more T1.g.size) (by omega)).mono ?_
  rintro e w3 ⟨O, on, oc, xs, rfl, ra, h1, h2, h3, h4, d3, g3⟩
  have T2 := T1.dice d3 g3
  replace rN1 := Row.away rN1 g3 (fun e => by injection e; omega)
  replace bel4 := bel4.grown g3 bel4.size (fun k hk => by injection hk; omega)
  clear T1 d3 g3 cV cN fN
  have L3 := Lib.hid (once p A n c 30 w3 T2.d (by omega) (by omega))
  go_wp2_with fail
  refine L3.out.mono ?_
  rintro e w4 ⟨b, rfl, d4, g4⟩
  have T3 := T2.dice d4 g4
  replace ra := (ra.grown g4 (Nat.le_refl _)).more g4.size
  replace rN1 := Row.away rN1 g4 (fun e => by injection e; omega)
  replace bel4 := bel4.grown g4 bel4.size (fun k hk => by injection hk; omega)
  clear T2 d4 g4 L3
  cases b with
  | false =>
    have cV4 : w4.cell? ⟨w2.heap.size, 0, none⟩ = some (.slice S sn sc) := T3.r.cell 0
    have cN4 : w4.cell? ⟨w.heap.size, 0, none⟩ = some (.slice none 0 0) := rN1.cell 0
    have fN4 : w4.frozen? ⟨w.heap.size, 0, none⟩ = false := rN1.free 0
    have F := Lib.hid (pair_of (sc := sc) (p := p) T3.s T3.g.size ra hsn h4 h1 h2 bel4 cN4)
    clear T3 ra rN1 bel4
    go_wp2
    exact bodyPost_ret (v := .tuple #[.agg #[.slice S sn sc], .slice O on oc]) (by simp [results, Try.results16, go_sem, cN4]) rfl F.out
  | true =>
    have L4 := Lib.hid (below p A n c 2 w4 T3.d (by omega) (by omega))
    go_wp2_with fail
    refine L4.out.mono ?_
    rintro e w5 ⟨y, rfl, y0, y1, d5, g5⟩
    have T4 := T3.dice d5 g5
    replace rN1 := Row.away rN1 g5 (fun e => by injection e; omega)
    replace bel4 := bel4.grown g5 bel4.size (fun k hk => by injection hk; omega)
    obtain ⟨k, rfl⟩ := Int.eq_ofNat_of_zero_le y0
    have hmk : ∀ W : World, (Instr.makeSlice 24 (.int .i64 (60 + (k : Int))) (.int .i64 (60 + (k : Int)))).run Try.prog W = .ok (.slice (some ⟨W.heap.size, 0, none⟩) (60 + k) (60 + k)) (W.alloc (.cells (madeCells #[.int .i64 0] (60 + k)) 2)) := fun W => by
      have := run_make_i64 (60 + k) (by omega) W
      rwa [show ((60 + k : Nat) : Int) = 60 + (k : Int) by simp] at this
    have hcells : ∀ j, j < 60 + k → (madeCells #[Value.int .i64 0] (60 + k))[j]? = some (.int .i64 ((List.replicate (60 + k) (0 : Int)).getD j 0)) := fun j hj => by
      simp [madeCells, List.getD, hj, Nat.mod_one]
    obtain ⟨W6, hW6⟩ : ∃ W6, W6 = w5.alloc (.cells (madeCells #[.int .i64 0] (60 + k)) 2) := ⟨_, rfl⟩
    have b6 : Below w5.heap.size w5 W6 := by rw [hW6]; exact (Below.refl _ _).alloc (Nat.le_refl _) _
    have T5 : DT w2 p A n c S sn sc sg W6 := T4.below (b6.mono (by have := T4.r.lt; omega))
    have o6 : Own W6 w5.heap.size (.slice (some ⟨w5.heap.size, 0, none⟩) (60 + k) (60 + k)) (List.replicate (60 + k) 0) := by
      rw [hW6]
      exact Own.of_row (Row.new _ _ _) (by simp) (size_madeCells _ _) (Nat.le_refl _) (by omega) (Nat.le_refl _) hcells
    have rN6 := rN1.next b6
    have bel6 := next_trans bel4 b6
    have cV6 : W6.cell? ⟨w2.heap.size, 0, none⟩ = some (.slice S sn sc) := T5.r.cell 0
    have cN6 : W6.cell? ⟨w.heap.size, 0, none⟩ = some (.slice none 0 0) := rN6.cell 0
    have fN6 : W6.frozen? ⟨w.heap.size, 0, none⟩ = false := rN6.free 0
    have F := Lib.hid (pair_of (sc := sc) (p := p) T5.s T5.g.size (Rd.of_own o6 T4.d.lt) hsn (by omega) (Nat.le_refl _) (by omega) bel6 cN6)
    have HW6 := Lib.hid hW6
    have cV5 : w5.cell? ⟨w2.heap.size, 0, none⟩ = some (.slice S sn sc) := T4.r.cell 0
    have cN5 : w5.cell? ⟨w.heap.size, 0, none⟩ = some (.slice none 0 0) := rN1.cell 0
    have fN5 : w5.frozen? ⟨w.heap.size, 0, none⟩ = false := rN1.free 0
    have z5 : w.heap.size < w5.heap.size := rN1.lt
    have z52 : w2.heap.size < w5.heap.size := T4.r.lt
    clear hW6 T5 T4 T3 o6 rN6 rN1 bel6 bel4 b6 ra hcells d5 g5 L4
    have F2 := F.out
    rw [HW6.out, World.setCell_alloc_past (hn := z5)] at F2
    have HF2 := Lib.hid F2
    clear F2 cV6 cN6 fN6
    go_wp2
    exact bodyPost_ret (v := .tuple #[.agg #[.slice S sn sc], .slice (some ⟨w5.heap.size, 0, none⟩) (60 + k) (60 + k)]) (by simp [results, Try.results16, go_sem, cN5, z5]) rfl HF2.out
end Go.Proofs.Ytadajlchoongcaa.drawPair
