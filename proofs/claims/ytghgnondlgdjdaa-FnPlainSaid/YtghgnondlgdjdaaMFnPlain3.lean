/-
  MERGED: my texts DrawSS, SameSubst, CompMath, Filled, PlainFacts, Big, WFnPlain, one behind the other, as they are. By an AI agent.
-/
import Derived.Test.YtghgnondlgdjdaaMFnPlain2
import Derived.Deep.RegionHeld3
import Derived.Deep.AppendLies
namespace Go.Proofs.Ytghgnondlgdjdaa
section
open Go.Lib (hid)
namespace drawSS
open Go.RowKit base ints sig term cursor termOk marks app appAt sym segs segsHelp dice drawSig drawTerm drawAny drawTwo drawPair drawOne drawSub drawS drawSA drawVar plain plainOf
set_option maxRecDepth 100000
theorem OwnR.segs {w : World} {p lo n c : Nat} {A : Option Addr} {xss : List (List Int)} (h : OwnR w p lo A n c xss) : Segs w w.heap.size A n xss := by
 obtain ⟨h1, vs, hr, h3⟩ := h
 refine ⟨h1, fun hn => ?_⟩
 rcases own_form hr with ⟨_, e, _⟩ | ⟨g, cur, rfl, _, hrow, _, _, _, _, hc⟩
 ·omega
 ·refine ⟨g, 0, rfl, hrow.lt, fun j hj => ?_⟩
  obtain ⟨A', n', c', e, hrd, hcap, _⟩ := h3 j hj
  refine ⟨A', n', c', ?_, hrd.seg, hcap⟩
  rw [Nat.zero_add, hrow.cell j, hc j hj, e]
theorem ownR_owns {w : World} {p lo hi n c : Nat} {A : Option Addr} {xss : List (List Int)} (h : Owns w lo hi A n c xss) (hp : p < lo) : OwnR w p lo A n c xss := by
 obtain ⟨vs, hr, hin, _⟩ := h.row
 refine ⟨h.len, vs, hr, fun j hj => ?_⟩
 obtain ⟨A', c', e, ho, hcap⟩ := (hin j hj).cap
 refine ⟨A', _, c', e, Rd.of_own (by rw [← e]; exact ho) hp, hcap, fun hn e2 => ?_⟩
 rcases own_form hr with ⟨rfl, h1, _⟩ | ⟨g, cur, rfl, _, hrow, _⟩
 ·omega
 ·have h2 := (hin j hj).ne hrow
  rw [e, blk_own] at h2
  exact h2 e2
structure V4 (w : World) (p : Nat) (A : Option Addr) (n c v6 v7 : Nat) (S : Option Addr) (sn sc : Nat) (sg : List Int) (B : Option Addr) (m cB : Nat) (xss : List (List Int)) (wr : World) : Prop where
 d : Dice wr p A n c
 rN : Row wr w.heap.size 32 #[.slice none 0 0]
 rP : Row wr (w.heap.size + 1) 30 #[.slice none 0 0]
 r6 : Row wr v6 32 #[.slice S sn sc]
 r7 : Row wr v7 30 #[.slice B m cB]
 s : Rd wr p wr.heap.size S sn sg
 own : OwnR wr p (p + 1) B m cB xss
 b : Below w.heap.size w wr
 hp : w.heap.size + 1 < p
 p6 : p < v6
 p7 : p < v7
section
variable {w : World} {p : Nat} {A : Option Addr} {n c v6 v7 : Nat} {S : Option Addr} {sn sc : Nat} {sg : List Int} {B : Option Addr} {m cB : Nat} {xss : List (List Int)} {wr w' : World}
theorem V4.dice (t : V4 w p A n c v6 v7 S sn sc sg B m cB xss wr) (d : Dice w' p A n c) (hg : wr.grownBy w' (some p)) : V4 w p A n c v6 v7 S sn sc sg B m cB xss w' :=
 ⟨d, Row.away t.rN hg (fun e => by injection e; have := t.hp; omega), Row.away t.rP hg (fun e => by injection e; have := t.hp; omega), Row.away t.r6 hg (fun e => by injection e; have := t.p6; omega), Row.away t.r7 hg (fun e => by injection e; have := t.p7; omega), (t.s.grown hg (Nat.le_refl _)).more hg.size, t.own.dice hg (Nat.lt_succ_self _), t.b.grown hg t.b.size (fun k hk => by injection hk; have := t.hp; omega), t.hp, t.p6, t.p7⟩
theorem V4.next (t : V4 w p A n c v6 v7 S sn sc sg B m cB xss wr) (hb : Below wr.heap.size wr w') : V4 w p A n c v6 v7 S sn sc sg B m cB xss w' :=
 ⟨t.d.next hb, t.rN.next hb, t.rP.next hb, t.r6.next hb, t.r7.next hb, (t.s.below hb (Nat.le_refl _)).more hb.size, t.own.below hb, next_trans t.b hb, t.hp, t.p6, t.p7⟩
theorem V4.drew (t : V4 w p A n c v6 v7 S sn sc sg B m cB xss wr) : V4 w p A n c v6 v7 S sn sc sg B m cB xss wr.drew := t.next ⟨rfl, rfl, rfl, Nat.le_refl _, fun _ _ => rfl⟩
end
def AnsSS (w : World) (e : Ending) (w' : World) : Prop :=
 ∃ S sn sc sg B m cB xss C q cC yss, e = .returned (.tuple #[.agg #[.slice S sn sc], .agg #[.slice B m cB], .agg #[.slice C q cC]]) ∧ Seg w' w'.heap.size S sn sg ∧ Segs w' w'.heap.size B m xss ∧ Segs w' w'.heap.size C q yss ∧ sn ≤ 9 ∧ tot xss ≤ 1048576 ∧ tot yss ≤ 1048576 ∧ Below w.heap.size w w'
theorem ss_of {w u : World} {p : Nat} {A : Option Addr} {n c v6 v7 : Nat} {S : Option Addr} {sn sc : Nat} {sg : List Int} {B : Option Addr} {m cB : Nat} {xss : List (List Int)} {C : Option Addr} {q cC lo : Nat} {yss : List (List Int)} (t : V4 w p A n c v6 v7 S sn sc sg B m cB xss u) (rQ : Row u (w.heap.size + 2) 30 #[.slice none 0 0]) (hp : w.heap.size + 2 < p) (hc : OwnR u p lo C q cC yss) (hlo : p < lo)
  (h1 : sn ≤ 9) (h2 : tot xss ≤ 1048576) (h3 : tot yss ≤ 1048576) :
  AnsSS w (.returned (.tuple #[.agg #[.slice S sn sc], .agg #[.slice B m cB], .agg #[.slice C q cC]])) (((u.setCell ⟨w.heap.size, 0, none⟩ (.slice S sn sc)).setCell ⟨w.heap.size + 1, 0, none⟩ (.slice B m cB)).setCell ⟨w.heap.size + 2, 0, none⟩ (.slice C q cC)) := by
 have neB : ∀ N, N < p → blk B ≠ some N := fun N hN e => by have := (t.own.ge N e).1; omega
 have neC : ∀ N, N < p → blk C ≠ some N := fun N hN e => by have := (hc.ge N e).1; omega
 have s1 := Rd.other t.s (t.rN.cell 0) (.slice S sn sc)
 have o1 := OwnR.setNe t.own (neB w.heap.size (by omega)) (t.rN.cell 0) (.slice S sn sc)
 have c1 := OwnR.setNe hc (neC w.heap.size (by omega)) (t.rN.cell 0) (.slice S sn sc)
 have rP1 := t.rP.far (p := ⟨w.heap.size, 0, none⟩) (show w.heap.size + 1 ≠ w.heap.size by omega) (.slice S sn sc)
 have rQ1 := rQ.far (p := ⟨w.heap.size, 0, none⟩) (show w.heap.size + 2 ≠ w.heap.size by omega) (.slice S sn sc)
 have b1 := t.b.setCell (p := ⟨w.heap.size, 0, none⟩) (Nat.le_refl _) (.slice S sn sc)
 have s2 := Rd.other s1 (rP1.cell 0) (.slice B m cB)
 have o2 := OwnR.setNe o1 (neB (w.heap.size + 1) (by omega)) (rP1.cell 0) (.slice B m cB)
 have c2 := OwnR.setNe c1 (neC (w.heap.size + 1) (by omega)) (rP1.cell 0) (.slice B m cB)
 have rQ2 := rQ1.far (p := ⟨w.heap.size + 1, 0, none⟩) (show w.heap.size + 2 ≠ w.heap.size + 1 by omega) (.slice B m cB)
 have b2 := b1.setCell (p := ⟨w.heap.size + 1, 0, none⟩) (Nat.le_succ _) (.slice B m cB)
 have s3 := Rd.other s2 (rQ2.cell 0) (.slice C q cC)
 have o3 := OwnR.setNe o2 (neB (w.heap.size + 2) (by omega)) (rQ2.cell 0) (.slice C q cC)
 have c3 := OwnR.setNe c2 (neC (w.heap.size + 2) (by omega)) (rQ2.cell 0) (.slice C q cC)
 have b3 := b2.setCell (p := ⟨w.heap.size + 2, 0, none⟩) (by simp) (.slice C q cC)
 exact ⟨S, sn, sc, sg, B, m, cB, xss, C, q, cC, yss, rfl, s3.seg.more (by simp), OwnR.segs o3, OwnR.segs c3, h1, h2, h3, b3⟩
theorem v4_mk {w w2 w4 W W2 : World} {p : Nat} {A : Option Addr} {n c : Nat} {S : Option Addr} {sn sc : Nat} {sg : List Int} {B : Option Addr} {m cB : Nat} {xss : List (List Int)}
  (hp : w.heap.size + 1 < p) (rN : Row W w.heap.size 32 #[.slice none 0 0]) (rP : Row W (w.heap.size + 1) 30 #[.slice none 0 0]) (b : Below w.heap.size w W) (s : Rd W p W.heap.size S sn sg) (hW : W = w2.alloc (.cells #[.slice S sn sc] 32)) (hp2 : p < w2.heap.size)
  (own : OwnR w4 p W.heap.size B m cB xss) (d : Dice w4 p A n c) (g : W.grownBy w4 (some p)) (hW2 : W2 = w4.alloc (.cells #[.slice B m cB] 30)) : V4 w p A n c w2.heap.size w4.heap.size S sn sc sg B m cB xss W2 := by
 have r6 : Row W w2.heap.size 32 #[.slice S sn sc] := by rw [hW]; exact Row.new _ _ _
 have hz := r6.lt
 have hzg := g.size
 have bb : Below w4.heap.size w4 W2 := by rw [hW2]; exact (Below.refl _ _).alloc (Nat.le_refl _) _
 exact ⟨d.next bb, (Row.away rN g (fun e => by injection e; omega)).next bb, (Row.away rP g (fun e => by injection e; omega)).next bb, (Row.away r6 g (fun e => by injection e; omega)).next bb, by rw [hW2]; exact Row.new _ _ _, (((s.grown g (Nat.le_refl _)).more g.size).below bb (Nat.le_refl _)).more bb.size, (own.below bb).lower (by omega), next_trans (b.grown g b.size (fun k hk => by injection hk; omega)) bb, hp, hp2, by omega⟩
set_option maxHeartbeats 8000000 in
theorem drawComposed (A : Option Addr) (n c : Nat) (w : World) (h : SegB w w.heap.size A n) (hn : n ≤ 4096) :
  Calls Try.prog 31 #[.slice A n c] w (AnsSS w) := by
 obtain ⟨W0, hW0⟩ : ∃ W0, W0 = ((w.alloc (.cells #[.slice none 0 0] 32)).alloc (.cells #[.slice none 0 0] 30)).alloc (.cells #[.slice none 0 0] 30) := ⟨_, rfl⟩
 have rN : Row W0 w.heap.size 32 #[.slice none 0 0] := by rw [hW0]; exact ((Row.new _ _ _).alloc _).alloc _
 have rP : Row W0 (w.heap.size + 1) 30 #[.slice none 0 0] := by rw [hW0]; have := (Row.new (w.alloc (.cells #[.slice none 0 0] 32)) 30 #[.slice none 0 0]).alloc (.cells #[.slice none 0 0] 30); simpa using this
 have rQ : Row W0 (w.heap.size + 2) 30 #[.slice none 0 0] := by rw [hW0]; have := Row.new ((w.alloc (.cells #[.slice none 0 0] 32)).alloc (.cells #[.slice none 0 0] 30)) 30 #[.slice none 0 0]; simpa using this
 have b0 : Below w.heap.size w W0 := by rw [hW0]; exact (((Below.refl _ _).alloc (Nat.le_refl _) _).alloc (by simp) _).alloc (by simp; omega) _
 have L := hid (new_ A n c W0 (segB_below h b0) hn)
 have HW0 := hid hW0
 clear h hW0
 go_enter Try.func31, Try.ntmps31
 go_wp2_with fail
 rw [← HW0.out]
 refine L.out.mono ?_
 rintro e w1 ⟨p, rfl, hp, d1, bb⟩
 have hNp : w.heap.size + 2 < p := Nat.lt_of_lt_of_le rQ.lt hp
 replace rN := rN.next bb
 replace rP := rP.next bb
 replace rQ := rQ.next bb
 have bel := next_trans b0 bb
 have L2 := hid (drawSigAny p A n c w1 d1)
 have hp1 := d1.lt
 clear d1 bb b0 L
 go_wp2_with fail
 refine L2.out.mono ?_
 rintro e w2 ⟨S, sn, sc, sg, rfl, o2, hshort, d2, g2⟩
 have hsn : sn ≤ 9 := by rw [Own.len o2]; exact hshort
 have hp2 := d2.lt
 replace rN := Row.away rN g2 (fun e => by injection e; omega)
 replace rP := Row.away rP g2 (fun e => by injection e; omega)
 replace rQ := Row.away rQ g2 (fun e => by injection e; omega)
 have bel2 : Below w.heap.size w w2 := bel.grown g2 bel.size (fun k hk => by injection hk; omega)
 obtain ⟨W, hW⟩ : ∃ W, W = w2.alloc (.cells #[.slice S sn sc] 32) := ⟨_, rfl⟩
 have bb : Below w2.heap.size w2 W := by rw [hW]; exact (Below.refl _ _).alloc (Nat.le_refl _) _
 replace rN := rN.next bb
 replace rP := rP.next bb
 replace rQ := rQ.next bb
 have bel3 := next_trans bel2 bb
 have s3 := ((Rd.of_own o2 hp1).below bb (Nat.le_refl _)).more bb.size
 have d3 := d2.next bb
 have hp3 := d3.lt
 have c6 : W.cell? ⟨w2.heap.size, 0, none⟩ = some (.slice S sn sc) := by rw [hW]; exact (Row.new w2 32 #[.slice S sn sc]).cell 0
 have L3 := hid (drawAnyS p A n c S sn sc sg W d3 s3 (by omega))
 have HW := hid hW
 clear o2 hshort d2 d3 g2 bel bel2 L2 bb hW
 go_wp2_with fail
 rw [← HW.out]
 refine L3.out.mono ?_
 rintro e w4 ⟨B, m, cB, xss, rfl, own4, hsm, d4, g4⟩
 obtain ⟨W2, hW2⟩ : ∃ W2, W2 = w4.alloc (.cells #[.slice B m cB] 30) := ⟨_, rfl⟩
 have T := v4_mk (by omega) rN rP bel3 s3 HW.out hp2 own4 d4 g4 hW2
 have hxt := small_tot hsm own4.1 (by omega)
 have rQ2 : Row W2 (w.heap.size + 2) 30 #[.slice none 0 0] := by rw [hW2]; exact (Row.away rQ g4 (fun e => by injection e; omega)).alloc _
 have HW2 := hid hW2
 have T1 := T.drew
 have rQ3 := rQ2.drew
 have k6 : W2.cell? ⟨w2.heap.size, 0, none⟩ = some (.slice S sn sc) := T.r6.cell 0
 have k7 : W2.cell? ⟨w4.heap.size, 0, none⟩ = some (.slice B m cB) := T.r7.cell 0
 obtain ⟨v6, h6⟩ : ∃ v, w2.heap.size = v := ⟨_, rfl⟩
 obtain ⟨v7, h7⟩ : ∃ v, w4.heap.size = v := ⟨_, rfl⟩
 rw [h6, h7] at T T1
 rw [h6] at k6
 rw [h7] at k7
 have H6 := hid h6
 have H7 := hid h7
 have zl := T.r7.lt
 have z6 : ¬ v6 = w.heap.size := by have := T.hp; have := T.p6; omega
 have z7 : ¬ v7 = w.heap.size := by have := T.hp; have := T.p7; omega
 have y6 : ¬ w.heap.size = v6 := by omega
 have y7 : ¬ w.heap.size = v7 := by omega
 have z61 : ¬ v6 = w.heap.size + 1 := by have := T.hp; have := T.p6; omega
 have z71 : ¬ v7 = w.heap.size + 1 := by have := T.hp; have := T.p7; omega
 have y61 : ¬ w.heap.size + 1 = v6 := by omega
 have y71 : ¬ w.heap.size + 1 = v7 := by omega
 have z62 : ¬ v6 = w.heap.size + 2 := by have := T.p6; omega
 have z72 : ¬ v7 = w.heap.size + 2 := by have := T.p7; omega
 have y62 : ¬ w.heap.size + 2 = v6 := by omega
 have y72 : ¬ w.heap.size + 2 = v7 := by omega
 clear rN rP rQ bel3 s3 own4 d4 g4 hW2 L3 c6 T h6 h7 hp3
 go_wp2_with fail
 rw [← HW2.out, H6.out, H7.out]
 go_region_held3 (fun w' => w'.cell? ⟨v6, 0, none⟩ = some (.slice S sn sc) ∧ w'.cell? ⟨v7, 0, none⟩ = some (.slice B m cB))
  (go_keep)
  (first
   | (go_at_call 64; refine (drawAnyS p A n c S sn sc sg W2.drew T1.d T1.s (by omega)).mono ?_; rintro e w5 ⟨C, q, cC, yss, rfl, own5, hsm5, d5, g5⟩; have T2 := T1.dice d5 g5; have j6 : w5.cell? ⟨v6, 0, none⟩ = some (.slice S sn sc) := T2.r6.cell 0; have j7 : w5.cell? ⟨v7, 0, none⟩ = some (.slice B m cB) := T2.r7.cell 0; have rQ5 := Row.away rQ3 g5 (fun e => by injection e; omega); have cN5 : w5.cell? ⟨w.heap.size, 0, none⟩ = some (.slice none 0 0) := T2.rN.cell 0; have fN5 : w5.frozen? ⟨w.heap.size, 0, none⟩ = false := T2.rN.free 0; have cP5 : w5.cell? ⟨w.heap.size + 1, 0, none⟩ = some (.slice none 0 0) := T2.rP.cell 0; have fP5 : w5.frozen? ⟨w.heap.size + 1, 0, none⟩ = false := T2.rP.free 0; have cQ5 : w5.cell? ⟨w.heap.size + 2, 0, none⟩ = some (.slice none 0 0) := rQ5.cell 0; have fQ5 : w5.frozen? ⟨w.heap.size + 2, 0, none⟩ = false := rQ5.free 0; have F := hid (ss_of T2 rQ5 hNp own5 T1.d.lt hsn hxt (small_tot hsm5 own5.1 (by omega)))))
 clear T2 T1 rQ5 rQ3 rQ2 own5 d5 g5 j6 j7 k6 k7
 go_wp2
 exact bodyPost_ret (v := .tuple #[.agg #[.slice S sn sc], .agg #[.slice B m cB], .agg #[.slice C q cC]]) (by simp [results, Try.results31, go_sem, cN5, cP5, cQ5]) rfl F.out
set_option maxHeartbeats 8000000 in
theorem drawSameSubst (A : Option Addr) (n c : Nat) (w : World) (h : SegB w w.heap.size A n) (hn : n ≤ 4096) :
  Calls Try.prog 25 #[.slice A n c] w (AnsSS w) := by
 obtain ⟨W0, hW0⟩ : ∃ W0, W0 = ((w.alloc (.cells #[.slice none 0 0] 32)).alloc (.cells #[.slice none 0 0] 30)).alloc (.cells #[.slice none 0 0] 30) := ⟨_, rfl⟩
 have rN : Row W0 w.heap.size 32 #[.slice none 0 0] := by rw [hW0]; exact ((Row.new _ _ _).alloc _).alloc _
 have rP : Row W0 (w.heap.size + 1) 30 #[.slice none 0 0] := by rw [hW0]; have := (Row.new (w.alloc (.cells #[.slice none 0 0] 32)) 30 #[.slice none 0 0]).alloc (.cells #[.slice none 0 0] 30); simpa using this
 have rQ : Row W0 (w.heap.size + 2) 30 #[.slice none 0 0] := by rw [hW0]; have := Row.new ((w.alloc (.cells #[.slice none 0 0] 32)).alloc (.cells #[.slice none 0 0] 30)) 30 #[.slice none 0 0]; simpa using this
 have b0 : Below w.heap.size w W0 := by rw [hW0]; exact (((Below.refl _ _).alloc (Nat.le_refl _) _).alloc (by simp) _).alloc (by simp; omega) _
 have L := hid (new_ A n c W0 (segB_below h b0) hn)
 have HW0 := hid hW0
 clear h hW0
 go_enter Try.func25, Try.ntmps25
 go_wp2_with fail
 rw [← HW0.out]
 refine L.out.mono ?_
 rintro e w1 ⟨p, rfl, hp, d1, bb⟩
 have hNp : w.heap.size + 2 < p := Nat.lt_of_lt_of_le rQ.lt hp
 replace rN := rN.next bb
 replace rP := rP.next bb
 replace rQ := rQ.next bb
 have bel := next_trans b0 bb
 have L2 := hid (drawSigAny p A n c w1 d1)
 have hp1 := d1.lt
 clear d1 bb b0 L
 go_wp2_with fail
 refine L2.out.mono ?_
 rintro e w2 ⟨S, sn, sc, sg, rfl, o2, hshort, d2, g2⟩
 have hsn : sn ≤ 9 := by rw [Own.len o2]; exact hshort
 have hp2 := d2.lt
 replace rN := Row.away rN g2 (fun e => by injection e; omega)
 replace rP := Row.away rP g2 (fun e => by injection e; omega)
 replace rQ := Row.away rQ g2 (fun e => by injection e; omega)
 have bel2 : Below w.heap.size w w2 := bel.grown g2 bel.size (fun k hk => by injection hk; omega)
 obtain ⟨W, hW⟩ : ∃ W, W = w2.alloc (.cells #[.slice S sn sc] 32) := ⟨_, rfl⟩
 have bb : Below w2.heap.size w2 W := by rw [hW]; exact (Below.refl _ _).alloc (Nat.le_refl _) _
 replace rN := rN.next bb
 replace rP := rP.next bb
 replace rQ := rQ.next bb
 have bel3 := next_trans bel2 bb
 have s3 := ((Rd.of_own o2 hp1).below bb (Nat.le_refl _)).more bb.size
 have d3 := d2.next bb
 have hp3 := d3.lt
 have c6 : W.cell? ⟨w2.heap.size, 0, none⟩ = some (.slice S sn sc) := by rw [hW]; exact (Row.new w2 32 #[.slice S sn sc]).cell 0
 have L3 := hid (drawAnyS p A n c S sn sc sg W d3 s3 (by omega))
 have HW := hid hW
 clear o2 hshort d2 d3 g2 bel bel2 L2 bb hW
 go_wp2_with fail
 rw [← HW.out]
 refine L3.out.mono ?_
 rintro e w4 ⟨B, m, cB, xss, rfl, own4, hsm, d4, g4⟩
 obtain ⟨W2, hW2⟩ : ∃ W2, W2 = w4.alloc (.cells #[.slice B m cB] 30) := ⟨_, rfl⟩
 have T := v4_mk (by omega) rN rP bel3 s3 HW.out hp2 own4 d4 g4 hW2
 have hxt := small_tot hsm own4.1 (by omega)
 have rQ2 : Row W2 (w.heap.size + 2) 30 #[.slice none 0 0] := by rw [hW2]; exact (Row.away rQ g4 (fun e => by injection e; omega)).alloc _
 have HW2 := hid hW2
 have k6 : W2.cell? ⟨w2.heap.size, 0, none⟩ = some (.slice S sn sc) := T.r6.cell 0
 have k7 : W2.cell? ⟨w4.heap.size, 0, none⟩ = some (.slice B m cB) := T.r7.cell 0
 obtain ⟨v6, h6⟩ : ∃ v, w2.heap.size = v := ⟨_, rfl⟩
 obtain ⟨v7, h7⟩ : ∃ v, w4.heap.size = v := ⟨_, rfl⟩
 rw [h6, h7] at T
 rw [h6] at k6
 rw [h7] at k7
 have H6 := hid h6
 have H7 := hid h7
 have zl := T.r7.lt
 have z6 : ¬ v6 = w.heap.size := by have := T.hp; have := T.p6; omega
 have z7 : ¬ v7 = w.heap.size := by have := T.hp; have := T.p7; omega
 have y6 : ¬ w.heap.size = v6 := by omega
 have y7 : ¬ w.heap.size = v7 := by omega
 have z61 : ¬ v6 = w.heap.size + 1 := by have := T.hp; have := T.p6; omega
 have z71 : ¬ v7 = w.heap.size + 1 := by have := T.hp; have := T.p7; omega
 have y61 : ¬ w.heap.size + 1 = v6 := by omega
 have y71 : ¬ w.heap.size + 1 = v7 := by omega
 have z62 : ¬ v6 = w.heap.size + 2 := by have := T.p6; omega
 have z72 : ¬ v7 = w.heap.size + 2 := by have := T.p7; omega
 have y62 : ¬ w.heap.size + 2 = v6 := by omega
 have y72 : ¬ w.heap.size + 2 = v7 := by omega
 clear rN rP rQ bel3 s3 own4 d4 g4 hW2 L3 c6 h6 h7 hp3
 have L5 := hid (once p A n c 2 W2 T.d (by omega) (by omega))
 go_wp2_with fail
 rw [← HW2.out, H6.out, H7.out]
 refine L5.out.mono ?_
 rintro e w3 ⟨b, rfl, d3, g3⟩
 have T3 := T.dice d3 g3
 have rQ3 := (Row.away rQ2 g3 (fun e => by injection e; omega)).drew
 have T1 := T3.drew
 replace k6 : w3.cell? ⟨v6, 0, none⟩ = some (.slice S sn sc) := T3.r6.cell 0
 replace k7 : w3.cell? ⟨v7, 0, none⟩ = some (.slice B m cB) := T3.r7.cell 0
 clear T T3 d3 g3 L5 rQ2
 cases b with
 | true =>
  go_wp2_with fail
  go_region_held3 (fun w' => w'.cell? ⟨v6, 0, none⟩ = some (.slice S sn sc) ∧ w'.cell? ⟨v7, 0, none⟩ = some (.slice B m cB))
   (go_keep)
   (first
    | (go_at_call 13; refine (specPlainOf S B sn sc m cB sg xss w3.drew T1.s.seg (OwnR.segs T1.own) (by omega) hxt).mono ?_; rintro e w5 ⟨C, q, cC, rfl, oc5, b5⟩; have T2 := T1.next b5; have own5 := ownR_owns oc5 T1.d.lt; have j6 : w5.cell? ⟨v6, 0, none⟩ = some (.slice S sn sc) := T2.r6.cell 0; have j7 : w5.cell? ⟨v7, 0, none⟩ = some (.slice B m cB) := T2.r7.cell 0; have rQ5 := rQ3.next b5; have cN5 : w5.cell? ⟨w.heap.size, 0, none⟩ = some (.slice none 0 0) := T2.rN.cell 0; have fN5 : w5.frozen? ⟨w.heap.size, 0, none⟩ = false := T2.rN.free 0; have cP5 : w5.cell? ⟨w.heap.size + 1, 0, none⟩ = some (.slice none 0 0) := T2.rP.cell 0; have fP5 : w5.frozen? ⟨w.heap.size + 1, 0, none⟩ = false := T2.rP.free 0; have cQ5 : w5.cell? ⟨w.heap.size + 2, 0, none⟩ = some (.slice none 0 0) := rQ5.cell 0; have fQ5 : w5.frozen? ⟨w.heap.size + 2, 0, none⟩ = false := rQ5.free 0; have F := hid (ss_of T2 rQ5 hNp own5 T1.d.lt hsn hxt plainI_tot)))
  clear T2 T1 rQ5 rQ3 own5 oc5 b5 j6 j7 k6 k7
  go_wp2
  exact bodyPost_ret (v := .tuple #[.agg #[.slice S sn sc], .agg #[.slice B m cB], .agg #[.slice C q cC]]) (by simp [results, Try.results25, go_sem, cN5, cP5, cQ5]) rfl F.out
 | false =>
  go_wp2_with fail
  go_region_held3 (fun w' => w'.cell? ⟨v6, 0, none⟩ = some (.slice S sn sc) ∧ w'.cell? ⟨v7, 0, none⟩ = some (.slice B m cB))
   (go_keep)
   (first
    | (go_at_call 64; refine (drawAnyS p A n c S sn sc sg w3.drew T1.d T1.s (by omega)).mono ?_; rintro e w5 ⟨C, q, cC, yss, rfl, own5, hsm5, d5, g5⟩; have T2 := T1.dice d5 g5; have j6 : w5.cell? ⟨v6, 0, none⟩ = some (.slice S sn sc) := T2.r6.cell 0; have j7 : w5.cell? ⟨v7, 0, none⟩ = some (.slice B m cB) := T2.r7.cell 0; have rQ5 := Row.away rQ3 g5 (fun e => by injection e; omega); have cN5 : w5.cell? ⟨w.heap.size, 0, none⟩ = some (.slice none 0 0) := T2.rN.cell 0; have fN5 : w5.frozen? ⟨w.heap.size, 0, none⟩ = false := T2.rN.free 0; have cP5 : w5.cell? ⟨w.heap.size + 1, 0, none⟩ = some (.slice none 0 0) := T2.rP.cell 0; have fP5 : w5.frozen? ⟨w.heap.size + 1, 0, none⟩ = false := T2.rP.free 0; have cQ5 : w5.cell? ⟨w.heap.size + 2, 0, none⟩ = some (.slice none 0 0) := rQ5.cell 0; have fQ5 : w5.frozen? ⟨w.heap.size + 2, 0, none⟩ = false := rQ5.free 0; have F := hid (ss_of T2 rQ5 hNp own5 T1.d.lt hsn hxt (small_tot hsm5 own5.1 (by omega)))))
  clear T2 T1 rQ5 rQ3 own5 d5 g5 j6 j7 k6 k7
  go_wp2
  exact bodyPost_ret (v := .tuple #[.agg #[.slice S sn sc], .agg #[.slice B m cB], .agg #[.slice C q cC]]) (by simp [results, Try.results25, go_sem, cN5, cP5, cQ5]) rfl F.out
end drawSS
end
section
open Go.Lib (hid)
open List (setIfInBounds_toArray set_cons_zero set_cons_succ getElem_toArray getElem_cons_zero getElem_cons_succ)
namespace sameSubst
open Go.RowKit base ints sig same marks sym segs segsHelp kinds varsOf fillMath Go.Proofs.Ytghgnondlgdjdaa.look substOk gives
set_option maxRecDepth 100000
def sameG (a b : List (List Int)) : Bool := (List.range 24).all fun i => decide (givesL a i = givesL b i)
def sameB (sg : List Int) (a b : List (List Int)) : Bool := substOkB sg a && (substOkB sg b && sameG a b)
theorem sameG_yes {a b : List (List Int)} (h : ∀ i, i < 24 → givesL a i = givesL b i) : sameG a b = true := by
 unfold sameG
 rw [List.all_eq_true]
 intro i hi
 exact decide_eq_true (h i (List.mem_range.1 hi))
theorem sameG_no {a b : List (List Int)} {i : Nat} (hi : i < 24) (h : givesL a i ≠ givesL b i) : sameG a b = false := by
 cases e : sameG a b with
 | false => rfl
 | true =>
  unfold sameG at e
  rw [List.all_eq_true] at e
  exact absurd (of_decide_eq_true (e i (List.mem_range.2 hi))) h
theorem sameG_iff {a b : List (List Int)} : sameG a b = true ↔ ∀ i, i < 24 → givesL a i = givesL b i := by
 refine ⟨fun e i hi => ?_, sameG_yes⟩
 unfold sameG at e
 rw [List.all_eq_true] at e
 exact of_decide_eq_true (e i (List.mem_range.2 hi))
theorem same_a {sg : List Int} {a b : List (List Int)} (h : substOkB sg a = false) : sameB sg a b = false := by unfold sameB; rw [h, Bool.false_and]
theorem same_b {sg : List Int} {a b : List (List Int)} (h : substOkB sg b = false) : sameB sg a b = false := by unfold sameB; rw [h, Bool.false_and, Bool.and_false]
theorem same_ab {sg : List Int} {a b : List (List Int)} (h : substOkB sg a = true) (h' : substOkB sg b = true) : sameB sg a b = sameG a b := by unfold sameB; rw [h, h', Bool.true_and, Bool.true_and]
theorem boxesSS (w : World) (A : Option Addr) (n c : Nat) (S : Option Addr) (m c' : Nat) (T : Option Addr) (q cq : Nat) : ∃ W, W = ((w.alloc (.cells #[.slice A n c] 32)).alloc (.cells #[.slice S m c'] 30)).alloc (.cells #[.slice T q cq] 30) ∧
  Row W w.heap.size 32 #[.slice A n c] ∧ Row W (w.heap.size + 1) 30 #[.slice S m c'] ∧ Row W (w.heap.size + 2) 30 #[.slice T q cq] ∧ Below w.heap.size w W := by
 obtain ⟨W, hW, r1, r2, b⟩ := boxes2 w A n c S m c'
 have hz : W.heap.size = w.heap.size + 2 := by rw [hW]; simp
 refine ⟨_, rfl, ?_, ?_, ?_, ?_⟩
 ·rw [← hW]; exact r1.alloc _
 ·rw [← hW]; exact r2.alloc _
 ·rw [← hW, ← hz]; exact Row.new _ _ _
 ·rw [← hW]; exact b.alloc b.size _
theorem gives_each {ss : List (List Int)} (h : ∀ j, (ss.getD j []).length ≤ 1048576) (i : Nat) : (givesL ss i).length ≤ 1048576 := by
 unfold givesL
 split
 ·simp [vt]
 ·exact h i
theorem lookupB (S : Option Addr) (m c : Nat) (w : World) :
  Calls Try.prog 53 #[.agg #[.slice S m c]] w fun e w' => e = .returned (.func (.func 79) #[] #[.pointer (some ⟨w.heap.size, 0, none⟩)]) ∧ Row w' w.heap.size 30 #[.slice S m c] ∧ Below w.heap.size w w' :=
 (lookupIn S m c w).mono fun _ _ ⟨he, hw⟩ => ⟨he, by rw [hw]; exact Row.new _ _ _, by rw [hw]; exact (Below.refl _ _).alloc (Nat.le_refl _) _⟩
def HeadSS (w : World) (b1 b2 : Nat) (S : Option Addr) (m c : Nat) (T : Option Addr) (q cq : Nat) (xa xb : List (List Int)) (i : Value) (wr : World) : Prop :=
 ∃ k : Nat, k ≤ 24 ∧ i = .int .i64 k ∧ (∀ j, j < k → givesL xa j = givesL xb j) ∧ Row wr b1 30 #[.slice S m c] ∧ Row wr b2 30 #[.slice T q cq] ∧ Below w.heap.size w wr
theorem headSS_step {w wr w2 : World} {b1 b2 m c q cq k : Nat} {S T : Option Addr} {xa xb : List (List Int)} (hk : k < 24) (h : ∀ j, j < k → givesL xa j = givesL xb j) (he : givesL xa k = givesL xb k)
  (r1 : Row wr b1 30 #[.slice S m c]) (r2 : Row wr b2 30 #[.slice T q cq]) (hb : Below w.heap.size w wr) (bb : Below wr.heap.size wr w2) : HeadSS w b1 b2 S m c T q cq xa xb (.int .i64 ((k : Int) + 1)) w2 :=
 ⟨k + 1, hk, by simp, fun j hj => by
  by_cases e : j = k
  ·rw [e]; exact he
  ·exact h j (by omega), r1.next bb, r2.next bb, next_trans hb bb⟩
set_option maxHeartbeats 8000000 in
theorem specSameSubst (A S T : Option Addr) (n c m c' q cq : Nat) (sg : List Int) (xa xb : List (List Int)) (w : World) (h : Seg w w.heap.size A n sg) (h' : Segs w w.heap.size S m xa) (h2 : Segs w w.heap.size T q xb) (hn : n ≤ 1048576) (ht : tot xa ≤ 1048576) (ht2 : tot xb ≤ 1048576) :
  Calls Try.prog 27 #[.agg #[.slice A n c], .agg #[.slice S m c'], .agg #[.slice T q cq]] w (AnsB w (sameB sg xa xb)) := by
 obtain ⟨W, hW, rA, rS, rT, bel⟩ := boxesSS w A n c S m c' T q cq
 have HW := hid hW
 have hm : m ≤ 1048576 := tot_len h'.1 ht
 have hq : q ≤ 1048576 := tot_len h2.1 ht2
 have HE1 := hid (tot_each ht)
 have HE2 := hid (tot_each ht2)
 have HT1 := hid ht
 have HT2 := hid ht2
 have s := h.next bel
 have s1 := h'.next bel
 have s2 := h2.next bel
 have L := hid (specSubstOk A S n c m c' sg xa W s s1 hn ht)
 clear hW ht ht2
 cases hok : substOkB sg xa with
 | false =>
  have HS := hid hok
  clear hok s s1 s2 h h' h2
  go_enter Try.func27, Try.ntmps27
  go_wp2_with fail
  rw [← HW.out]
  refine L.out.mono ?_
  rintro e w1 ⟨he, bb⟩
  rw [HS.out] at he
  subst he
  have F := hid (ansB (b := sameB sg xa xb) (a := false) (by rw [same_a HS.out]) (next_trans bel bb))
  clear bb bel rA rS rT
  go_wp2
  go_ret
  exact F.out
 | true =>
  have HS := hid hok
  clear hok
  go_enter Try.func27, Try.ntmps27
  go_wp2_with fail
  rw [← HW.out]
  refine L.out.mono ?_
  rintro e w1 ⟨he, bb⟩
  rw [HS.out] at he
  subst he
  replace s := s.next bb
  replace s1 := s1.next bb
  replace s2 := s2.next bb
  replace rA := rA.next bb
  replace rS := rS.next bb
  replace rT := rT.next bb
  replace bel := next_trans bel bb
  have cA : w1.cell? ⟨w.heap.size, 0, none⟩ = some (.slice A n c) := rA.cell 0
  have cT : w1.cell? ⟨w.heap.size + 2, 0, none⟩ = some (.slice T q cq) := rT.cell 0
  have L2 := hid (specSubstOk A T n c q cq sg xb w1 s s2 hn HT2.out)
  clear bb L
  cases hok2 : substOkB sg xb with
  | false =>
   have HS2 := hid hok2
   clear hok2 s s1 s2 h h' h2
   go_wp2_with fail
   refine L2.out.mono ?_
   rintro e w2 ⟨he, bb⟩
   rw [HS2.out] at he
   subst he
   have F := hid (ansB (b := sameB sg xa xb) (a := false) (by rw [same_b HS2.out]) (next_trans bel bb))
   clear bb bel rA rS rT cA cT L2
   go_wp2
   go_ret
   exact F.out
  | true =>
   have HS2 := hid hok2
   clear hok2
   go_wp2_with fail
   refine L2.out.mono ?_
   rintro e w2 ⟨he, bb⟩
   rw [HS2.out] at he
   subst he
   replace s1 := s1.next bb
   replace s2 := s2.next bb
   replace rS := rS.next bb
   replace rT := rT.next bb
   replace bel := next_trans bel bb
   clear bb L2 cA cT rA s
   have H0 : HeadSS w (w.heap.size + 1) (w.heap.size + 2) S m c' T q cq xa xb (.int .i64 0) w2 := ⟨0, Nat.zero_le _, rfl, fun j hj => absurd hj (Nat.not_lt_zero _), rS, rT, bel⟩
   have HH := hid H0
   clear H0 s1 s2 rS rT bel
   go_wp2_with fail
   go_loopw [7] (fun i wr => HeadSS w (w.heap.size + 1) (w.heap.size + 2) S m c' T q cq xa xb i wr) (fun i _ => 24 - (intOf i).toNat)
   case atStart => exact HH.out
   case round =>
    obtain ⟨k, hk, rfl, hlow, r1, r2, hb⟩ := hrel
    clear HH
    have HLOW := hid hlow
    clear hlow
    by_cases hlt : k < 24
    ·have i0 : (0 : Int) ≤ (k : Int) := by omega
     have cS : wr.cell? ⟨w.heap.size + 1, 0, none⟩ = some (.slice S m c') := r1.cell 0
     have cT : wr.cell? ⟨w.heap.size + 2, 0, none⟩ = some (.slice T q cq) := r2.cell 0
     have LG := hid (l2Gives S m c' xa k wr.drew (((h'.below hb).more hb.size).drew) HT1.out (by omega))
     have t2 := (((h2.below hb).more hb.size).drew)
     have rd1 := r1.drew
     have rd2 := r2.drew
     have hya : (givesL xa k).length ≤ 1048576 := gives_each HE1.out k
     have hyb : (givesL xb k).length ≤ 1048576 := gives_each HE2.out k
     obtain ⟨ya, hya2⟩ : ∃ ya, givesL xa k = ya := ⟨_, rfl⟩
     rw [hya2] at LG hya
     have HYA := hid hya2
     clear hya2 h h' h2
     obtain ⟨z, hz⟩ : ∃ z, decide (ya = givesL xb k) = z := ⟨_, rfl⟩
     have HZ := hid hz
     clear hz
     go_wp2_with fail
     refine wp_region_held_drew (S := (fun w' => w'.cell? ⟨w.heap.size + 1, 0, none⟩ = some (.slice S m c') ∧ w'.cell? ⟨w.heap.size + 2, 0, none⟩ = some (.slice T q cq))) (by kernel_rfl) ⟨cS, cT⟩ (fun hHeld => ?_)
     refine wpAnyH_take (i := 0) (v := ?_) rfl (by kernel_rfl) (by kernel_rfl) (by kernel_rfl) (fun _ _ _ h => h) (Or.inl ⟨by rfl, ?_⟩) (by assumption) ?_
     rotate_left 1
     ·(intro w0 hSw; (try dsimp only at hSw); go_simp; try with_reducible rfl)
     try simp only [Act.put, setIfInBounds_toArray, set_cons_zero, set_cons_succ, getElem_toArray, getElem_cons_zero, getElem_cons_succ]
     refine wpAnyH_take (i := 1) (v := ?_) rfl (by kernel_rfl) (by kernel_rfl) (by kernel_rfl) (fun _ _ _ h => h) (Or.inl ⟨by rfl, ?_⟩) (by assumption) ?_
     rotate_left 1
     ·(intro w0 hSw; (try dsimp only at hSw); go_simp; try with_reducible rfl)
     try simp only [Act.put, setIfInBounds_toArray, set_cons_zero, set_cons_succ, getElem_toArray, getElem_cons_zero, getElem_cons_succ]
     refine wpAnyH_take (i := 3) (v := ?_) rfl (by kernel_rfl) (by kernel_rfl) (by kernel_rfl) (fun _ _ _ h => h) (Or.inl ⟨by rfl, ?_⟩) (by assumption) ?_
     rotate_left 1
     ·(intro w0 hSw; (try dsimp only at hSw); go_simp; try with_reducible rfl)
     try simp only [Act.put, setIfInBounds_toArray, set_cons_zero, set_cons_succ, getElem_toArray, getElem_cons_zero, getElem_cons_succ]
     refine wpAnyH_take (i := 4) (v := ?_) rfl (by kernel_rfl) (by kernel_rfl) (by kernel_rfl) (fun _ _ _ h => h) (Or.inl ⟨by rfl, ?_⟩) (by assumption) ?_
     rotate_left 1
     ·(intro w0 hSw; (try dsimp only at hSw); go_simp; try with_reducible rfl)
     try simp only [Act.put, setIfInBounds_toArray, set_cons_zero, set_cons_succ, getElem_toArray, getElem_cons_zero, getElem_cons_succ]
     refine wpAnyH_ready (rs := [2]) (by kernel_rfl) (by simp) (AllReadyH.cons rfl (fun K hK => ?_) AllReadyH.nil)
     go_simp
     refine LG.out.mono ?_; rintro e w3 ⟨X, xn, xc, rfl, oa, b1⟩; have u1 := rd1.next b1; have u2 := rd2.next b1; have x1 : w3.cell? ⟨w.heap.size + 1, 0, none⟩ = some (.slice S m c') := u1.cell 0; have x2 : w3.cell? ⟨w.heap.size + 2, 0, none⟩ = some (.slice T q cq) := u2.cell 0; go_wp2_with fail
     refine hK.out _ _ ?_ (fun hHeld => ?_)
     ·first | assumption | (dsimp only; assumption) | exact ⟨by assumption, by assumption⟩
     clear hK K
     try simp only [Act.put, setIfInBounds_toArray, set_cons_zero, set_cons_succ, getElem_toArray, getElem_cons_zero, getElem_cons_succ]
     refine wpAnyH_ready (rs := [5]) (by kernel_rfl) (by simp) (AllReadyH.cons rfl (fun K hK => ?_) AllReadyH.nil)
     go_simp
     refine (l2Gives T q cq xb k w3 (t2.next b1) HT2.out (by omega)).mono ?_; rintro e w4 ⟨Y, yn, yc, rfl, ob, b2⟩; have oa2 := oa.next b2; have v1 := u1.next b2; have v2 := u2.next b2; have x1 : w4.cell? ⟨w.heap.size + 1, 0, none⟩ = some (.slice S m c') := v1.cell 0; have x2 : w4.cell? ⟨w.heap.size + 2, 0, none⟩ = some (.slice T q cq) := v2.cell 0; go_wp2_with fail
     refine hK.out _ _ ?_ (fun hHeld => ?_)
     ·first | assumption | (dsimp only; assumption) | exact ⟨by assumption, by assumption⟩
     clear hK K
     try simp only [Act.put, setIfInBounds_toArray, set_cons_zero, set_cons_succ, getElem_toArray, getElem_cons_zero, getElem_cons_succ]
     refine wpAnyH_ready (rs := [6]) (by kernel_rfl) (by simp) (AllReadyH.cons rfl (fun K hK => ?_) AllReadyH.nil)
     go_simp
     refine (specSame X Y xn yn xc yc ya (givesL xb k) w4 (Own.seg oa2) (Own.seg ob) (by rw [Own.len oa]; exact hya) (by rw [Own.len ob]; exact hyb)).mono ?_; rintro e w5 ⟨he, d, rfl⟩; rw [HZ.out] at he; subst he; have x1 : (w4.drewN d).cell? ⟨w.heap.size + 1, 0, none⟩ = some (.slice S m c') := (v1.drewN d).cell 0; have x2 : (w4.drewN d).cell? ⟨w.heap.size + 2, 0, none⟩ = some (.slice T q cq) := (v2.drewN d).cell 0; go_wp2_with fail
     refine hK.out _ _ ?_ (fun hHeld => ?_)
     ·first | assumption | (dsimp only; assumption) | exact ⟨by assumption, by assumption⟩
     clear hK K
     try simp only [Act.put, setIfInBounds_toArray, set_cons_zero, set_cons_succ, getElem_toArray, getElem_cons_zero, getElem_cons_succ]
     refine wpAnyH_take (i := 7) (v := ?_) rfl (by kernel_rfl) (by kernel_rfl) (by kernel_rfl) (fun _ _ _ h => h) (Or.inl ⟨by rfl, ?_⟩) (by assumption) ?_
     rotate_left 1
     ·(intro w0 hSw; (try dsimp only at hSw); go_simp; try with_reducible rfl)
     try simp only [Act.put, setIfInBounds_toArray, set_cons_zero, set_cons_succ, getElem_toArray, getElem_cons_zero, getElem_cons_succ]
     refine wpAnyH_done (by kernel_rfl) ?_ _
     have HB : Hid (Below wr.heap.size wr (w4.drewN d)) := hid (next_trans (drew_below wr) (next_trans b1 (next_trans b2 (drewN_below _ d))))
     clear b1 b2 oa oa2 ob u1 u2 v1 v2 x1 x2 cS cT rd1 rd2 t2 LG
     cases z with
     | true =>
      have S1 := hid (headSS_step (xa := xa) (xb := xb) hlt HLOW.out (HYA.out.trans (of_decide_eq_true HZ.out)) r1 r2 hb HB.out)
      clear r1 r2 hb
      go_wp2
      go_roundw
      case rel => exact S1.out
      case measure => simp [intOf]; omega
     | false =>
      have F := hid (ansB (b := sameB sg xa xb) (a := false) (by rw [same_ab HS.out HS2.out, sameG_no hlt (by rw [HYA.out]; exact of_decide_eq_false HZ.out)]) (next_trans hb HB.out))
      clear r1 r2 hb
      go_wp2
      go_ret
      exact F.out
    ·have F := hid (ansB (b := sameB sg xa xb) (a := true) (by rw [same_ab HS.out HS2.out, sameG_yes (fun i hi => HLOW.out i (by omega))]) hb)
     clear r1 r2 hb h h' h2
     go_wp2
     go_ret
     exact F.out
set_option maxHeartbeats 8000000 in
theorem implSameSubst (A S T : Option Addr) (n c m c' q cq : Nat) (sg : List Int) (xa xb : List (List Int)) (w : World) (h : Seg w w.heap.size A n sg) (h' : Segs w w.heap.size S m xa) (h2 : Segs w w.heap.size T q xb) (hn : n ≤ 1048576) (ht : tot xa ≤ 1048576) (ht2 : tot xb ≤ 1048576) :
  Calls Try.prog 26 #[.agg #[.slice A n c], .agg #[.slice S m c'], .agg #[.slice T q cq]] w (AnsB w (sameB sg xa xb)) := by
 obtain ⟨W, hW, rA, rS, rT, bel⟩ := boxesSS w A n c S m c' T q cq
 have HW := hid hW
 have hm : m ≤ 1048576 := tot_len h'.1 ht
 have hq : q ≤ 1048576 := tot_len h2.1 ht2
 have HE1 := hid (tot_each ht)
 have HE2 := hid (tot_each ht2)
 have HT1 := hid ht
 have HT2 := hid ht2
 have s := h.next bel
 have s1 := h'.next bel
 have s2 := h2.next bel
 have L := hid (implSubstOk A S n c m c' sg xa W s s1 hn ht)
 clear hW ht ht2
 cases hok : substOkB sg xa with
 | false =>
  have HS := hid hok
  clear hok s s1 s2 h h' h2
  go_enter Try.func26, Try.ntmps26
  go_wp2_with fail
  rw [← HW.out]
  refine L.out.mono ?_
  rintro e w1 ⟨he, bb⟩
  rw [HS.out] at he
  subst he
  have F := hid (ansB (b := sameB sg xa xb) (a := false) (by rw [same_a HS.out]) (next_trans bel bb))
  clear bb bel rA rS rT
  go_wp2
  go_ret
  exact F.out
 | true =>
  have HS := hid hok
  clear hok
  go_enter Try.func26, Try.ntmps26
  go_wp2_with fail
  rw [← HW.out]
  refine L.out.mono ?_
  rintro e w1 ⟨he, bb⟩
  rw [HS.out] at he
  subst he
  replace s := s.next bb
  replace s1 := s1.next bb
  replace s2 := s2.next bb
  replace rA := rA.next bb
  replace rS := rS.next bb
  replace rT := rT.next bb
  replace bel := next_trans bel bb
  have cA : w1.cell? ⟨w.heap.size, 0, none⟩ = some (.slice A n c) := rA.cell 0
  have cT : w1.cell? ⟨w.heap.size + 2, 0, none⟩ = some (.slice T q cq) := rT.cell 0
  have L2 := hid (implSubstOk A T n c q cq sg xb w1 s s2 hn HT2.out)
  clear bb L
  cases hok2 : substOkB sg xb with
  | false =>
   have HS2 := hid hok2
   clear hok2 s s1 s2 h h' h2
   go_wp2_with fail
   refine L2.out.mono ?_
   rintro e w2 ⟨he, bb⟩
   rw [HS2.out] at he
   subst he
   have F := hid (ansB (b := sameB sg xa xb) (a := false) (by rw [same_b HS2.out]) (next_trans bel bb))
   clear bb bel rA rS rT cA cT L2
   go_wp2
   go_ret
   exact F.out
  | true =>
   have HS2 := hid hok2
   clear hok2
   go_wp2_with fail
   refine L2.out.mono ?_
   rintro e w2 ⟨he, bb⟩
   rw [HS2.out] at he
   subst he
   replace s1 := s1.next bb
   replace s2 := s2.next bb
   replace rS := rS.next bb
   replace rT := rT.next bb
   replace bel := next_trans bel bb
   clear bb L2 cA cT rA s
   have cS : w2.cell? ⟨w.heap.size + 1, 0, none⟩ = some (.slice S m c') := rS.cell 0
   have cT : w2.cell? ⟨w.heap.size + 2, 0, none⟩ = some (.slice T q cq) := rT.cell 0
   have d1 := rS.drew
   have d2 := rT.drew
   have sd1 := s1.drew
   have sd2 := s2.drew
   have bd := bel.drew
   clear rS rT s1 s2 bel
   go_wp2_with fail
   refine wp_region_held_drew (S := (fun w' => w'.cell? ⟨w.heap.size + 1, 0, none⟩ = some (.slice S m c') ∧ w'.cell? ⟨w.heap.size + 2, 0, none⟩ = some (.slice T q cq))) (by kernel_rfl) ⟨cS, cT⟩ (fun hHeld => ?_)
   refine wpAnyH_take (i := 0) (v := ?_) rfl (by kernel_rfl) (by kernel_rfl) (by kernel_rfl) (fun _ _ _ h => h) (Or.inl ⟨by rfl, ?_⟩) (by assumption) ?_
   rotate_left 1
   ·(intro w0 hSw; (try dsimp only at hSw); go_simp; try with_reducible rfl)
   try simp only [Act.put, setIfInBounds_toArray, set_cons_zero, set_cons_succ, getElem_toArray, getElem_cons_zero, getElem_cons_succ]
   refine wpAnyH_take (i := 2) (v := ?_) rfl (by kernel_rfl) (by kernel_rfl) (by kernel_rfl) (fun _ _ _ h => h) (Or.inl ⟨by rfl, ?_⟩) (by assumption) ?_
   rotate_left 1
   ·(intro w0 hSw; (try dsimp only at hSw); go_simp; try with_reducible rfl)
   try simp only [Act.put, setIfInBounds_toArray, set_cons_zero, set_cons_succ, getElem_toArray, getElem_cons_zero, getElem_cons_succ]
   refine wpAnyH_ready (rs := [1]) (by kernel_rfl) (by simp) (AllReadyH.cons rfl (fun K hK => ?_) AllReadyH.nil)
   go_simp
   refine (lookupB S m c' w2.drew).mono ?_; rintro e w3 ⟨rfl, ra, b3⟩; have u1 := d1.next b3; have u2 := d2.next b3; have x1 : w3.cell? ⟨w.heap.size + 1, 0, none⟩ = some (.slice S m c') := u1.cell 0; have x2 : w3.cell? ⟨w.heap.size + 2, 0, none⟩ = some (.slice T q cq) := u2.cell 0; go_wp2_with fail
   refine hK.out _ _ ?_ (fun hHeld => ?_)
   ·first | assumption | (dsimp only; assumption) | exact ⟨by assumption, by assumption⟩
   clear hK K
   try simp only [Act.put, setIfInBounds_toArray, set_cons_zero, set_cons_succ, getElem_toArray, getElem_cons_zero, getElem_cons_succ]
   refine wpAnyH_ready (rs := [3]) (by kernel_rfl) (by simp) (AllReadyH.cons rfl (fun K hK => ?_) AllReadyH.nil)
   go_simp
   refine (lookupB T q cq w3).mono ?_; rintro e w4 ⟨rfl, rb, b4⟩; have x1 : w4.cell? ⟨w.heap.size + 1, 0, none⟩ = some (.slice S m c') := (u1.next b4).cell 0; have x2 : w4.cell? ⟨w.heap.size + 2, 0, none⟩ = some (.slice T q cq) := (u2.next b4).cell 0; clear u1 u2; go_wp2_with fail
   refine hK.out _ _ ?_ (fun hHeld => ?_)
   ·first | assumption | (dsimp only; assumption) | exact ⟨by assumption, by assumption⟩
   clear hK K
   try simp only [Act.put, setIfInBounds_toArray, set_cons_zero, set_cons_succ, getElem_toArray, getElem_cons_zero, getElem_cons_succ]
   refine wpAnyH_take (i := 4) (v := ?_) rfl (by kernel_rfl) (by kernel_rfl) (by kernel_rfl) (fun _ _ _ h => h) (Or.inl ⟨by rfl, ?_⟩) (by assumption) ?_
   rotate_left 1
   ·(intro w0 hSw; (try dsimp only at hSw); go_simp; try with_reducible rfl)
   try simp only [Act.put, setIfInBounds_toArray, set_cons_zero, set_cons_succ, getElem_toArray, getElem_cons_zero, getElem_cons_succ]
   refine wpAnyH_take (i := 5) (v := ?_) rfl (by kernel_rfl) (by kernel_rfl) (by kernel_rfl) (fun _ _ _ h => h) (Or.inl ⟨by rfl, ?_⟩) (by assumption) ?_
   rotate_left 1
   ·(intro w0 hSw; (try dsimp only at hSw); go_simp; try with_reducible rfl)
   try simp only [Act.put, setIfInBounds_toArray, set_cons_zero, set_cons_succ, getElem_toArray, getElem_cons_zero, getElem_cons_succ]
   refine wpAnyH_done (by kernel_rfl) ?_ _
   have H0 : HeadSS w w2.heap.size w3.heap.size S m c' T q cq xa xb (.int .i64 0) w4 := ⟨0, Nat.zero_le _, rfl, fun j hj => absurd hj (Nat.not_lt_zero _), ra.next b4, rb, next_trans (next_trans bd b3) b4⟩
   have HH := hid H0
   have G1 := hid ((sd1.next b3).next b4)
   have G2 := hid ((sd2.next b3).next b4)
   clear H0 sd1 sd2 d1 d2 bd b3 b4 ra rb cS cT x1 x2
   go_wp2_with fail
   go_loopw [24] (fun i wr => HeadSS w w2.heap.size w3.heap.size S m c' T q cq xa xb i wr) (fun i _ => 24 - (intOf i).toNat)
   case atStart => exact HH.out
   case round =>
    obtain ⟨k, hk, rfl, hlow, r1, r2, hb⟩ := hrel
    clear HH
    have HLOW := hid hlow
    clear hlow
    by_cases hlt : k < 24
    ·have i0 : (0 : Int) ≤ (k : Int) := by omega
     have LA : Calls Try.prog 79 #[.int .i64 (k : Int), .pointer (some ⟨w2.heap.size, 0, none⟩)] wr (AnsLook wr.heap.size wr (givesL xa k)) := lookSubst w2.heap.size S m c' xa wr r1 ((h'.below hb).more hb.size) hm wr k (Below.refl _ _) hlt
     have t2 := (h2.below hb).more hb.size
     have hya : (givesL xa k).length ≤ 1048576 := gives_each HE1.out k
     have hyb : (givesL xb k).length ≤ 1048576 := gives_each HE2.out k
     obtain ⟨ya, hya2⟩ : ∃ ya, givesL xa k = ya := ⟨_, rfl⟩
     rw [hya2] at LA hya
     have HYA := hid hya2
     clear hya2 h h' h2
     obtain ⟨z, hz⟩ : ∃ z, decide (ya = givesL xb k) = z := ⟨_, rfl⟩
     have HZ := hid hz
     clear hz
     replace LA := hid LA
     go_wp2_with fail
     refine LA.out.mono ?_
     rintro e w5 ⟨X, xn, xc, rfl, oa, -, -, b1⟩
     have LB : Calls Try.prog 79 #[.int .i64 (k : Int), .pointer (some ⟨w3.heap.size, 0, none⟩)] w5 (AnsLook w5.heap.size w5 (givesL xb k)) := lookSubst w3.heap.size T q cq xb w5 (r2.next b1) (t2.next b1) hq w5 k (Below.refl _ _) hlt
     replace LB := hid LB
     clear t2
     go_wp2_with fail
     refine LB.out.mono ?_
     rintro e w6 ⟨Y, yn, yc, rfl, ob, -, -, b2⟩
     have oa2 := oa.next b2
     go_wp2_with fail
     refine (implSame X Y xn yn xc yc ya (givesL xb k) w6 oa2 ob (by rw [← oa.1]; exact hya) (by rw [← ob.1]; exact hyb)).mono ?_
     rintro e w7 ⟨he, d, rfl⟩
     rw [HZ.out] at he
     subst he
     have HB := hid (next_trans b1 (next_trans b2 (drewN_below _ d)))
     clear b1 b2 oa oa2 ob LA LB
     cases z with
     | true =>
      have S1 := hid (headSS_step (xa := xa) (xb := xb) hlt HLOW.out (HYA.out.trans (of_decide_eq_true HZ.out)) r1 r2 hb HB.out)
      clear r1 r2 hb
      go_wp2
      go_roundw
      case rel => exact S1.out
      case measure => simp [intOf]; omega
     | false =>
      have F := hid (ansB (b := sameB sg xa xb) (a := false) (by rw [same_ab HS.out HS2.out, sameG_no hlt (by rw [HYA.out]; exact of_decide_eq_false HZ.out)]) (next_trans hb HB.out))
      clear r1 r2 hb
      go_wp2
      go_ret
      exact F.out
    ·have F := hid (ansB (b := sameB sg xa xb) (a := true) (by rw [same_ab HS.out HS2.out, sameG_yes (fun i hi => HLOW.out i (by omega))]) hb)
     clear r1 r2 hb h h' h2
     go_wp2
     go_ret
     exact F.out
end sameSubst
end
section
namespace compMath
open term termOk termFacts segsHelp fillMath substOk gives plainMath plainOf
end compMath
end
section
namespace filled
open Go.RowKit base ints sig cursor term termOk marks app appAt sym sub segs segsHelp termFacts varsMath varsOf fillMath Go.Proofs.Ytghgnondlgdjdaa.look shifted substOk gives
set_option maxRecDepth 100000
end filled
end
section
namespace plainFacts
open Go.RowKit base ints sig term termOk termFacts fillMath plainMath plainOf substOk gives sameSubst compMath filled
theorem gives_plain {L : Nat → List Int} {m i : Nat} (hpos : ∀ i, 1 ≤ (L i).length) (hout : ∀ i, m ≤ i → L i = vt i) : givesL (plainL L m) i = L i := by
 have e := plain_get L m i
 by_cases h : i < m
 ·rw [rows_get h] at e
  unfold bare at e
  by_cases h2 : L i = vt i
  ·rw [if_pos h2] at e
   rw [gives_var (by rw [e]; rfl), h2]
  ·rw [if_neg h2] at e
   rw [gives_term (by rw [e]; have := hpos i; omega), e]
 ·have e0 : (rowsL L m).getD i [] = [] := by simp [List.getD, rows_len, h]
  rw [e0] at e
  rw [gives_var (by rw [e]; rfl), hout i (by omega)]
theorem plain_gives {ss : List (List Int)} (i : Nat) : givesL (plainL (givesL ss) ss.length) i = givesL ss i :=
 gives_plain (fun j => gives_pos ss j) (fun j hj => gives_out (by omega))
theorem plain_valid {sg : List Int} {L : Nat → List Int} {m : Nat} (hs : sigOkB sg = true) (hm : m ≤ 24) (hok : ∀ i, i < m → termOkB sg (L i) = true) : substOkB sg (plainL L m) = true := by
 have hl := plain_len L m
 refine subst_good hs (by omega) (fun j hj => ?_)
 rw [plain_get, rows_get (by omega)]
 unfold bare goodB
 split
 ·simp
 ·rw [hok j (by omega)]
  simp
theorem plain_ok {sg : List Int} {ss : List (List Int)} (h : substOkB sg ss = true) : substOkB sg (plainL (givesL ss) ss.length) = true :=
 plain_valid (substOk_parts h).1 (substOk_parts h).2.1 (fun i hi => gives_ok h (by have := (substOk_parts h).2.1; omega))
theorem plain_eq_24 {ss : List (List Int)} (h : ss.length ≤ 24) : plainL (givesL ss) ss.length = plainL (givesL ss) 24 := (plain_24 h (fun i hi => gives_out (by omega))).symm
theorem plain_iff {sg : List Int} {a b : List (List Int)} (ha : substOkB sg a = true) (hb : substOkB sg b = true) : sameB sg a b = decide (plainL (givesL a) a.length = plainL (givesL b) b.length) := by
 rw [same_ab ha hb]
 by_cases h : sameG a b = true
 ·rw [h]
  symm
  rw [decide_eq_true_eq, plain_eq_24 (substOk_parts ha).2.1, plain_eq_24 (substOk_parts hb).2.1]
  exact plain_ext (fun i hi => sameG_iff.1 h i hi)
 ·have h0 : sameG a b = false := by simpa using h
  rw [h0]
  symm
  rw [decide_eq_false_iff_not]
  intro e
  refine h (sameG_iff.2 (fun i _ => ?_))
  rw [← plain_gives (ss := a) i, ← plain_gives (ss := b) i, e]
theorem plain_self {sg : List Int} {a : List (List Int)} (ha : substOkB sg a = true) : sameB sg (plainL (givesL a) a.length) a = true := by
 rw [same_ab (plain_ok ha) ha]
 exact sameG_iff.2 (fun i _ => plain_gives i)
theorem plain_last (L : Nat → List Int) (m : Nat) : (plainL L m).length = 0 ∨ 0 < ((plainL L m).getD ((plainL L m).length - 1) []).length := by
 unfold plainL
 rcases strip_end (rowsL L m) with h | ⟨q, h1, h2⟩
 ·exact .inl (by rw [h]; rfl)
 ·refine .inr ?_
  rw [h1, Nat.add_sub_cancel]
  exact List.length_pos_iff.2 h2
end plainFacts
end
section
namespace bigs
open Go.RowKit base ints
theorem bigAns (A : Option Addr) (n c : Nat) (b : Bool) (w : World) (hb : decide (4096 < n) = b) (hn : n ≤ 9223372036854775807) : Calls Try.prog 24 #[.slice A n c] w fun e w' => w = w' ∧ e = .returned (.bool b) := by
 cases b with
 | true =>
  have h : (4096 : Int) < (n : Int) := by have := of_decide_eq_true hb; omega
  clear hb
  go_enter Try.func24, Try.ntmps24
  go_wp2
  go_ret
  exact ⟨rfl, rfl⟩
 | false =>
  have h : ¬ (4096 : Int) < (n : Int) := by have := of_decide_eq_false hb; omega
  have h2 : decide (4096 < n) = false := hb
  clear hb
  go_enter Try.func24, Try.ntmps24
  go_wp2
  go_ret
  exact ⟨rfl, rfl⟩
end bigs
end
section
open Go.Lib (hid)
namespace wFnPlain
open Go.RowKit base ints sig same term cursor termOk marks app sym segs segsHelp segsMark dice drawVar drawSS varsOf substOk gives plainMath plain plainOf sameSubst plainFacts bigs
structure G3 (w : World) (v : Nat) (S : Option Addr) (sn sc : Nat) (sg : List Int) (B : Option Addr) (m cB : Nat) (xa : List (List Int)) (C : Option Addr) (q cC : Nat) (xb : List (List Int)) (wr : World) : Prop where
 s : Seg wr wr.heap.size S sn sg
 a : Segs wr wr.heap.size B m xa
 b : Segs wr wr.heap.size C q xb
 r3 : Row wr v 32 #[.slice S sn sc]
 r4 : Row wr (v + 1) 30 #[.slice B m cB]
 r5 : Row wr (v + 2) 30 #[.slice C q cC]
 bel : Below w.heap.size w wr
structure PQ (v6 v7 : Nat) (P : Option Addr) (pn pc : Nat) (ps : List (List Int)) (Q : Option Addr) (qn qc : Nat) (qs : List (List Int)) (wr : World) : Prop where
 p : Segs wr wr.heap.size P pn ps
 q : Segs wr wr.heap.size Q qn qs
 r6 : Row wr v6 30 #[.slice P pn pc]
 r7 : Row wr v7 30 #[.slice Q qn qc]
section
variable {w : World} {v : Nat} {S : Option Addr} {sn sc : Nat} {sg : List Int} {B : Option Addr} {m cB : Nat} {xa : List (List Int)} {C : Option Addr} {q cC : Nat} {xb : List (List Int)} {wr w' : World} {v6 v7 : Nat} {P : Option Addr} {pn pc : Nat} {ps : List (List Int)} {Q : Option Addr} {qn qc : Nat} {qs : List (List Int)}
theorem G3.next (f : G3 w v S sn sc sg B m cB xa C q cC xb wr) (hb : Below wr.heap.size wr w') : G3 w v S sn sc sg B m cB xa C q cC xb w' :=
 ⟨f.s.next hb, f.a.next hb, f.b.next hb, f.r3.next hb, f.r4.next hb, f.r5.next hb, next_trans f.bel hb⟩
theorem PQ.next (f : PQ v6 v7 P pn pc ps Q qn qc qs wr) (hb : Below wr.heap.size wr w') : PQ v6 v7 P pn pc ps Q qn qc qs w' := ⟨f.p.next hb, f.q.next hb, f.r6.next hb, f.r7.next hb⟩
end
theorem below_alloc (w : World) (x : Obj) : Below w.heap.size w (w.alloc x) := (Below.refl _ _).alloc (Nat.le_refl _) _
theorem below_drewN (w : World) (d : Nat) : Below w.heap.size w (w.drewN d) := ⟨rfl, rfl, rfl, Nat.le_refl _, fun _ _ => rfl⟩
theorem below_drew (w : World) : Below w.heap.size w w.drew := ⟨rfl, rfl, rfl, Nat.le_refl _, fun _ _ => rfl⟩
def HeadA (w : World) (v v6 v7 : Nat) (S : Option Addr) (sn sc : Nat) (sg : List Int) (B : Option Addr) (m cB : Nat) (xa : List (List Int)) (C : Option Addr) (q cC : Nat) (xb : List (List Int)) (P : Option Addr) (pn pc : Nat) (ps : List (List Int)) (Q : Option Addr) (qn qc : Nat) (qs : List (List Int)) (al i : Value) (wr : World) : Prop :=
 ∃ (k : Nat) (z : Bool), k ≤ pn ∧ i = .int .i64 k ∧ al = .bool z ∧ (z = true → pn = qn ∧ ∀ j, j < k → ps.getD j [] = qs.getD j []) ∧ (z = false → ps ≠ qs) ∧ G3 w v S sn sc sg B m cB xa C q cC xb wr ∧ PQ v6 v7 P pn pc ps Q qn qc qs wr
set_option maxRecDepth 100000 in
set_option maxHeartbeats 8000000 in
theorem law (A : Option Addr) (n c : Nat) (_ : List Int) (w : World) (h : SegB w w.heap.size A n) (hN : n ≤ 9223372036854775807) :
  Calls Try.prog 5 #[.slice A n c] w (Fine w) := by
 by_cases hbig : n ≤ 4096
 ·have LB := hid (bigAns A n c false w (by simp; omega) hN)
  go_enter Try.func5, Try.ntmps5
  go_wp2_with fail
  refine LB.out.mono ?_
  rintro e w' ⟨rfl, rfl⟩
  clear LB
  go_wp2_with fail
  refine (drawSameSubst A n c w h hbig).mono ?_
  rintro e w2 ⟨S, sn, sc, sg, B, m, cB, xa, C, q, cC, xb, rfl, s1, s2, s3, hsn, hat, hbt, b2⟩
  obtain ⟨v, hv⟩ : ∃ v, w2.heap.size = v := ⟨_, rfl⟩
  obtain ⟨W, hW⟩ : ∃ W, W = ((w2.alloc (.cells #[.slice S sn sc] 32)).alloc (.cells #[.slice B m cB] 30)).alloc (.cells #[.slice C q cC] 30) := ⟨_, rfl⟩
  have bb : Below w2.heap.size w2 W := by rw [hW]; exact ((below_alloc _ _).trans ((below_alloc _ _).mono (by simp))).trans ((below_alloc _ _).mono (by simp; omega))
  have T : G3 w v S sn sc sg B m cB xa C q cC xb W := by
   refine ⟨s1.next bb, s2.next bb, s3.next bb, ?_, ?_, ?_, next_trans b2 bb⟩
   ·rw [hW, ← hv]; exact ((Row.new _ _ _).alloc _).alloc _
   ·rw [hW, ← hv]; have := (Row.new (w2.alloc (.cells #[.slice S sn sc] 32)) 30 #[.slice B m cB]).alloc (.cells #[.slice C q cC] 30); simpa using this
   ·rw [hW, ← hv]; have := Row.new ((w2.alloc (.cells #[.slice S sn sc] 32)).alloc (.cells #[.slice B m cB] 30)) 30 #[.slice C q cC]; simpa using this
  obtain ⟨ps, hps⟩ : ∃ z, plainI sg xa = z := ⟨_, rfl⟩
  obtain ⟨qs, hqs⟩ : ∃ z, plainI sg xb = z := ⟨_, rfl⟩
  obtain ⟨b, hb⟩ : ∃ z, sameB sg xa xb = z := ⟨_, rfl⟩
  have HP := hid hps
  have HQ := hid hqs
  have HB := hid hb
  have HBB := hid (show (b != b) = false by simp)
  have hpt : tot ps ≤ 1048576 := by rw [← hps]; exact plainI_tot
  have HW := hid hW
  have HV := hid hv
  clear h s1 s2 s3 b2 bb hW hv hps hqs hb
  go_wp2_with fail
  rw [← HW.out, HV.out]
  refine (implPlainOf S B sn sc m cB sg xa _ T.s T.a (by omega) hat).mono ?_
  rintro e w3 ⟨P, pn, pc, rfl, oP, bb⟩
  rw [HP.out] at oP
  replace T := T.next bb
  obtain ⟨v6, h6⟩ : ∃ v, w3.heap.size = v := ⟨_, rfl⟩
  obtain ⟨W3, hW3⟩ : ∃ W, W = w3.alloc (.cells #[.slice P pn pc] 30) := ⟨_, rfl⟩
  have bb3 : Below w3.heap.size w3 W3 := by rw [hW3]; exact below_alloc _ _
  have r6 : Row W3 v6 30 #[.slice P pn pc] := by rw [hW3, ← h6]; exact Row.new _ _ _
  have sP := (oP.segs).next bb3
  replace T := T.next bb3
  have k3 : (w3.alloc (.cells #[.slice P pn pc] 30)).cell? ⟨v, 0, none⟩ = some (.slice S sn sc) := by rw [← hW3]; exact T.r3.cell 0
  have k5 : (w3.alloc (.cells #[.slice P pn pc] 30)).cell? ⟨v + 2, 0, none⟩ = some (.slice C q cC) := by rw [← hW3]; exact T.r5.cell 0
  have HW3 := hid hW3
  have H6 := hid h6
  clear bb bb3 oP hW3 h6 HW
  go_wp2_with fail
  rw [← HW3.out, H6.out]
  refine (implPlainOf S C sn sc q cC sg xb _ T.s T.b (by omega) hbt).mono ?_
  rintro e w4 ⟨Q, qn, qc, rfl, oQ, bb⟩
  rw [HQ.out] at oQ
  replace T := T.next bb
  replace sP := sP.next bb
  replace r6 := r6.next bb
  obtain ⟨v7, h7⟩ : ∃ v, w4.heap.size = v := ⟨_, rfl⟩
  obtain ⟨W4, hW4⟩ : ∃ W, W = w4.alloc (.cells #[.slice Q qn qc] 30) := ⟨_, rfl⟩
  have bb4 : Below w4.heap.size w4 W4 := by rw [hW4]; exact below_alloc _ _
  have U : PQ v6 v7 P pn pc ps Q qn qc qs W4 := ⟨sP.next bb4, (oQ.segs).next bb4, r6.next bb4, by rw [hW4, ← h7]; exact Row.new _ _ _⟩
  replace T := T.next bb4
  clear k3 k5
  have k3 : (w4.alloc (.cells #[.slice Q qn qc] 30)).cell? ⟨v, 0, none⟩ = some (.slice S sn sc) := by rw [← hW4]; exact T.r3.cell 0
  have k4 : (w4.alloc (.cells #[.slice Q qn qc] 30)).cell? ⟨v + 1, 0, none⟩ = some (.slice B m cB) := by rw [← hW4]; exact T.r4.cell 0
  have k5 : (w4.alloc (.cells #[.slice Q qn qc] 30)).cell? ⟨v + 2, 0, none⟩ = some (.slice C q cC) := by rw [← hW4]; exact T.r5.cell 0
  have HW4 := hid hW4
  have H7 := hid h7
  clear bb bb4 oQ sP r6 hW4 h7 HW3
  go_wp2_with fail
  rw [← HW4.out, H7.out]
  refine (implSameSubst S B C sn sc m cB q cC sg xa xb _ T.s T.a T.b (by omega) hat hbt).mono ?_
  rintro e w5 ⟨he, bb⟩
  rw [HB.out] at he
  subst he
  replace T := T.next bb
  replace U := U.next bb
  clear bb k3 k4 k5 HW4
  have c3 : w5.cell? ⟨v, 0, none⟩ = some (.slice S sn sc) := T.r3.cell 0
  have c4 : w5.cell? ⟨v + 1, 0, none⟩ = some (.slice B m cB) := T.r4.cell 0
  have c5 : w5.cell? ⟨v + 2, 0, none⟩ = some (.slice C q cC) := T.r5.cell 0
  go_wp2_with fail
  refine (specSameSubst S B C sn sc m cB q cC sg xa xb _ T.s T.a T.b (by omega) hat hbt).mono ?_
  rintro e w6 ⟨he, bb⟩
  rw [HB.out] at he
  subst he
  replace T := T.next bb
  replace U := U.next bb
  clear bb c3 c4 c5
  have c3 : w6.cell? ⟨v, 0, none⟩ = some (.slice S sn sc) := T.r3.cell 0
  have c4 : w6.cell? ⟨v + 1, 0, none⟩ = some (.slice B m cB) := T.r4.cell 0
  have ebb := HBB.out
  go_wp2_with fail
  refine (specSubstOk S B sn sc m cB sg xa _ T.s T.a (by omega) hat).mono ?_
  rintro e w7 ⟨he, bb⟩
  replace T := T.next bb
  replace U := U.next bb
  clear bb c3 c4 ebb
  cases hok : substOkB sg xa with
  | false =>
   rw [hok] at he
   subst he
   have hb0 : b = false := by rw [← HB.out]; exact same_a hok
   subst hb0
   have TB := hid T.bel
   clear T U hok
   go_wp2
   go_ret
   exact ⟨rfl, TB.out⟩
  | true =>
   rw [hok] at he
   subst he
   have c3 : w7.cell? ⟨v, 0, none⟩ = some (.slice S sn sc) := T.r3.cell 0
   have c5 : w7.cell? ⟨v + 2, 0, none⟩ = some (.slice C q cC) := T.r5.cell 0
   have HOK := hid hok
   clear hok
   go_wp2_with fail
   refine (specSubstOk S C sn sc q cC sg xb _ T.s T.b (by omega) hbt).mono ?_
   rintro e w8 ⟨he, bb⟩
   replace T := T.next bb
   replace U := U.next bb
   clear bb c3 c5
   cases hok2 : substOkB sg xb with
   | false =>
    rw [hok2] at he
    subst he
    have hb0 : b = false := by rw [← HB.out]; exact same_b hok2
    subst hb0
    have TB := hid T.bel
    clear T U hok2
    go_wp2
    go_ret
    exact ⟨rfl, TB.out⟩
   | true =>
    rw [hok2] at he
    subst he
    have hp : ps = plainL (givesL xa) xa.length := by rw [← HP.out]; exact plain_yes HOK.out
    have hq : qs = plainL (givesL xb) xb.length := by rw [← HQ.out]; exact plain_yes hok2
    have HEQ := hid (show b = decide (ps = qs) by rw [← HB.out, plain_iff HOK.out hok2, hp, hq])
    have HSE := hid (show sameB sg ps xa = true by rw [hp]; exact plain_self HOK.out)
    have HLA := hid (show ps.length = 0 ∨ 0 < (ps.getD (ps.length - 1) []).length by rw [hp]; exact plain_last _ _)
    have HPE := hid (fun (i : Nat) => (show (ps.getD i []).length ≤ 60 by rw [hp]; exact plain_each (gives_len HOK.out) i))
    have HQE := hid (fun (i : Nat) => (show (qs.getD i []).length ≤ 60 by rw [hq]; exact plain_each (gives_len hok2) i))
    have hpn : pn ≤ 1048576 := by
     have := U.p.1
     have : ps.length ≤ tot ps := by unfold tot; omega
     omega
    have HPL := hid U.p.1
    have HQL := hid U.q.1
    have c6 : w8.cell? ⟨v6, 0, none⟩ = some (.slice P pn pc) := U.r6.cell 0
    have c7 : w8.cell? ⟨v7, 0, none⟩ = some (.slice Q qn qc) := U.r7.cell 0
    obtain ⟨z0, hz0⟩ : ∃ z, ((pn : Int) == (qn : Int)) = z := ⟨_, rfl⟩
    have H0 : HeadA w v v6 v7 S sn sc sg B m cB xa C q cC xb P pn pc ps Q qn qc qs (.bool z0) (.int .i64 0) w8 :=
     ⟨0, z0, Nat.zero_le _, rfl, rfl, fun hz => ⟨by rw [hz] at hz0; have := of_decide_eq_true hz0; omega, fun j hj => absurd hj (Nat.not_lt_zero _)⟩, fun hz e => by
      rw [hz] at hz0
      have h1 := of_decide_eq_false hz0
      have h2 := HPL.out
      have h3 := HQL.out
      rw [e] at h2
      omega, T, U⟩
    have HH := hid H0
    clear H0 hp hq hok2 T U
    go_wp2_with fail
    go_loopw [9, 10] (fun al i wr => HeadA w v v6 v7 S sn sc sg B m cB xa C q cC xb P pn pc ps Q qn qc qs al i wr) (fun _ i _ => pn - (intOf i).toNat)
    case atStart => exact HH.out
    case round =>
     obtain ⟨k, z, hk, rfl, rfl, hz1, hz2, T, U⟩ := hrel
     clear HH c6 c7 hz0
     have c6 : wr.cell? ⟨v6, 0, none⟩ = some (.slice P pn pc) := U.r6.cell 0
     have c7 : wr.cell? ⟨v7, 0, none⟩ = some (.slice Q qn qc) := U.r7.cell 0
     by_cases hgo : k < pn ∧ z = true
     ·obtain ⟨hlt, rfl⟩ := hgo
      obtain ⟨hpq, hlow⟩ := hz1 rfl
      subst hpq
      obtain ⟨bp, fp, A1, n1, k1, hPe, -, hcp, sp, -⟩ := U.p.spot hlt
      obtain ⟨bq, fq, A2, n2, k2, hQe, -, hcq, sq, -⟩ := U.q.spot hlt
      have hPe2 := hPe
      have hQe2 := hQe
      subst hPe2
      subst hQe2
      have h1 : n1 ≤ 60 := by rw [← sp.1]; exact HPE.out k
      have h2 : n2 ≤ 60 := by rw [← sq.1]; exact HQE.out k
      have i0 : (0 : Int) ≤ (k : Int) := by omega
      have i1 : (k : Int) < (pn : Int) := by omega
      obtain ⟨xp, hxp⟩ : ∃ z, ps.getD k [] = z := ⟨_, rfl⟩
      obtain ⟨xq, hxq⟩ : ∃ z, qs.getD k [] = z := ⟨_, rfl⟩
      rw [hxp] at sp
      rw [hxq] at sq
      obtain ⟨z', hz'⟩ : ∃ z', decide (xp = xq) = z' := ⟨_, rfl⟩
      have next : ∀ wz, Below wr.heap.size wr wz → HeadA w v v6 v7 S sn sc sg B m cB xa C q cC xb (some ⟨bp, fp, none⟩) pn pc ps (some ⟨bq, fq, none⟩) pn qc qs (.bool z') (.int .i64 ((k : Int) + 1)) wz := fun wz hbz =>
       ⟨k + 1, z', hlt, by simp, rfl, fun hz => ⟨rfl, fun j hj => by
        by_cases e : j = k
        ·subst e
         rw [hxp, hxq]
         exact of_decide_eq_true (hz'.trans hz)
        ·exact hlow j (by omega)⟩, fun hz e => by
         have := of_decide_eq_false (hz'.trans hz)
         exact this (by rw [← hxp, ← hxq, e]), T.next hbz, U.next hbz⟩
      have NX := hid next
      have HZ' := hid hz'
      have sp1 := sp.next (below_drew wr)
      have sq1 := sq.next (below_drew wr)
      clear next hz' hz1 hz2 hlow T U sp sq hxp hxq hPe hQe
      go_wp2_with fail
      go_region_held3 (fun w' => w'.cell? ⟨v6, 0, none⟩ = some (.slice (some ⟨bp, fp, none⟩) pn pc) ∧ w'.cell? ⟨v7, 0, none⟩ = some (.slice (some ⟨bq, fq, none⟩) pn qc) ∧ w'.cell? ⟨bp, fp + k, none⟩ = some (.slice A1 n1 k1) ∧ w'.cell? ⟨bq, fq + k, none⟩ = some (.slice A2 n2 k2))
       (go_keep)
       (first
        | (go_at_call 29; refine (implSame A1 A2 n1 n2 k1 k2 xp xq _ sp1 sq1 (by omega) (by omega)).mono ?_; rintro e w9 ⟨he, d, hw⟩; rw [HZ'.out] at he; subst he; have bb : Below wr.heap.size wr w9 := hw ▸ next_trans (below_drew wr) (below_drewN _ d); have hd1 : w9.cell? ⟨v6, 0, none⟩ = some (.slice (some ⟨bp, fp, none⟩) pn pc) := hw ▸ c6; have hd2 : w9.cell? ⟨v7, 0, none⟩ = some (.slice (some ⟨bq, fq, none⟩) pn qc) := hw ▸ c7; have hd3 : w9.cell? ⟨bp, fp + k, none⟩ = some (.slice A1 n1 k1) := hw ▸ hcp; have hd4 : w9.cell? ⟨bq, fq + k, none⟩ = some (.slice A2 n2 k2) := hw ▸ hcq))
      have S1 := hid (NX.out (wr.drewN (1 + d)) (below_drewN wr (1 + d)))
      clear NX bb sp1 sq1 hd1 hd2 hd3 hd4 c6 c7 hcp hcq hw
      go_wp2
      go_roundw
      case rel => exact S1.out
      case measure => simp [intOf]; omega
     ·have hfin : z = b := by
       rw [HEQ.out]
       cases z with
       | true =>
        obtain ⟨hpq, hlow⟩ := hz1 rfl
        have hkp : k = pn := by
         by_cases e : k < pn
         ·exact absurd ⟨e, rfl⟩ hgo
         ·omega
        symm
        rw [decide_eq_true_eq]
        exact lists_same HPL.out (HQL.out.trans hpq.symm) (fun j hj => hlow j (by omega))
       | false =>
        symm
        rw [decide_eq_false_iff_not]
        exact hz2 rfl
      subst hfin
      have ezz : (z == z) = true := by simp
      have c3 : wr.cell? ⟨v, 0, none⟩ = some (.slice S sn sc) := T.r3.cell 0
      have c4 : wr.cell? ⟨v + 1, 0, none⟩ = some (.slice B m cB) := T.r4.cell 0
      have LS := hid (implSameSubst S P B sn sc pn pc m cB sg ps xa wr T.s U.p T.a (by omega) hpt hat)
      have rest : ∀ w9, Below wr.heap.size wr w9 → G3 w v S sn sc sg B m cB xa C q cC xb w9 ∧ PQ v6 v7 P pn pc ps Q qn qc qs w9 := fun w9 hb9 => ⟨T.next hb9, U.next hb9⟩
      have RST := hid rest
      clear T U hz1 hz2 rest
      have stop : ∀ (g : (k : Int) < (pn : Int) → z = false), True := fun _ => trivial
      by_cases hlt : (k : Int) < (pn : Int)
      ·have hzf : z = false := by
        cases z with
        | true => exact absurd ⟨by omega, rfl⟩ hgo
        | false => rfl
       subst hzf
       clear hgo stop
       go_wp2_with fail
       refine LS.out.mono ?_
       rintro e w9 ⟨he, bb⟩
       rw [HSE.out] at he
       subst he
       obtain ⟨T, U⟩ := RST.out _ bb
       have c6' : w9.cell? ⟨v6, 0, none⟩ = some (.slice P pn pc) := U.r6.cell 0
       have hp0 : ((pn : Int) == 0) = false := by simp; omega
       have hlast := (HLA.out).resolve_left (by rw [HPL.out]; omega)
       obtain ⟨bp, fp, A1, n1, k1, rfl, -, hcp, sp, -⟩ := U.p.spot (k := pn - 1) (by omega)
       rw [HPL.out, sp.1] at hlast
       have i0 : (0 : Int) ≤ (pn : Int) - 1 := by omega
       have i1 : (pn : Int) - 1 < (pn : Int) := by omega
       have ecast : ((pn : Int) - 1) = ((pn - 1 : Nat) : Int) := by omega
       have i2 : (0 : Int) < (n1 : Int) := by omega
       have TB := hid T.bel
       clear T U sp RST LS c6 c7 c3 c4 bb hlast
       go_wp2
       go_ret
       exact ⟨by rw [decide_eq_true (show 0 < n1 by omega)]; rfl, TB.out⟩
      ·clear hgo stop
       go_wp2_with fail
       refine LS.out.mono ?_
       rintro e w9 ⟨he, bb⟩
       rw [HSE.out] at he
       subst he
       obtain ⟨T, U⟩ := RST.out _ bb
       have c6' : w9.cell? ⟨v6, 0, none⟩ = some (.slice P pn pc) := U.r6.cell 0
       by_cases hp0 : pn = 0
       ·subst hp0
        have TB := hid T.bel
        clear T U RST LS c6 c7 c3 c4 bb
        go_wp2
        go_ret
        exact ⟨rfl, TB.out⟩
       ·have hp0' : ((pn : Int) == 0) = false := by simp; omega
        have hlast := (HLA.out).resolve_left (by rw [HPL.out]; omega)
        obtain ⟨bp, fp, A1, n1, k1, rfl, -, hcp, sp, -⟩ := U.p.spot (k := pn - 1) (by omega)
        rw [HPL.out, sp.1] at hlast
        have i0 : (0 : Int) ≤ (pn : Int) - 1 := by omega
        have i1 : (pn : Int) - 1 < (pn : Int) := by omega
        have ecast : ((pn : Int) - 1) = ((pn - 1 : Nat) : Int) := by omega
        have i2 : (0 : Int) < (n1 : Int) := by omega
        have TB := hid T.bel
        clear T U sp RST LS c6 c7 c3 c4 bb hlast
        go_wp2
        go_ret
        exact ⟨by rw [decide_eq_true (show 0 < n1 by omega)]; rfl, TB.out⟩
 ·have LB := hid (bigAns A n c true w (by simp; omega) hN)
  clear h
  go_enter Try.func5, Try.ntmps5
  go_wp2_with fail
  refine LB.out.mono ?_
  rintro e w' ⟨rfl, rfl⟩
  clear LB
  go_wp2
  go_ret
  exact ⟨rfl, Below.refl _ _⟩
end wFnPlain
end
end Go.Proofs.Ytghgnondlgdjdaa
