/-
  MERGED: my texts Segs, DrawPath, SegsHelp, Concat, PutMath, Put, Big, WFnPaths, one behind the other, as they are. By an AI agent.
-/
import Derived.Test.YtfclafbdbdmlhaaMFnPaths2
import Derived.Deep.QuietTactic
import Derived.BigQuiet
import Derived.Lib.AppendZeros
import Derived.Deep.LoopGhost
namespace Go.Proofs.Ytfclafbdbdmlhaa
section
namespace segs
open Go.RowKit base ints marks app sym appAt
set_option maxRecDepth 100000
def Cap (A : Option Addr) (n c : Nat) : Prop := n ≤ c ∧ c ≤ 9223372036854775807 ∧ (A = none → c = 0)
def Segs (w : World) (B : Nat) (A : Option Addr) (n : Nat) (xss : List (List Int)) : Prop :=
 xss.length = n ∧ (0 < n → ∃ b off, A = some ⟨b, off, none⟩ ∧ b < B ∧ ∀ j, j < n → ∃ A' n' c', w.cell? ⟨b, off + j, none⟩ = some (.slice A' n' c') ∧ Seg w B A' n' (xss.getD j []) ∧ Cap A' n' c')
section
variable {w w' : World} {B B' n : Nat} {A : Option Addr} {xss : List (List Int)}
theorem Segs.spot (h : Segs w B A n xss) {k : Nat} (hk : k < n) : ∃ b off A' n' c', A = some ⟨b, off, none⟩ ∧ b < B ∧ w.cell? ⟨b, off + k, none⟩ = some (.slice A' n' c') ∧ Seg w B A' n' (xss.getD k []) ∧ Cap A' n' c' := by
 obtain ⟨b, off, e, hb, hc⟩ := h.2 (by omega)
 obtain ⟨A', n', c', h1, h2, h3⟩ := hc k hk
 exact ⟨b, off, A', n', c', e, hb, h1, h2, h3⟩
theorem Segs.keep (h : Segs w B A n xss) (hk : ∀ p : Addr, p.block < B → w'.cell? p = w.cell? p) : Segs w' B A n xss :=
 ⟨h.1, fun hn => by
  obtain ⟨b, off, e, hb, hc⟩ := h.2 hn
  refine ⟨b, off, e, hb, fun j hj => ?_⟩
  obtain ⟨A', n', c', h1, h2, h3⟩ := hc j hj
  exact ⟨A', n', c', (hk ⟨b, off + j, none⟩ hb).trans h1, h2.keep hk, h3⟩⟩
theorem Segs.more (h : Segs w B A n xss) (hB : B ≤ B') : Segs w B' A n xss :=
 ⟨h.1, fun hn => by
  obtain ⟨b, off, e, hb, hc⟩ := h.2 hn
  refine ⟨b, off, e, by omega, fun j hj => ?_⟩
  obtain ⟨A', n', c', h1, h2, h3⟩ := hc j hj
  exact ⟨A', n', c', h1, h2.more hB, h3⟩⟩
theorem Segs.below (h : Segs w B A n xss) (hb : Below B w w') : Segs w' B A n xss := h.keep fun _ hp => hb.cell hp
theorem Segs.next (h : Segs w w.heap.size A n xss) (hb : Below w.heap.size w w') : Segs w' w'.heap.size A n xss := (h.below hb).more hb.size
structure Btw (lo hi : Nat) (w w' : World) : Prop where
 os : w'.os = w.os
 tape : w'.tape = w.tape
 output : w'.output = w.output
 size : w.heap.size ≤ w'.heap.size
 block : ∀ k, k < w.heap.size → (k < lo ∨ hi ≤ k) → w'.heap[k]? = w.heap[k]?
theorem Btw.below {lo hi : Nat} (h : Btw lo hi w w') (hB : B ≤ lo) (hs : B ≤ w.heap.size) : Below B w w' := ⟨h.os, h.tape, h.output, h.size, fun k hk => h.block k (by omega) (.inl (by omega))⟩
end
def Inn (w : World) (lo hi : Nat) (v : Value) (xs : List Int) : Prop := ∃ A c, v = .slice A xs.length c ∧ Own w lo v xs ∧ ∀ k, blk A = some k → k < hi
def Apart (n : Nat) (vs : List Value) : Prop := ∀ i j k, i < j → j < n → (vs.getD i undef).ownBlock = some k → (vs.getD j undef).ownBlock ≠ some k
structure Owns (w : World) (lo hi : Nat) (A : Option Addr) (n c : Nat) (xss : List (List Int)) : Prop where
 len : xss.length = n
 row : ∃ vs : List Value, w.ownsRow lo 24 1 (.slice A n c) n vs ∧ (∀ j, j < n → Inn w lo hi (vs.getD j undef) (xss.getD j [])) ∧ Apart n vs
 top : ∀ k, blk A = some k → k < hi
section
variable {w w' : World} {lo hi n c : Nat} {A : Option Addr} {xss : List (List Int)}
theorem own_form {base n c : Nat} {A : Option Addr} {vs : List Value} {t : TypeId} (h : w.ownsRow base t 1 (.slice A n c) n vs) : (A = none ∧ n = 0 ∧ c = 0 ∧ vs = []) ∨
  ∃ g cur, A = some ⟨g, 0, none⟩ ∧ base ≤ g ∧ Row w g t cur ∧ n ≤ c ∧ cur.size = c ∧ c ≤ 9223372036854775807 ∧ vs.length = n ∧ ∀ j, j < n → cur[j]? = some (vs.getD j undef) := by
 have hl : vs.length = n := by have := h.1; omega
 obtain ⟨h1, h2⟩ := h
 rcases h2 with ⟨e, h0⟩ | ⟨g, cap, cur, e, hb, hg, hn, hm, hs, ht⟩
 ·have e1 := (Value.slice.inj e)
  obtain ⟨rfl, rfl, rfl⟩ := e1
  exact .inl ⟨rfl, rfl, rfl, List.eq_nil_of_length_eq_zero hl⟩
 ·have e1 := (Value.slice.inj e)
  obtain ⟨rfl, -, rfl⟩ := e1
  refine .inr ⟨g, cur, rfl, hb, hg, hn, by omega, by unfold maxLen at hm; omega, hl, fun j hj => ?_⟩
  have h3 : (cur.toList.take (n * 1))[j]? = vs[j]? := by rw [ht]
  rw [List.getElem?_take, if_pos (by omega)] at h3
  rw [← Array.getElem?_toList, h3]
  simp [List.getD, show j < vs.length by omega]
theorem Inn.blk {v : Value} {xs : List Int} (h : Inn w lo hi v xs) : ∀ k, v.ownBlock = some k → lo ≤ k ∧ k < hi ∧ k < w.heap.size := fun k hk => by
 obtain ⟨A, c, rfl, ho, ht⟩ := h
 have h1 := World.ownsRow.lt ho k hk
 rw [blk_own] at hk
 exact ⟨h1.1, ht k hk, h1.2⟩
theorem Inn.next {v : Value} {xs : List Int} (h : Inn w lo hi v xs) (hb : Below w.heap.size w w') : Inn w' lo hi v xs := by
 obtain ⟨A, c, rfl, ho, ht⟩ := h
 exact ⟨A, c, rfl, ho.next hb, ht⟩
theorem Inn.cap {v : Value} {xs : List Int} (h : Inn w lo hi v xs) : ∃ A c, v = .slice A xs.length c ∧ Own w lo v xs ∧ Cap A xs.length c := by
 obtain ⟨A, c, rfl, ho, ht⟩ := h
 refine ⟨A, c, rfl, ho, ?_⟩
 rcases own_form (n := xs.length) (vs := xs.map (Value.int .i64)) ho with ⟨rfl, h1, rfl, _⟩ | ⟨g, cur, rfl, _, _, h1, h2, h3, _⟩
 ·exact ⟨by omega, by omega, fun _ => rfl⟩
 ·exact ⟨h1, h3, fun e => by cases e⟩
theorem Owns.cap (h : Owns w lo hi A n c xss) : Cap A n c := by
 obtain ⟨vs, hr, _⟩ := h.row
 rcases own_form hr with ⟨rfl, h1, rfl, _⟩ | ⟨g, cur, rfl, _, _, h1, h2, h3, _⟩
 ·exact ⟨by omega, by omega, fun _ => rfl⟩
 ·exact ⟨h1, h3, fun e => by cases e⟩
theorem Owns.next (h : Owns w lo hi A n c xss) (hb : Below w.heap.size w w') : Owns w' lo hi A n c xss := by
 obtain ⟨h1, ⟨vs, hr, hi', ha⟩, h3⟩ := h
 refine ⟨h1, ⟨vs, ?_, fun j hj => (hi' j hj).next hb, ha⟩, h3⟩
 exact World.ownsRow.kept hr ⟨hb.os, hb.tape, hb.output, hb.size, fun k hk _ => hb.block k hk⟩ (row := none) (by cases (Value.slice A n c).ownBlock <;> simp)
theorem Owns.nil (w : World) (lo hi : Nat) : Owns w lo hi none 0 0 [] :=
 ⟨rfl, ⟨[], World.ownsRow_nil w lo 24 1, fun j hj => absurd hj (Nat.not_lt_zero _), fun i j k _ hj => absurd hj (Nat.not_lt_zero _)⟩, fun k hk => by cases hk⟩
end
end segs
end
section
namespace drawPath
open Go.RowKit base ints sig term cursor termOk marks app sym segs dice drawSig drawTerm drawAny drawTwo drawPair drawOne drawAt
def AnsDPath (w : World) (e : Ending) (w' : World) : Prop :=
 ∃ S sn sc sg O on oc xs x, e = .returned (.tuple #[.agg #[.slice S sn sc], .slice O on oc, .int .i64 x]) ∧ Seg w' w'.heap.size S sn sg ∧ Seg w' w'.heap.size O on xs ∧ sn ≤ 9 ∧ on ≤ 65 ∧ Cap O on oc ∧ -1 ≤ x ∧ x ≤ on ∧ Below w.heap.size w w'
theorem path_of {w u : World} {p : Nat} {S : Option Addr} {sn sc : Nat} {sg : List Int} {O : Option Addr} {on oc : Nat} {xs : List Int} {x : Int} {B B' : Nat} {a : Option Addr} {l k : Nat} (hs : Rd u p B S sn sg) (hB : B ≤ u.heap.size) (ho : Rd u p B' O on xs) (hB' : B' ≤ u.heap.size)
  (h1 : sn ≤ 9) (h2 : on ≤ 65) (h3 : on ≤ oc) (h4 : oc ≤ 9223372036854775807) (h5 : O = none → oc = 0) (h6 : -1 ≤ x) (h7 : x ≤ on) (hb : Below w.heap.size w u) (hN : u.cell? ⟨w.heap.size, 0, none⟩ = some (.slice a l k)) :
  AnsDPath w (.returned (.tuple #[.agg #[.slice S sn sc], .slice O on oc, .int .i64 x])) (u.setCell ⟨w.heap.size, 0, none⟩ (.slice S sn sc)) :=
 ⟨S, sn, sc, sg, O, on, oc, xs, x, rfl, (Rd.seg (Rd.other (Rd.more hs hB) hN _)).more (by simp), (Rd.seg (Rd.other (Rd.more ho hB') hN _)).more (by simp), h1, h2, ⟨h3, h4, h5⟩, h6, h7, hb.setCell (Nat.le_refl _) _⟩
set_option maxHeartbeats 2000000 in
theorem drawPathOf (A : Option Addr) (n c : Nat) (w : World) (h : SegB w w.heap.size A n) (hn : n ≤ 4096) :
  Calls Try.prog 31 #[.slice A n c] w (AnsDPath w) := by
 obtain ⟨W0, hW0⟩ : ∃ W0, W0 = w.alloc (.cells #[.slice none 0 0] 26) := ⟨_, rfl⟩
 have rN : Row W0 w.heap.size 26 #[.slice none 0 0] := by rw [hW0]; exact Row.new _ _ _
 have b0 : Below w.heap.size w W0 := by rw [hW0]; exact (Below.refl _ _).alloc (Nat.le_refl _) _
 have h0 : SegB W0 W0.heap.size A n := fun hp => by
  obtain ⟨b, off, e, hb, hc⟩ := h hp
  refine ⟨b, off, e, Nat.lt_of_lt_of_le hb b0.size, fun j hj => ?_⟩
  obtain ⟨x, x0, x1, hx⟩ := hc j hj
  exact ⟨x, x0, x1, (b0.cell (p := ⟨b, off + j, none⟩) hb).trans hx⟩
 have L := Lib.hid (new_ A n c W0 h0 hn)
 have HW0 := Lib.hid hW0
 clear h h0 hW0
 go_enter Try.func31, Try.ntmps31
 go_wp2_with fail
 rw [← HW0.out]
 refine L.out.mono ?_
 rintro e w1 ⟨p, rfl, hp, d1, bb⟩
 have hNp : w.heap.size < p := Nat.lt_of_lt_of_le rN.lt hp
 replace rN := rN.next bb
 have bel := next_trans b0 bb
 have L2 := Lib.hid (drawAt p A n c w1 d1)
 clear d1 bb b0 L
 go_wp2_with fail
 refine L2.out.mono ?_
 rintro e w2 ⟨S, sn, sc, sg, O, on, oc, xs, x, rfl, rs, ro, h1, h2, h3, h4, h5, h6, h7, d2, g2⟩
 replace rN := Row.away rN g2 (fun e => by injection e; omega)
 have bel2 : Below w.heap.size w w2 := bel.grown g2 bel.size (fun k hk => by injection hk; omega)
 have cN : w2.cell? ⟨w.heap.size, 0, none⟩ = some (.slice none 0 0) := rN.cell 0
 have fN : w2.frozen? ⟨w.heap.size, 0, none⟩ = false := rN.free 0
 have F := Lib.hid (path_of (sc := sc) rs (Nat.le_refl _) ro (Nat.le_refl _) h1 h2 h3 h4 h5 h6 h7 bel2 cN)
 clear bel2 bel rs ro d2 g2 rN L2
 go_wp2
 exact bodyPost_ret (v := .tuple #[.agg #[.slice S sn sc], .slice O on oc, .int .i64 x]) (by simp [results, Try.results31, go_sem, cN]) rfl F.out
end drawPath
end
section
namespace segsHelp
open Go.RowKit base ints sig cursor marks app sym appAt segs
set_option maxRecDepth 100000
end segsHelp
end
section
namespace concat
open Go.RowKit base ints marks app sym segs segsHelp
set_option maxRecDepth 100000
end concat
end
section
namespace putMath
open sig term termOk termFacts endAt sub args depth termMath posMath
section
variable {sg t u : List Int} {a : Nat}
end
end putMath
end
section
namespace put
open Go.RowKit segsHelp base ints sig term arity endOf cursor termOk endAt inside marks app sym sub segs posMath putMath concat
set_option maxRecDepth 100000
theorem Seg.front {w : World} {B b off m a : Nat} {t : List Int} (h : Seg w B (some ⟨b, off, none⟩) m t) (ha : a ≤ m) : Seg w B (some ⟨b, off, none⟩) a (t.take a) := by
 have := Seg.cut (a := 0) (j := a) h (by omega)
 simpa using this
end put
end
section
namespace bigs
open Go.RowKit base ints
theorem bigAns (A : Option Addr) (n c : Nat) (b : Bool) (w : World) (hb : decide (4096 < n) = b) (hn : n ≤ 9223372036854775807) : Calls Try.prog 11 #[.slice A n c] w fun e w' => w = w' ∧ e = .returned (.bool b) := by
 cases b with
 | true =>
  have h : (4096 : Int) < (n : Int) := by have := of_decide_eq_true hb; omega
  clear hb
  go_enter Try.func11, Try.ntmps11
  go_wp2
  go_ret
  exact ⟨rfl, rfl⟩
 | false =>
  have h : ¬ (4096 : Int) < (n : Int) := by have := of_decide_eq_false hb; omega
  have h2 : decide (4096 < n) = false := hb
  clear hb
  go_enter Try.func11, Try.ntmps11
  go_wp2
  go_ret
  exact ⟨rfl, rfl⟩
end bigs
end
section
open Go.Lib (hid)
namespace wFnPaths
open Go.RowKit base ints sig term termOk endAt inside marks app sym args depth segs posMath pathSpec wayTo place deep dice drawPath bigs
set_option maxRecDepth 100000
structure Tp (w : World) (v : Nat) (S : Option Addr) (sn sc : Nat) (sg : List Int) (O : Option Addr) (on : Nat) (xs : List Int) (wr : World) : Prop where
 s : Seg wr wr.heap.size S sn sg
 t : Seg wr wr.heap.size O on xs
 r : Row wr v 26 #[.slice S sn sc]
 bel : Below w.heap.size w wr
section
variable {w : World} {v : Nat} {S : Option Addr} {sn sc : Nat} {sg : List Int} {O : Option Addr} {on : Nat} {xs : List Int} {wr w' : World}
theorem Tp.next (t : Tp w v S sn sc sg O on xs wr) (hb : Below wr.heap.size wr w') : Tp w v S sn sc sg O on xs w' := ⟨t.s.next hb, t.t.next hb, t.r.next hb, next_trans t.bel hb⟩
theorem Tp.drew (t : Tp w v S sn sc sg O on xs wr) : Tp w v S sn sc sg O on xs wr.drew := ⟨t.s, t.t, t.r, t.bel.drew⟩
theorem Tp.cell (t : Tp w v S sn sc sg O on xs wr) : wr.cell? ⟨v, 0, none⟩ = some (.slice S sn sc) := t.r.cell 0
end
theorem like (A A' : Option Addr) (n c c' : Nat) (xs : List Int) (w : World) (h : Seg w w.heap.size A n xs) (h' : Seg w w.heap.size A' n xs) (hn : n ≤ 1048576) :
  Calls Try.prog 33 #[.slice A n c, .slice A' n c'] w fun e w' => e = .returned (.bool true) ∧ ∃ d, w' = w.drewN d := by
 go_enter Try.func33, Try.ntmps33
 go_wp2
 go_loopw [5] (fun i wr => ∃ k d : Nat, k ≤ n ∧ i = .int .i64 k ∧ wr = w.drewN d) (fun i _ => n - (intOf i).toNat)
 case atStart => exact ⟨0, 0, Nat.zero_le _, rfl, rfl⟩
 case round =>
  obtain ⟨k, d, hk, rfl, rfl⟩ := hrel
  by_cases hlt : k < n
  ·obtain ⟨b, off, x, rfl, -, hx, ex⟩ := h.spot hlt
   obtain ⟨b', off', y, rfl, -, hy, ey⟩ := h'.spot hlt
   obtain rfl : x = y := by rw [← ex.out, ← ey.out]
   clear h h' ex ey
   go_wp2
   go_quiet (fail)
   go_wp2
   go_roundw
   case rel => exact ⟨k + 1, _, hlt, by simp, rfl⟩
   case measure => simp [intOf]; omega
  ·clear h h'
   go_wp2
   go_ret
   exact ⟨rfl, _, rfl⟩
theorem keep_alloc {w : World} {a : Addr} {v : Value} {o : Obj} (h : w.cell? a = some v) : (w.alloc o).cell? a = some v := (World.cell?_alloc_some w a o (by rw [h]; rfl)).trans h
theorem Tp.at {w : World} {v : Nat} {S : Option Addr} {sn sc : Nat} {sg : List Int} {O : Option Addr} {on : Nat} {xs : List Int} {wr w' : World} (t : Tp w v S sn sc sg O on xs wr) (hb : Below wr.heap.size wr w') : Seg w' w'.heap.size S sn sg ∧ Seg w' w'.heap.size O on xs := ⟨(t.next hb).s, (t.next hb).t⟩
theorem seg_cell {w : World} {g : Nat} {x : Int} (hc : w.cell? ⟨g, 0, none⟩ = some (.int .i64 x)) (hg : g < w.heap.size) : Seg w w.heap.size (some ⟨g, 0, none⟩) 1 [x] :=
 ⟨rfl, fun _ => ⟨g, 0, rfl, hg, fun j hj => by
  obtain rfl : j = 0 := by omega
  exact hc⟩⟩
theorem pair_cell (w : World) (t t' : TypeId) (x y : Int) : ((w.alloc (.cells #[.int .i64 y] t')).alloc (.cells #[.int .i64 x] t)).drew.cell? ⟨w.heap.size + 1, 0, none⟩ = some (.int .i64 x) := by
 rw [World.cell?_drew]
 simp
theorem pair_cell0 (w : World) (t : TypeId) (x : Int) (o : Obj) : ((w.alloc (.cells #[.int .i64 x] t)).alloc o).drew.cell? ⟨w.heap.size, 0, none⟩ = some (.int .i64 x) := by
 rw [World.cell?_drew]
 exact keep_alloc ((Row.new w t #[.int .i64 x]).cell 0)
theorem one_cell (w : World) (t : TypeId) (x : Int) : (w.alloc (.cells #[.int .i64 x] t)).drew.cell? ⟨w.heap.size, 0, none⟩ = some (.int .i64 x) := by
 rw [World.cell?_drew]
 exact (Row.new w t #[.int .i64 x]).cell 0
def AnsPl (w : World) (v : Nat) (S : Option Addr) (sn sc : Nat) (sg : List Int) (O : Option Addr) (on : Nat) (xs : List Int) (x : Int) (w' : World) (e : Ending) (w'' : World) : Prop := e = .returned (.int .i64 x) ∧ Tp w v S sn sc sg O on xs w'' ∧ Below w'.heap.size w' w''
theorem placeImplAt {w : World} {v : Nat} {S : Option Addr} {sn sc : Nat} {sg : List Int} {O : Option Addr} {on oc : Nat} {xs : List Int} {wr w' : World} {g : Nat} {x z : Int} (T : Tp w v S sn sc sg O on xs wr) (h1 : sn ≤ 9) (h2 : on ≤ 65) (hz : placeI sg xs [x] = z) (hb : Below wr.heap.size wr w') (hc : w'.cell? ⟨g, 0, none⟩ = some (.int .i64 x)) (hg : g < w'.heap.size) :
  Calls Try.prog 35 #[.agg #[.slice S sn sc], .slice O on oc, .slice (some ⟨g, 0, none⟩) 1 1] w' (AnsPl w v S sn sc sg O on xs z w') :=
 (implPlaceOf S O _ sn sc on oc 1 1 sg xs [x] w' (T.next hb).s (T.next hb).t (seg_cell hc hg) (by omega) (by omega) (by omega)).mono fun _ _ ⟨he, bb⟩ => ⟨by rw [he, hz], (T.next hb).next bb, bb⟩
theorem placeSpecAt {w : World} {v : Nat} {S : Option Addr} {sn sc : Nat} {sg : List Int} {O : Option Addr} {on oc : Nat} {xs : List Int} {wr w' : World} {g : Nat} {x z : Int} (T : Tp w v S sn sc sg O on xs wr) (h1 : sn ≤ 9) (h2 : on ≤ 65) (hz : placeI sg xs [x] = z) (hb : Below wr.heap.size wr w') (hc : w'.cell? ⟨g, 0, none⟩ = some (.int .i64 x)) (hg : g < w'.heap.size) :
  Calls Try.prog 36 #[.agg #[.slice S sn sc], .slice O on oc, .slice (some ⟨g, 0, none⟩) 1 1] w' (AnsPl w v S sn sc sg O on xs z w') :=
 (specPlaceOf S O _ sn sc on oc 1 1 sg xs [x] w' (T.next hb).s (T.next hb).t (seg_cell hc hg) (by omega) (by omega) (by omega)).mono fun _ _ ⟨he, bb⟩ => ⟨by rw [he, hz], (T.next hb).next bb, bb⟩
section
variable {w : World} {v : Nat} {S : Option Addr} {sn sc : Nat} {sg : List Int} {O : Option Addr} {on oc : Nat} {xs : List Int} {wr : World} {x z : Int}
theorem implA (T : Tp w v S sn sc sg O on xs wr) (h1 : sn ≤ 9) (h2 : on ≤ 65) (hz : placeI sg xs [x] = z) :
  Calls Try.prog 35 #[.agg #[.slice S sn sc], .slice O on oc, .slice (some ⟨wr.heap.size, 0, none⟩) 1 1] (wr.alloc (.cells #[.int .i64 x] 2)).drew (AnsPl w v S sn sc sg O on xs z (wr.alloc (.cells #[.int .i64 x] 2)).drew) :=
 placeImplAt T h1 h2 hz (((Below.refl _ _).alloc (Nat.le_refl _) _).drew) (one_cell _ _ _) (by simp)
def AnsPl2 (w : World) (v : Nat) (S : Option Addr) (sn sc : Nat) (sg : List Int) (O : Option Addr) (on : Nat) (xs : List Int) (z : Int) (g : Nat) (x : Int) (e : Ending) (w'' : World) : Prop := e = .returned (.int .i64 z) ∧ Tp w v S sn sc sg O on xs w'' ∧ w''.cell? ⟨g, 0, none⟩ = some (.int .i64 x) ∧ g < w''.heap.size
theorem below2 (o o' : Obj) : Below wr.heap.size wr ((wr.alloc o).alloc o').drew := ((((Below.refl _ _).alloc (Nat.le_refl _) o).alloc (by simp) o').drew)
theorem implB (T : Tp w v S sn sc sg O on xs wr) (h1 : sn ≤ 9) (h2 : on ≤ 65) (hz : placeI sg xs [x] = z) :
  Calls Try.prog 35 #[.agg #[.slice S sn sc], .slice O on oc, .slice (some ⟨wr.heap.size, 0, none⟩) 1 1] ((wr.alloc (.cells #[.int .i64 x] 2)).alloc (.cells #[.int .i64 x] 2)).drew (AnsPl2 w v S sn sc sg O on xs z (wr.heap.size + 1) x) :=
 (placeImplAt T h1 h2 hz (below2 _ _) (pair_cell0 _ _ _ _) (by simp; omega)).mono fun _ _ ⟨he, T2, bb⟩ => ⟨he, T2, (bb.cell (by simp)).trans (pair_cell _ _ _ _ _), Nat.lt_of_lt_of_le (by simp) bb.size⟩
theorem implC (T : Tp w v S sn sc sg O on xs wr) (h1 : sn ≤ 9) (h2 : on ≤ 65) (hz : placeI sg xs [x] = z) :
  Calls Try.prog 35 #[.agg #[.slice S sn sc], .slice O on oc, .slice (some ⟨wr.heap.size + 1, 0, none⟩) 1 1] ((wr.alloc (.cells #[.int .i64 x] 2)).alloc (.cells #[.int .i64 x] 2)).drew (AnsPl2 w v S sn sc sg O on xs z wr.heap.size x) :=
 (placeImplAt T h1 h2 hz (below2 _ _) (pair_cell _ _ _ _ _) (by simp)).mono fun _ _ ⟨he, T2, bb⟩ => ⟨he, T2, (bb.cell (by simp; omega)).trans (pair_cell0 _ _ _ _), Nat.lt_of_lt_of_le (by simp; omega) bb.size⟩
theorem specA (T : Tp w v S sn sc sg O on xs wr) (h1 : sn ≤ 9) (h2 : on ≤ 65) (hz : placeI sg xs [x] = z) :
  Calls Try.prog 36 #[.agg #[.slice S sn sc], .slice O on oc, .slice (some ⟨wr.heap.size, 0, none⟩) 1 1] (wr.alloc (.cells #[.int .i64 x] 2)) (AnsPl w v S sn sc sg O on xs z (wr.alloc (.cells #[.int .i64 x] 2))) :=
 placeSpecAt T h1 h2 hz ((Below.refl _ _).alloc (Nat.le_refl _) _) ((Row.new _ _ _).cell 0) (by simp)
theorem specB {g : Nat} (T : Tp w v S sn sc sg O on xs wr) (h1 : sn ≤ 9) (h2 : on ≤ 65) (hz : placeI sg xs [x] = z) (hc : wr.cell? ⟨g, 0, none⟩ = some (.int .i64 x)) (hg : g < wr.heap.size) :
  Calls Try.prog 36 #[.agg #[.slice S sn sc], .slice O on oc, .slice (some ⟨g, 0, none⟩) 1 1] wr (AnsPl w v S sn sc sg O on xs z wr) :=
 placeSpecAt T h1 h2 hz (Below.refl _ _) hc hg
end
theorem path_n {f : Nat} {args : Array Value} {w : World} {pa : List Int} {d : Nat} (h : Calls Try.prog f args w (AnsList w pa)) (hd : pa.length = d) : Calls Try.prog f args w fun e w' => ∃ A c, e = .returned (.slice A d c) ∧ Below w.heap.size w w' :=
 h.mono fun e w' ⟨A, n, c, he, ho, hb⟩ => ⟨A, c, by rw [he, Own.len ho, hd], hb⟩
set_option maxHeartbeats 2000000 in
theorem law (A : Option Addr) (n c : Nat) (_ : List Int) (w : World) (h : SegB w w.heap.size A n) (hN : n ≤ 9223372036854775807) :
  Calls Try.prog 6 #[.slice A n c] w (Fine w) := by
 by_cases hbig : n ≤ 4096
 ·have LB := hid (bigAns A n c false w (by simp; omega) hN)
  go_enter Try.func6, Try.ntmps6
  go_wp2_with fail
  refine LB.out.mono ?_
  rintro e w' ⟨rfl, rfl⟩
  clear LB
  go_wp2_with fail
  refine (drawPathOf A n c w h hbig).mono ?_
  rintro e w2 ⟨S, sn, sc, sg, O, on, oc, xs, x, rfl, ss, st, h3, h4, hcap, x0, x1, b2⟩
  clear h
  obtain ⟨v, hv⟩ : ∃ v, w2.heap.size = v := ⟨_, rfl⟩
  have T : Tp w v S sn sc sg O on xs (w2.alloc (.cells #[.slice S sn sc] 26)) := by
   have bb : Below w2.heap.size w2 (w2.alloc (.cells #[.slice S sn sc] 26)) := (Below.refl _ _).alloc (Nat.le_refl _) _
   exact ⟨ss.next bb, st.next bb, by rw [← hv]; exact Row.new _ _ _, next_trans b2 bb⟩
  obtain ⟨W, hW⟩ : ∃ W, W = w2.alloc (.cells #[.slice S sn sc] 26) := ⟨_, rfl⟩
  rw [← hW] at T
  have HW := hid hW
  have HV := hid hv
  have HX := hid st.1
  have HCAP := hid hcap
  clear ss st b2 hW hv hcap
  have cV := T.cell
  have cV0 : (w2.alloc (.cells #[.slice S sn sc] 26)).cell? ⟨w2.heap.size, 0, none⟩ = some (.slice S sn sc) := by rw [← HW.out, HV.out]; exact cV
  obtain ⟨pa, hpa⟩ := path_ex sg xs x
  have HP := hid hpa
  have hpl := hpa.len
  clear hpa
  go_wp2_with fail
  rw [← HW.out, HV.out]
  refine (implPathOf S O sn sc on oc sg xs x pa _ T.s T.t (by omega) (by omega) HP.out).mono ?_
  rintro e w3 ⟨Q, qn, qc, rfl, oq, bb⟩
  replace T := T.next bb
  clear bb cV cV0
  have cV := T.cell
  go_wp2_with fail
  refine (specPathOf S O sn sc on oc sg xs x pa _ T.s T.t (by omega) (by omega) HP.out).mono ?_
  rintro e w4 ⟨R, rn, rc, rfl, or, bb⟩
  have hrq : rn = qn := by rw [Own.len or, Own.len oq]
  subst hrq
  replace T := T.next bb
  replace oq := Own.next oq bb
  clear bb cV
  have hqn : rn ≤ 60 := by rw [Own.len oq]; exact hpl
  go_wp2_with fail
  refine (like Q R rn qc rc pa _ (Own.seg oq) (Own.seg or) (by omega)).mono ?_
  rintro e w5 ⟨rfl, d, rfl⟩
  replace T := T.next (below_drewN (Below.refl _ _) d)
  replace oq := Own.drewN oq d
  clear or
  generalize w4.drewN d = w5 at *
  have cV := T.cell
  cases hth : thereB sg xs x with
  | false =>
   have HT := hid hth
   have hpn : pa = [] := by
    rcases HP.out with ⟨e, _⟩ | ⟨_, e⟩
    ·rw [hth] at e; cases e
    ·exact e
   have hrn : rn = 0 := by rw [Own.len oq, hpn]; rfl
   subst hrn
   cases hok : termOkB sg xs with
   | false =>
    have HOK := hid hok
    clear hok hth oq
    go_wp2_with fail
    refine (specTermOk S O sn sc on oc sg xs _ T.s T.t (by omega) (by omega)).mono ?_
    rintro e w6 ⟨he, bb⟩
    rw [HOK.out] at he
    subst he
    replace T := T.next bb
    clear bb cV
    have cV := T.cell
    obtain ⟨pl, hpl2⟩ : ∃ z, placeI sg xs [x] = z := ⟨_, rfl⟩
    have HPL := hid hpl2
    clear hpl2
    go_wp2_with fail
    go_region_held3 (fun w' => w'.cell? ⟨v, 0, none⟩ = some (.slice S sn sc))
     ((((try simp only [World.cell?_drew])); (repeat (first | assumption | apply keep_alloc))))
     (first
      | (go_at_call 35; have X := implA (oc := oc) T h3 h4 HPL.out; (with_reducible refine X.mono ?_); clear X; rintro e w7 ⟨rfl, T2, bb⟩; have cV7 := T2.cell)
      | (go_at_call 35; have X := implB (oc := oc) T h3 h4 HPL.out; (with_reducible refine X.mono ?_); clear X; rintro e w7 ⟨rfl, T2, hc7, hg7⟩; have cV7 := T2.cell)
      | (go_at_call 35; have X := implC (oc := oc) T h3 h4 HPL.out; (with_reducible refine X.mono ?_); clear X; rintro e w7 ⟨rfl, T2, hc7, hg7⟩; have cV7 := T2.cell)
      | (go_at_call 36; have X := specA (oc := oc) T2 h3 h4 HPL.out; (with_reducible refine X.mono ?_); clear X; rintro e w8 ⟨rfl, T3, bb2⟩; have cV8 := T3.cell)
      | (go_at_call 36; have X := specB (oc := oc) T2 h3 h4 HPL.out hc7 hg7; (with_reducible refine X.mono ?_); clear X; rintro e w8 ⟨rfl, T3, bb2⟩; have cV8 := T3.cell))
    all_goals
     have F := hid T3.bel
     clear T3 cV8 bb2 cV7 T2
     go_wp2
     go_ret
     exact ⟨rfl, F.out⟩
   | true =>
    have HOK := hid hok
    have hdec : ¬ (0 ≤ x ∧ x < (on : Int)) := by
     have := there_dec (x := x) HX.out hok
     rw [hth] at this
     exact of_decide_eq_false this.symm
    clear hok hth oq
    go_wp2_with fail
    refine (specTermOk S O sn sc on oc sg xs _ T.s T.t (by omega) (by omega)).mono ?_
    rintro e w6 ⟨he, bb⟩
    rw [HOK.out] at he
    subst he
    replace T := T.next bb
    clear bb cV
    have cV := T.cell
    by_cases hneg : x < 0
    ·clear hdec
     obtain ⟨pl, hpl2⟩ : ∃ z, placeI sg xs [x] = z := ⟨_, rfl⟩
     have HPL := hid hpl2
     clear hpl2
     go_wp2_with fail
     go_region_held3 (fun w' => w'.cell? ⟨v, 0, none⟩ = some (.slice S sn sc))
      ((((try simp only [World.cell?_drew])); (repeat (first | assumption | apply keep_alloc))))
      (first
       | (go_at_call 35; have X := implA (oc := oc) T h3 h4 HPL.out; (with_reducible refine X.mono ?_); clear X; rintro e w7 ⟨rfl, T2, bb⟩; have cV7 := T2.cell)
       | (go_at_call 35; have X := implB (oc := oc) T h3 h4 HPL.out; (with_reducible refine X.mono ?_); clear X; rintro e w7 ⟨rfl, T2, hc7, hg7⟩; have cV7 := T2.cell)
       | (go_at_call 35; have X := implC (oc := oc) T h3 h4 HPL.out; (with_reducible refine X.mono ?_); clear X; rintro e w7 ⟨rfl, T2, hc7, hg7⟩; have cV7 := T2.cell)
       | (go_at_call 36; have X := specA (oc := oc) T2 h3 h4 HPL.out; (with_reducible refine X.mono ?_); clear X; rintro e w8 ⟨rfl, T3, bb2⟩; have cV8 := T3.cell)
       | (go_at_call 36; have X := specB (oc := oc) T2 h3 h4 HPL.out hc7 hg7; (with_reducible refine X.mono ?_); clear X; rintro e w8 ⟨rfl, T3, bb2⟩; have cV8 := T3.cell))
     all_goals
      have F := hid T3.bel
      clear T3 cV8 bb2 cV7 T2
      go_wp2
      go_ret
      exact ⟨rfl, F.out⟩
    ·have hge : (on : Int) ≤ x := by omega
     clear hdec
     obtain ⟨pl, hpl2⟩ : ∃ z, placeI sg xs [x] = z := ⟨_, rfl⟩
     have HPL := hid hpl2
     clear hpl2
     go_wp2_with fail
     go_region_held3 (fun w' => w'.cell? ⟨v, 0, none⟩ = some (.slice S sn sc))
      ((((try simp only [World.cell?_drew])); (repeat (first | assumption | apply keep_alloc))))
      (first
       | (go_at_call 35; have X := implA (oc := oc) T h3 h4 HPL.out; (with_reducible refine X.mono ?_); clear X; rintro e w7 ⟨rfl, T2, bb⟩; have cV7 := T2.cell)
       | (go_at_call 35; have X := implB (oc := oc) T h3 h4 HPL.out; (with_reducible refine X.mono ?_); clear X; rintro e w7 ⟨rfl, T2, hc7, hg7⟩; have cV7 := T2.cell)
       | (go_at_call 35; have X := implC (oc := oc) T h3 h4 HPL.out; (with_reducible refine X.mono ?_); clear X; rintro e w7 ⟨rfl, T2, hc7, hg7⟩; have cV7 := T2.cell)
       | (go_at_call 36; have X := specA (oc := oc) T2 h3 h4 HPL.out; (with_reducible refine X.mono ?_); clear X; rintro e w8 ⟨rfl, T3, bb2⟩; have cV8 := T3.cell)
       | (go_at_call 36; have X := specB (oc := oc) T2 h3 h4 HPL.out hc7 hg7; (with_reducible refine X.mono ?_); clear X; rintro e w8 ⟨rfl, T3, bb2⟩; have cV8 := T3.cell))
     all_goals
      have F := hid T3.bel
      clear T3 cV8 bb2 cV7 T2
      go_wp2
      go_ret
      exact ⟨rfl, F.out⟩
  | true =>
   have HT := hid hth
   obtain ⟨hok, i0, i1⟩ := there_parts hth
   obtain ⟨a, rfl⟩ := Int.eq_ofNat_of_zero_le i0
   have HOK := hid hok
   have hal : a < xs.length := by omega
   have haon : a < on := by rw [← HX.out]; exact hal
   obtain ⟨ab, hw⟩ : ∃ ab, Trail sg xs a 0 ab pa := by
    rcases HP.out with ⟨_, ab, hw⟩ | ⟨e, _⟩
    ·rw [Int.toNat_natCast] at hw; exact ⟨ab, hw⟩
    ·rw [hth] at e; cases e
   have HAB := hid (show aboveI sg xs (a : Int) = ab by unfold aboveI; rw [if_pos hth, Int.toNat_natCast, hw.aboveL hok hal])
   have hrn : ab.length = rn := by rw [Own.len oq, hw.len]
   have HRN := hid hrn
   have HPR := hid hw.prefix_
   have HPW := hid (show placeI sg xs pa = (a : Int) by unfold placeI; rw [if_pos hok, hw.walk])
   have hdl : deepN sg xs xs.length < xs.length := deep_lt (by omega) (Nat.le_refl _)
   have HDI := hid (show deepI sg xs = (deepN sg xs xs.length : Nat) from deep_yes hok)
   have HDD := hid (deep_depth hok)
   obtain ⟨ab2, pa2, tr2, l2⟩ := way_pl hok hdl
   obtain ⟨dd, hdd⟩ : ∃ d, deepN sg xs xs.length = d := ⟨_, rfl⟩
   rw [hdd] at hdl tr2 l2 HDI HDD
   have HP2 := hid (show PathIs sg xs (dd : Int) pa2 from .inl ⟨there_yes hok (by omega) (by omega), ab2, by rw [Int.toNat_natCast]; exact tr2⟩)
   have HD2 := hid (show depthI sg xs = ((pa2.length : Nat) : Int) + 1 by rw [l2]; have := HDD.out; omega)
   obtain ⟨dl, hdl2⟩ : ∃ d, pa2.length = d := ⟨_, rfl⟩
   have hdl60 : dl ≤ 60 := by rw [← hdl2]; exact HP2.out.len
   rw [hdl2] at HD2
   have hwr : IntKind.i64.wrap (dl : Int) = (dl : Int) := by rw [IntKind.wrap_i64]; omega
   have HDL := hid hdl2
   have HIN := hid (show insideB sg xs (a : Int) (a : Int) = true by rw [inside_there hth, ins_nat hok hal]; have := (term_at hok hal).2.1; exact decide_eq_true (by omega))
   have HRI : Hid (∀ r : Nat, r < a → a < r + len1 sg xs r → insideB sg xs (r : Int) (a : Int) = true ∧ insideB sg xs (a : Int) (r : Int) = false) := hid (fun r h1 h2 => by
    constructor
    ·rw [inside_there (there_yes hok (by omega) (by omega)), ins_nat hok (by omega)]; exact decide_eq_true (by omega)
    ·rw [inside_there hth, ins_nat hok hal]; exact decide_eq_false (by omega))
   have ia : (0 : Int) ≤ (a : Int) := by omega
   have ib : (a : Int) < (on : Int) := by omega
   have a60 : a ≤ 65 := by omega
   have hd60 : dd ≤ 65 := by have := HX.out; omega
   clear hok i0 i1 hw hrn hdl hdd tr2 l2 hdl2 hth hal haon
   go_wp2_with fail
   refine (specTermOk S O sn sc on oc sg xs _ T.s T.t (by omega) (by omega)).mono ?_
   rintro e w6 ⟨he, bb⟩
   rw [HOK.out] at he
   subst he
   replace T := T.next bb
   replace oq := Own.next oq bb
   clear bb cV
   have cV := T.cell
   go_wp2_with fail
   refine (implAboveOf S O sn sc on oc sg xs (a : Int) _ T.s T.t (by omega) (by omega) (by omega) (by omega)).mono ?_
   rintro e w7 ⟨B, bn, bc, rfl, ob, bb⟩
   rw [HAB.out] at ob
   obtain rfl : bn = rn := by rw [Own.len ob, HRN.out]
   replace T := T.next bb
   replace oq := Own.next oq bb
   clear bb cV
   have cV := T.cell
   go_wp2_with fail
   refine (implDeepestOf S O sn sc on oc sg xs _ T.s T.t (by omega) (by omega)).mono ?_
   rintro e w8 ⟨he, bb⟩
   rw [HDI.out] at he
   subst he
   replace T := (T.next bb).drew
   have sq := (Own.seg (Own.next oq bb)).drew
   have sb := (Own.seg (Own.next ob bb)).drew
   have capq := drawAny.Own.cap oq
   have capb := drawAny.Own.cap ob
   clear bb cV oq ob
   have cV := T.cell
   go_wp2_with fail
   go_region_held3 (fun w' => w'.cell? ⟨v, 0, none⟩ = some (.slice S sn sc))
    (first | assumption | go_keep)
    (first
     | (go_at_call 35; refine (implPlaceOf S O Q sn sc on oc bn qc sg xs pa _ T.s T.t sq (by omega) (by omega) (by omega)).mono ?_; rintro e w9 ⟨he, bb9⟩; rw [HPW.out] at he; subst he; have T9 := T.next bb9; have sq9 := sq.next bb9; have sb9 := sb.next bb9; have cV9 := T9.cell)
     | (go_at_call 32; refine (path_n (implPathOf S O sn sc on oc sg xs (dd : Int) pa2 _ T9.s T9.t (by omega) (by omega) HP2.out) HDL.out).mono ?_; rintro e w10 ⟨A10, c10, rfl, bb10⟩; have T10 := T9.next bb10; have sq10 := sq9.next bb10; have sb10 := sb9.next bb10; have cV10 := T10.cell)
     | (go_at_call 39; refine (specDepthOf S O sn sc on oc sg xs _ T10.s T10.t (by omega) (by omega)).mono ?_; rintro e w11 ⟨he, bb11⟩; rw [HD2.out] at he; subst he; have T11 := T10.next bb11; have sq11 := sq10.next bb11; have sb11 := sb10.next bb11; have cV11 := T11.cell))
   have S0 := hid (show Tp w v S sn sc sg O on xs w11 ∧ Seg w11 w11.heap.size Q bn pa ∧ Seg w11 w11.heap.size B bn ab from ⟨T11, sq11, sb11⟩)
   clear T T9 T10 T11 sq sq9 sq10 sq11 sb sb9 sb10 sb11 cV cV9 cV10 cV11 bb9 bb10 bb11
   go_wp2_with fail
   go_loopg [9] bn (fun g i wr => ∃ j : Nat, i = .int .i64 j ∧ j + g = bn ∧ Tp w v S sn sc sg O on xs wr ∧ Seg wr wr.heap.size Q bn pa ∧ Seg wr wr.heap.size B bn ab)
   case atStart => exact ⟨0, rfl, by omega, S0.out⟩
   case round =>
    obtain ⟨j, rfl, hj, T, sq, sb⟩ := hrel
    clear S0
    have HJ := hid hj
    clear hj
    by_cases hjn : j < bn
    ·obtain ⟨r, e1, e2, e3, e4⟩ := HPR.out j (by rw [HRN.out]; exact hjn)
     obtain ⟨k1, k2⟩ := HRI.out r e3 e4
     have K1 := hid k1
     have K2 := hid k2
     have E2 := hid (show placeI sg xs (pa.take j) = (r : Int) by unfold placeI; rw [if_pos HOK.out, e2])
     obtain ⟨bb, off, y, rfl, hbb, hy, ey⟩ := sb.spot hjn
     obtain rfl : (r : Int) = y := by rw [← e1, ey.out]
     obtain ⟨bq, offq, yq, rfl, hbq, -, -⟩ := sq.spot hjn
     have sf := (put.Seg.front sq (show j ≤ bn by omega)).drew
     have r60 : r ≤ 65 := by omega
     have j0 : (0 : Int) ≤ (j : Int) := by omega
     have j1 : (j : Int) ≤ (qc : Int) := by omega
     have j2 : (j : Int) < (bn : Int) := by omega
     have hgk := hid (show gk - 1 < gk ∧ j + 1 + (gk - 1) = bn by have := HJ.out; omega)
     replace T := T.drew
     replace sq := sq.drew
     replace sb := sb.drew
     have cV := T.cell
     have cy : wr.drew.cell? ⟨bb, off + j, none⟩ = some (.int .i64 (r : Int)) := hy
     clear k1 k2 e1 e2 e3 e4 ey hy
     go_wp2_with fail
     go_region_held3 (fun w' => w'.cell? ⟨v, 0, none⟩ = some (.slice S sn sc) ∧ w'.cell? ⟨bb, off + j, none⟩ = some (.int .i64 (r : Int)))
      (first | exact ⟨by assumption, by assumption⟩ | go_keep)
      (first
       | (go_at_call 35; refine (implPlaceOf S O _ sn sc on oc j qc sg xs (pa.take j) _ T.s T.t sf (by omega) (by omega) (by omega)).mono ?_; rintro e w12 ⟨he, b12⟩; rw [E2.out] at he; subst he; have T12 := T.next b12; have sq12 := sq.next b12; have sb12 := sb.next b12; have cV12 := T12.cell; have cy12 : w12.cell? ⟨bb, off + j, none⟩ = some (.int .i64 (r : Int)) := (b12.cell (p := ⟨bb, off + j, none⟩) hbb).trans cy)
       | (go_at_call 40; have X := implInsideIn S O sn sc on oc sg xs (r : Int) (a : Int) _ T12.s T12.t (by omega) (by omega) (by omega) (by omega); (with_reducible refine X.mono ?_); clear X; rintro e w13 ⟨he, b13⟩; rw [K1.out] at he; subst he; have T13 := T12.next b13; have sq13 := sq12.next b13; have sb13 := sb12.next b13; have cV13 := T13.cell; have hbb13 : bb < w12.heap.size := Nat.lt_of_lt_of_le hbb b12.size; have cy13 : w13.cell? ⟨bb, off + j, none⟩ = some (.int .i64 (r : Int)) := (b13.cell (p := ⟨bb, off + j, none⟩) hbb13).trans cy12)
       | (go_at_call 40; have X := implInsideIn S O sn sc on oc sg xs (a : Int) (r : Int) _ T13.s T13.t (by omega) (by omega) (by omega) (by omega); (with_reducible refine X.mono ?_); clear X; rintro e w14 ⟨he, b14⟩; rw [K2.out] at he; subst he; have T14 := T13.next b14; have sq14 := sq13.next b14; have sb14 := sb13.next b14; have cV14 := T14.cell; have hbb14 : bb < w13.heap.size := Nat.lt_of_lt_of_le hbb13 b13.size; have cy14 : w14.cell? ⟨bb, off + j, none⟩ = some (.int .i64 (r : Int)) := (b14.cell (p := ⟨bb, off + j, none⟩) hbb14).trans cy13))
     all_goals
      have SS := hid (show Tp w v S sn sc sg O on xs w14 ∧ Seg w14 w14.heap.size (some ⟨bq, offq, none⟩) bn pa ∧ Seg w14 w14.heap.size (some ⟨bb, off, none⟩) bn ab from ⟨T14, sq14, sb14⟩)
      clear T T12 T13 T14 sq sq12 sq13 sq14 sb sb12 sb13 sb14 cV cV12 cV13 cV14 cy cy12 cy13 cy14 b12 b13 b14 sf
      go_wp2
      go_roundg (gk - 1)
      case measure => exact hgk.out.1
      case rel => exact ⟨j + 1, by simp, hgk.out.2, SS.out⟩
    ·have cV := T.cell
     clear sq sb
     go_wp2_with fail
     refine (implInsideIn S O sn sc on oc sg xs (a : Int) (a : Int) _ T.s T.t (by omega) (by omega) (by omega) (by omega)).mono ?_
     rintro e w15 ⟨he, bb⟩
     rw [HIN.out] at he
     subst he
     have F := hid (T.next bb).bel
     clear T bb cV
     go_wp2
     go_ret
     exact ⟨rfl, F.out⟩
 ·have LB := hid (bigAns A n c true w (by simp; omega) hN)
  clear h
  go_enter Try.func6, Try.ntmps6
  go_wp2_with fail
  refine LB.out.mono ?_
  rintro e w' ⟨rfl, rfl⟩
  clear LB
  go_wp2
  go_ret
  exact ⟨rfl, Below.refl _ _⟩
end wFnPaths
end
end Go.Proofs.Ytfclafbdbdmlhaa
