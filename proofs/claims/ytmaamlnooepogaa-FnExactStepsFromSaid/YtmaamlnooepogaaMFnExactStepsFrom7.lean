/-
  MERGED: my texts DrawTerm, DrawAny, DrawX, OwnL, StepSpecB, OpenX, one behind the other, as they are. By an AI agent.
-/
import Derived.Test.YtmaamlnooepogaaMFnExactStepsFrom6
import Derived.Deep.RegionHeld3
import Derived.Deep.AppendLies
import Derived.ProofKit
import Derived.OpenShut
import Derived.Lib.SmallJoins
import Derived.Deep.Slices
import Derived.Deep.Fields
section
/-
  CONTRACT: spec.l1DrawTerm draws a list of numbers. Conditions: a drawing cursor ('Dice'), arities from 0 to 3. By an AI agent.
-/
namespace Go.Proofs.Ytmaamlnooepogaa.drawTerm
open Go.RowKit Go.Proofs.Ytmaamlnooepogaa.base Go.Proofs.Ytmaamlnooepogaa.ints Go.Proofs.Ytmaamlnooepogaa.sig Go.Proofs.Ytmaamlnooepogaa.term Go.Proofs.Ytmaamlnooepogaa.cursor Go.Proofs.Ytmaamlnooepogaa.marks Go.Proofs.Ytmaamlnooepogaa.app Go.Proofs.Ytmaamlnooepogaa.sym Go.Proofs.Ytmaamlnooepogaa.dice Go.Proofs.Ytmaamlnooepogaa.drawSig
set_option maxRecDepth 100000

/-- the slice value '.slice A n c' reads as xs, in a block below B that is not p -/
def Rd (w : World) (p B : Nat) (A : Option Addr) (n : Nat) (xs : List Int) : Prop :=
  xs.length = n ∧ (0 < n → ∃ b off, A = some ⟨b, off, none⟩ ∧ b < B ∧ b ≠ p ∧ ∀ j, j < n → w.cell? ⟨b, off + j, none⟩ = some (.int .i64 (xs.getD j 0)))
theorem Rd.more {w : World} {p B B' : Nat} {A : Option Addr} {n : Nat} {xs : List Int} (h : Rd w p B A n xs) (hB : B ≤ B') : Rd w p B' A n xs :=
  ⟨h.1, fun hn => by obtain ⟨b, off, e, hb, hne, hc⟩ := h.2 hn; exact ⟨b, off, e, by omega, hne, hc⟩⟩
theorem Rd.keep {w w' : World} {p B : Nat} {A : Option Addr} {n : Nat} {xs : List Int} (h : Rd w p B A n xs) (hk : ∀ q : Addr, q.block < B → q.block ≠ p → w'.cell? q = w.cell? q) : Rd w' p B A n xs :=
  ⟨h.1, fun hn => by obtain ⟨b, off, e, hb, hne, hc⟩ := h.2 hn; exact ⟨b, off, e, hb, hne, fun j hj => (hk ⟨b, off + j, none⟩ hb hne).trans (hc j hj)⟩⟩
theorem Rd.grown {w w' : World} {p B : Nat} {A : Option Addr} {n : Nat} {xs : List Int} (h : Rd w p B A n xs) (hg : w.grownBy w' (some p)) (hB : B ≤ w.heap.size) : Rd w' p B A n xs :=
  h.keep fun q hq hne => World.cell?_of_block (hg.block q.block (by omega) (fun e => hne (by injection e)))
theorem Rd.below {w w' : World} {p B B' : Nat} {A : Option Addr} {n : Nat} {xs : List Int} (h : Rd w p B A n xs) (hb : Below B' w w') (hB : B ≤ B') : Rd w' p B A n xs :=
  h.keep fun q hq _ => hb.cell (by omega)
theorem Rd.seg {w : World} {p B : Nat} {A : Option Addr} {n : Nat} {xs : List Int} (h : Rd w p B A n xs) : Seg w B A n xs :=
  ⟨h.1, fun hn => by obtain ⟨b, off, e, hb, _, hc⟩ := h.2 hn; exact ⟨b, off, e, hb, hc⟩⟩
theorem Rd.of_own {w : World} {p base : Nat} {A : Option Addr} {n c : Nat} {xs : List Int} (h : Own w base (.slice A n c) xs) (hp : p < base) : Rd w p w.heap.size A n xs := by
  have hs := Own.seg h
  refine ⟨hs.1, fun hn => ?_⟩
  obtain ⟨b, off, e, hb, hc⟩ := hs.2 hn
  subst e
  exact ⟨b, off, rfl, hb, by have := Own.ge h b rfl; omega, hc⟩
theorem Own.none_cap {w : World} {base : Nat} {A : Option Addr} {n c : Nat} {xs : List Int} (h : Own w base (.slice A n c) xs) : A = none → c = 0 := by
  rintro rfl
  rcases h.form with ⟨e, _⟩ | ⟨g, c', cur, e, _⟩
  · injection e
  · injection e with e _ _; cases e

/-- what is known in the course of a draw -/
structure DT (w : World) (p : Nat) (A : Option Addr) (n c : Nat) (S : Option Addr) (sn sc : Nat) (sg : List Int) (wr : World) : Prop where
  d : Dice wr p A n c
  r : Row wr w.heap.size 26 #[.slice S sn sc]
  s : Rd wr p w.heap.size S sn sg
  g : w.grownBy wr (some p)
  hp : p < w.heap.size
section
variable {w : World} {p : Nat} {A : Option Addr} {n c : Nat} {S : Option Addr} {sn sc : Nat} {sg : List Int} {wr w' : World}
theorem DT.dice (t : DT w p A n c S sn sc sg wr) (d : Dice w' p A n c) (hg : wr.grownBy w' (some p)) : DT w p A n c S sn sc sg w' :=
  ⟨d, Row.away t.r hg (fun e => by injection e; have := t.hp; omega), t.s.grown hg t.g.size, grown_trans t.g hg, t.hp⟩
theorem DT.below (t : DT w p A n c S sn sc sg wr) (hb : Below (w.heap.size + 1) wr w') : DT w p A n c S sn sc sg w' :=
  ⟨t.d.keep (hb.mono (by have := t.hp; omega)), t.r.below hb (Nat.lt_succ_self _), t.s.below hb (Nat.le_succ _), ⟨hb.os.trans t.g.os, hb.tape.trans t.g.tape, hb.output.trans t.g.output, Nat.le_trans t.g.size hb.size, fun k hk hne => (hb.block k (by omega)).trans (t.g.block k hk hne)⟩, t.hp⟩
theorem DT.drew (t : DT w p A n c S sn sc sg wr) : DT w p A n c S sn sc sg wr.drew := ⟨t.d.drewN 1, t.r.drew, t.s, grown_drewN t.g 1, t.hp⟩
theorem DT.start (hd : Dice w p A n c) (hs : Rd w p w.heap.size S sn sg) : DT w p A n c S sn sc sg (w.alloc (.cells #[.slice S sn sc] 26)) :=
  ⟨hd.alloc _, Row.new _ _ _, hs.below ((Below.refl _ _).alloc (Nat.le_refl _) _) (Nat.le_refl _), World.grownBy_alloc _ _ _, hd.lt⟩
end

/-- a drawn list of at least one and at most L numbers -/
def AnsT (w : World) (p : Nat) (A : Option Addr) (n c L : Nat) (e : Ending) (w' : World) : Prop :=
  ∃ O on oc xs, e = .returned (.slice O on oc) ∧ Own w' w.heap.size (.slice O on oc) xs ∧ 1 ≤ on ∧ on ≤ L ∧ Dice w' p A n c ∧ w.grownBy w' (some p)
theorem leaf {w : World} {p : Nat} {A : Option Addr} {n c L : Nat} {S : Option Addr} {sn sc : Nat} {sg : List Int} {u : World} (t : DT w p A n c S sn sc sg u) (hL : 1 ≤ L) (y : Int) :
    AnsT w p A n c L (.returned (.slice (some ⟨u.heap.size, 0, none⟩) 1 1)) (u.alloc (.cells #[.int .i64 y] 2)) :=
  ⟨_, _, _, [y], rfl, Own.of_row (Row.new _ _ _) rfl rfl (Nat.le_refl _) (by omega) t.g.size (fun j hj => by match j, hj with | 0, _ => rfl), Nat.le_refl _, hL, t.d.alloc _, grown_trans t.g (World.grownBy_alloc _ _ _)⟩
def HeadT (w : World) (p : Nat) (A : Option Addr) (n c : Nat) (S : Option Addr) (sn sc : Nat) (sg : List Int) (M : Nat) (out k : Value) (wr : World) : Prop :=
  ∃ (q : Nat) (O : Option Addr) (on oc : Nat) (xs : List Int), k = .int .i64 q ∧ q ≤ 3 ∧ out = .slice O on oc ∧ Own wr (w.heap.size + 1) (.slice O on oc) xs ∧ 1 ≤ on ∧ on + q * M ≤ 1 + 3 * M ∧ DT w p A n c S sn sc sg wr

theorem one_le_four (f : Nat) : 1 ≤ 4 ^ f := Nat.one_le_pow _ _ (by omega)

set_option maxHeartbeats 4000000 in
theorem drawTerm (p : Nat) (A : Option Addr) (n c : Nat) (S : Option Addr) (sn sc : Nat) (sg : List Int) (vars : Int) (hs : Arities sg) (hn1 : 1 ≤ sn) (hn2 : sn ≤ 256) (hv0 : 1 ≤ vars) (hv1 : vars ≤ 256) : ∀ (f0 : Nat) (depth : Int) (w : World),
    Dice w p A n c → Rd w p w.heap.size S sn sg → f0 ≤ 4 → -1000 ≤ depth → depth ≤ (f0 : Int) + 1 →
    Calls Try.prog 123 #[.pointer (some ⟨p, 0, none⟩), .agg #[.slice S sn sc], .int .i64 depth, .int .i64 vars] w (AnsT w p A n c (4 ^ f0)) := by
  intro f0
  induction f0 with
  | zero =>
    intro depth w hd hr hf hlo hdep
    obtain ⟨LL, hLe⟩ : ∃ LL, 4 ^ 0 = LL := ⟨_, rfl⟩
    have hLL : 1 ≤ LL := by rw [← hLe]; exact one_le_four 0
    rw [hLe]
    clear hLe
    have T0 := DT.start (sc := sc) hd hr
    have hz : depth ≤ 1 := by omega
    obtain ⟨W, hW⟩ : ∃ W, W = w.alloc (.cells #[.slice S sn sc] 26) := ⟨_, rfl⟩
    rw [← hW] at T0
    have HW := Lib.hid hW
    clear hd hr hW
    go_enter Try.func123, Try.ntmps123
    go_wp2_with fail
    rw [← HW.out]
    have cS : W.cell? ⟨w.heap.size, 0, none⟩ = some (.slice S sn sc) := T0.r.cell 0
    go_wp2_with fail
    refine (once p A n c 2 _ T0.d (by omega) (by omega)).mono ?_
    rintro e u1 ⟨b, rfl, d1, g1⟩
    have T1 := T0.dice d1 g1
    clear d1 g1 cS T0
    cases b with
    | true =>
      go_wp2_with fail
      refine (below p A n c vars _ T1.d hv0 hv1).mono ?_
      rintro e u2 ⟨x, rfl, x0, x1, d2, g2⟩
      have F := Lib.hid (leaf (T1.dice d2 g2) hLL (-1 - x))
      clear T1 d2 g2
      go_wp2
      go_ret
      exact F.out
    | false =>
      have cS1 : u1.cell? ⟨w.heap.size, 0, none⟩ = some (.slice S sn sc) := T1.r.cell 0
      go_wp2_with fail
      go_loop [9] (fun i => ∃ k : Nat, k ≤ sn ∧ i = .int .i64 ((k : Int) - 1)) (fun i => (intOf i + 1).toNat)
      case atStart => exact ⟨sn, Nat.le_refl _, rfl⟩
      case round =>
        obtain ⟨k, hk, rfl⟩ := hrel
        by_cases hk0 : k = 0
        · subst hk0
          have F := Lib.hid (leaf T1 hLL (-1))
          clear T1
          go_wp2
          go_ret
          exact F.out
        · obtain ⟨k1, rfl⟩ : ∃ k1, k = k1 + 1 := ⟨k - 1, by omega⟩
          obtain ⟨b, off, y, rfl, hb, hy, ey⟩ := T1.s.seg.spot (show k1 < sn by omega)
          by_cases hy0 : y = 0
          · subst hy0
            have F := Lib.hid (leaf T1 hLL (k1 : Int))
            clear T1 ey
            go_wp2
            go_ret
            exact F.out
          · have e2 : (y == 0) = false := by simp [hy0]
            clear T1 ey
            go_wp2
            go_round
            case rel => exact ⟨k1, by omega, congrArg (Value.int .i64) (by omega)⟩
            case measure => first | (simp [intOf]; done) | (simp [intOf]; omega)
  | succ f ih =>
    intro depth w hd hr hf hlo hdep
    have IH := Lib.hid ih
    clear ih
    obtain ⟨M, hM⟩ : ∃ M, 4 ^ f = M := ⟨_, rfl⟩
    have hM1 : 1 ≤ M := by rw [← hM]; exact one_le_four f
    have hM2 : M ≤ 64 := by rw [← hM]; exact Nat.pow_le_pow_right (n := 4) (by omega) (show f ≤ 3 by omega)
    obtain ⟨LL, hLe⟩ : ∃ LL, 4 ^ (f + 1) = LL := ⟨_, rfl⟩
    have hLM : LL = 4 * M := by rw [← hLe, ← hM, Nat.pow_succ, Nat.mul_comm]
    have hLL : 1 ≤ LL := by omega
    rw [hLe]
    rw [hM] at IH
    clear hLe hM
    have HLM := Lib.hid hLM
    clear hLM
    have T0 := DT.start (sc := sc) hd hr
    obtain ⟨W, hW⟩ : ∃ W, W = w.alloc (.cells #[.slice S sn sc] 26) := ⟨_, rfl⟩
    rw [← hW] at T0
    have HW := Lib.hid hW
    clear hd hr hW
    by_cases hz : depth ≤ 1
    · go_enter Try.func123, Try.ntmps123
      go_wp2_with fail
      rw [← HW.out]
      have cS : W.cell? ⟨w.heap.size, 0, none⟩ = some (.slice S sn sc) := T0.r.cell 0
      go_wp2_with fail
      refine (once p A n c 2 _ T0.d (by omega) (by omega)).mono ?_
      rintro e u1 ⟨b, rfl, d1, g1⟩
      have T1 := T0.dice d1 g1
      clear d1 g1 cS T0
      cases b with
      | true =>
        go_wp2_with fail
        refine (below p A n c vars _ T1.d hv0 hv1).mono ?_
        rintro e u2 ⟨x, rfl, x0, x1, d2, g2⟩
        have F := Lib.hid (leaf (T1.dice d2 g2) hLL (-1 - x))
        clear T1 d2 g2
        go_wp2
        go_ret
        exact F.out
      | false =>
        have cS1 : u1.cell? ⟨w.heap.size, 0, none⟩ = some (.slice S sn sc) := T1.r.cell 0
        go_wp2_with fail
        go_loop [9] (fun i => ∃ k : Nat, k ≤ sn ∧ i = .int .i64 ((k : Int) - 1)) (fun i => (intOf i + 1).toNat)
        case atStart => exact ⟨sn, Nat.le_refl _, rfl⟩
        case round =>
          obtain ⟨k, hk, rfl⟩ := hrel
          by_cases hk0 : k = 0
          · subst hk0
            have F := Lib.hid (leaf T1 hLL (-1))
            clear T1
            go_wp2
            go_ret
            exact F.out
          · obtain ⟨k1, rfl⟩ : ∃ k1, k = k1 + 1 := ⟨k - 1, by omega⟩
            obtain ⟨b, off, y, rfl, hb, hy, ey⟩ := T1.s.seg.spot (show k1 < sn by omega)
            by_cases hy0 : y = 0
            · subst hy0
              have F := Lib.hid (leaf T1 hLL (k1 : Int))
              clear T1 ey
              go_wp2
              go_ret
              exact F.out
            · have e2 : (y == 0) = false := by simp [hy0]
              clear T1 ey
              go_wp2
              go_round
              case rel => exact ⟨k1, by omega, congrArg (Value.int .i64) (by omega)⟩
              case measure => first | (simp [intOf]; done) | (simp [intOf]; omega)
    · have hz1 : (1 : Int) < depth := by omega
      go_enter Try.func123, Try.ntmps123
      go_wp2_with fail
      rw [← HW.out]
      refine (once p A n c 4 _ T0.d (by omega) (by omega)).mono ?_
      rintro e u0 ⟨b, rfl, d0, g0⟩
      have T2 := T0.dice d0 g0
      clear d0 g0 T0
      cases b with
      | true =>
        have cS : u0.cell? ⟨w.heap.size, 0, none⟩ = some (.slice S sn sc) := T2.r.cell 0
        go_wp2_with fail
        refine (once p A n c 2 _ T2.d (by omega) (by omega)).mono ?_
        rintro e u1 ⟨b, rfl, d1, g1⟩
        have T1 := T2.dice d1 g1
        clear d1 g1 cS T2
        cases b with
        | true =>
          go_wp2_with fail
          refine (below p A n c vars _ T1.d hv0 hv1).mono ?_
          rintro e u2 ⟨x, rfl, x0, x1, d2, g2⟩
          have F := Lib.hid (leaf (T1.dice d2 g2) hLL (-1 - x))
          clear T1 d2 g2
          go_wp2
          go_ret
          exact F.out
        | false =>
          have cS1 : u1.cell? ⟨w.heap.size, 0, none⟩ = some (.slice S sn sc) := T1.r.cell 0
          go_wp2_with fail
          go_loop [9] (fun i => ∃ k : Nat, k ≤ sn ∧ i = .int .i64 ((k : Int) - 1)) (fun i => (intOf i + 1).toNat)
          case atStart => exact ⟨sn, Nat.le_refl _, rfl⟩
          case round =>
            obtain ⟨k, hk, rfl⟩ := hrel
            by_cases hk0 : k = 0
            · subst hk0
              have F := Lib.hid (leaf T1 hLL (-1))
              clear T1
              go_wp2
              go_ret
              exact F.out
            · obtain ⟨k1, rfl⟩ : ∃ k1, k = k1 + 1 := ⟨k - 1, by omega⟩
              obtain ⟨b, off, y, rfl, hb, hy, ey⟩ := T1.s.seg.spot (show k1 < sn by omega)
              by_cases hy0 : y = 0
              · subst hy0
                have F := Lib.hid (leaf T1 hLL (k1 : Int))
                clear T1 ey
                go_wp2
                go_ret
                exact F.out
              · have e2 : (y == 0) = false := by simp [hy0]
                clear T1 ey
                go_wp2
                go_round
                case rel => exact ⟨k1, by omega, congrArg (Value.int .i64) (by omega)⟩
                case measure => first | (simp [intOf]; done) | (simp [intOf]; omega)
      | false =>
        have cS : u0.cell? ⟨w.heap.size, 0, none⟩ = some (.slice S sn sc) := T2.r.cell 0
        go_wp2_with fail
        refine (below p A n c (sn : Int) _ T2.d (by omega) (by omega)).mono ?_
        rintro e u1 ⟨x, rfl, x0, x1, d1, g1⟩
        obtain ⟨k, rfl⟩ := Int.eq_ofNat_of_zero_le x0
        have T3 := T2.dice d1 g1
        have hks : k < sn := by omega
        have hsl := T3.s.1
        obtain ⟨b, off, y, rfl, hb, hy, ey⟩ := T3.s.seg.spot hks
        have hyb := hs k (by omega)
        rw [ey.out] at hyb
        obtain ⟨q, rfl⟩ := Int.eq_ofNat_of_zero_le hyb.1
        have hq3 : q ≤ 3 := by omega
        have T4 : DT w p A n c (some ⟨b, off, none⟩) sn sc sg (u1.alloc (.cells #[.int .i64 (k : Int)] 2)) := T3.below ((Below.refl _ _).alloc (by have := T3.r.lt; omega) _)
        have O4 : Own (u1.alloc (.cells #[.int .i64 (k : Int)] 2)) (w.heap.size + 1) (.slice (some ⟨u1.heap.size, 0, none⟩) 1 1) [(k : Int)] :=
          Own.of_row (Row.new _ _ _) rfl rfl (Nat.le_refl _) (by omega) (by have := T3.r.lt; omega) (fun j hj => by match j, hj with | 0, _ => rfl)
        have H0 : HeadT w p A n c (some ⟨b, off, none⟩) sn sc sg M (.slice (some ⟨u1.heap.size, 0, none⟩) 1 1) (.int .i64 (q : Int)) (u1.alloc (.cells #[.int .i64 (k : Int)] 2)) :=
          ⟨q, _, _, _, _, rfl, hq3, rfl, O4, Nat.le_refl _, by have := Nat.mul_le_mul_right M hq3; omega, T4⟩
        have HH := Lib.hid H0
        have cS1 : u1.cell? ⟨w.heap.size, 0, none⟩ = some (.slice (some ⟨b, off, none⟩) sn sc) := T3.r.cell 0
        have zN : w.heap.size < u1.heap.size := T3.r.lt
        have zb : b < u1.heap.size := by omega
        have i1 : (k : Int) < (sn : Int) := by omega
        clear H0 T4 O4 T3 T2 d1 g1 cS ey hsl hyb
        go_wp2_with fail
        go_loopw [11, 12] (fun out kk wr => HeadT w p A n c (some ⟨b, off, none⟩) sn sc sg M out kk wr) (fun _ kk _ => (intOf kk).toNat)
        case atStart => exact HH.out
        case round =>
          obtain ⟨q, O, on, oc, xs, rfl, hq3, rfl, ho, ho1, hoM, T⟩ := hrel
          clear HH
          have cS : wr.cell? ⟨w.heap.size, 0, none⟩ = some (.slice (some ⟨b, off, none⟩) sn sc) := T.r.cell 0
          cases q with
          | zero =>
            have F : AnsT w p A n c LL (.returned (.slice O on oc)) wr := ⟨O, on, oc, xs, rfl, Own.lower ho (Nat.le_succ _), ho1, by have := HLM.out; omega, T.d, T.g⟩
            have HF := Lib.hid F
            clear F T ho
            go_wp2
            go_ret
            exact HF.out
          | succ q =>
            have e0 : (0 : Int) < ((q + 1 : Nat) : Int) := by omega
            have hoM' : on + q * M + M ≤ 1 + 3 * M := by have e : (q + 1) * M = q * M + M := Nat.succ_mul q M; omega
            have hon : on ≤ 193 := by have := Nat.zero_le (q * M); omega
            go_wp2_with fail
            refine (IH.out (depth - 1) wr T.d (T.s.more T.g.size) (by omega) (by omega) (by omega)).mono ?_
            rintro e u2 ⟨O2, on2, oc2, ys, rfl, o2, h1, h2, d2, g2⟩
            have T2 := T.dice d2 g2
            have ho2 := Own.far ho g2 (fun k hk => by injection hk; have := T.hp; omega)
            have z2 := T2.r.lt
            clear ho T d2 g2 cS
            go_wp2_with (at_builtin; refine appAll rfl _ _ rfl (w.heap.size + 1) O on oc xs rfl ho2 O2 on2 oc2 u2.heap.size ys rfl (Own.seg o2) (Own.none_cap o2) (by omega) (by omega) (by omega) ?_; intro O3 oc3 u3 ho3 b3)
            have F : HeadT w p A n c (some ⟨b, off, none⟩) sn sc sg M (.slice O3 (on + on2) oc3) (.int .i64 (q : Int)) u3 := ⟨q, O3, on + on2, oc3, _, rfl, by omega, rfl, ho3, by omega, by omega, T2.below b3⟩
            have HF := Lib.hid F
            clear F ho3 b3 T2 ho2 o2
            go_wp2
            go_roundw
            case rel => first | exact HF.out | simpa using HF.out
            case measure => simp [intOf]
end Go.Proofs.Ytmaamlnooepogaa.drawTerm
end

section
/-
  CONTRACT: spec.l1DrawAny draws a term, bent sometimes. Conditions: a drawing cursor ('Dice'). By an AI agent.
-/
namespace Go.Proofs.Ytmaamlnooepogaa.drawAny
open Go.RowKit Go.Proofs.Ytmaamlnooepogaa.base Go.Proofs.Ytmaamlnooepogaa.ints Go.Proofs.Ytmaamlnooepogaa.sig Go.Proofs.Ytmaamlnooepogaa.term Go.Proofs.Ytmaamlnooepogaa.cursor Go.Proofs.Ytmaamlnooepogaa.termOk Go.Proofs.Ytmaamlnooepogaa.marks Go.Proofs.Ytmaamlnooepogaa.app Go.Proofs.Ytmaamlnooepogaa.sym Go.Proofs.Ytmaamlnooepogaa.dice Go.Proofs.Ytmaamlnooepogaa.drawSig Go.Proofs.Ytmaamlnooepogaa.drawTerm
set_option maxRecDepth 100000

/-- a drawn list of at most L numbers -/
def AnsR (w : World) (p : Nat) (A : Option Addr) (n c L : Nat) (e : Ending) (w' : World) : Prop :=
  ∃ O on oc xs, e = .returned (.slice O on oc) ∧ Rd w' p w'.heap.size O on xs ∧ on ≤ oc ∧ oc ≤ 9223372036854775807 ∧ (O = none → oc = 0) ∧ on ≤ L ∧ Dice w' p A n c ∧ w.grownBy w' (some p)

theorem Own.cap {w : World} {base : Nat} {O : Option Addr} {on oc : Nat} {xs : List Int} (h : Own w base (.slice O on oc) xs) : on ≤ oc ∧ oc ≤ 9223372036854775807 := by
  rcases h.2 with ⟨e, _⟩ | ⟨g, cap, cur, e, _, _, h1, h2, _⟩
  · injection e with _ e1 e2; omega
  · injection e with _ e1 e2
    have := Own.len h
    unfold maxLen at h2
    omega
theorem ansR_own {w w' : World} {p : Nat} {A : Option Addr} {n c L : Nat} {O : Option Addr} {on oc base : Nat} {xs : List Int} (h : Own w' base (.slice O on oc) xs) (hp : p < base) (hL : on ≤ L) (d : Dice w' p A n c) (g : w.grownBy w' (some p)) : AnsR w p A n c L (.returned (.slice O on oc)) w' :=
  ⟨O, on, oc, xs, rfl, Rd.of_own h hp, (Own.cap h).1, (Own.cap h).2, Own.none_cap h, hL, d, g⟩
/-- the same, in a block of its own -/
def AnsRN (w : World) (p : Nat) (A : Option Addr) (n c L : Nat) (e : Ending) (w' : World) : Prop :=
  ∃ O on oc xs, e = .returned (.slice O on oc) ∧ Rd w' p w'.heap.size O on xs ∧ on ≤ oc ∧ oc ≤ 9223372036854775807 ∧ (O = none → oc = 0) ∧ on ≤ L ∧ Dice w' p A n c ∧ w.grownBy w' (some p) ∧ ∀ k, blk O = some k → w.heap.size ≤ k
theorem ansRN_own {w w' : World} {p : Nat} {A : Option Addr} {n c L : Nat} {O : Option Addr} {on oc base : Nat} {xs : List Int} (h : Own w' base (.slice O on oc) xs) (hp : p < base) (hb : w.heap.size ≤ base) (hL : on ≤ L) (d : Dice w' p A n c) (g : w.grownBy w' (some p)) : AnsRN w p A n c L (.returned (.slice O on oc)) w' :=
  ⟨O, on, oc, xs, rfl, Rd.of_own h hp, (Own.cap h).1, (Own.cap h).2, Own.none_cap h, hL, d, g, fun k hk => Nat.le_trans hb (Own.ge h k hk)⟩
theorem Own.some_ {w : World} {base : Nat} {O : Option Addr} {on oc : Nat} {xs : List Int} (h : Own w base (.slice O on oc) xs) (h1 : 1 ≤ on) : ∃ g, O = some ⟨g, 0, none⟩ := by
  rcases h.2 with ⟨e, _⟩ | ⟨g, cap, cur, e, _⟩
  · injection e with _ e1 e2; omega
  · injection e with e _ _; exact ⟨g, e⟩
theorem Own.cellAt {w : World} {base g on oc : Nat} {xs : List Int} (h : Own w base (.slice (some ⟨g, 0, none⟩) on oc) xs) {k : Nat} (hk : k < on) : ∃ u, w.cell? ⟨g, k, none⟩ = some u := by
  have hl := Own.len h
  subst hl
  have := World.ownsRow.cellAt h k (by omega)
  exact ⟨_, this.trans (List.getElem?_eq_getElem (by simpa using hk))⟩
theorem Own.frozenAt {w : World} {base g on oc : Nat} {xs : List Int} (h : Own w base (.slice (some ⟨g, 0, none⟩) on oc) xs) (k : Nat) : w.frozen? ⟨g, k, none⟩ = false := by
  have hl := Own.len h
  subst hl
  exact World.ownsRow.frozenAt h k
theorem Own.put {w : World} {base g on oc : Nat} {xs : List Int} (h : Own w base (.slice (some ⟨g, 0, none⟩) on oc) xs) (k : Nat) (y : Int) : Own (w.setCell ⟨g, k, none⟩ (.int .i64 y)) base (.slice (some ⟨g, 0, none⟩) on oc) (xs.set k y) := by
  have hl := Own.len h
  subst hl
  have := World.ownsRow.stored h k (.int .i64 y)
  unfold Own
  rw [List.length_set, List.map_set]
  exact this.1
/-- the rest of a slice -/
theorem Rd.tail {w : World} {p B b off n : Nat} {xs : List Int} (h : Rd w p B (some ⟨b, off, none⟩) n xs) (h1 : 1 ≤ n) : Rd w p B (some ⟨b, off + 1, none⟩) (n - 1) (xs.drop 1) := by
  refine ⟨by have := h.1; simp; omega, fun hn => ?_⟩
  obtain ⟨b', off', e, hb, hne, hc⟩ := h.2 (by omega)
  injection e with e
  injection e with e1 e2
  subst e1 e2
  refine ⟨_, _, rfl, hb, hne, fun j hj => ?_⟩
  rw [Nat.add_assoc, hc (1 + j) (by omega)]
  simp [List.getD, Nat.add_comm]
theorem Rd.none_ {w : World} {p B : Nat} {O : Option Addr} : Rd w p B O 0 [] := ⟨rfl, fun h => absurd h (by omega)⟩

set_option maxHeartbeats 4000000 in
theorem drawAnyN (p : Nat) (A : Option Addr) (n c : Nat) (S : Option Addr) (sn sc : Nat) (sg : List Int) (w : World) (hd : Dice w p A n c) (hr : Rd w p w.heap.size S sn sg) (hsn : sn ≤ 1048576) :
    Calls Try.prog 120 #[.pointer (some ⟨p, 0, none⟩), .agg #[.slice S sn sc]] w (AnsRN w p A n c 65) := by
  have T0 := DT.start (sc := sc) hd hr
  obtain ⟨W, hW⟩ : ∃ W, W = w.alloc (.cells #[.slice S sn sc] 26) := ⟨_, rfl⟩
  rw [← hW] at T0
  have HW := Lib.hid hW
  clear hd hr hW
  have hN := T0.hp
  by_cases hs0 : sn = 0
  · subst hs0
    go_enter Try.func120, Try.ntmps120
    go_wp2_with fail
    rw [← HW.out]
    refine (fromTo p A n c (-2) 2 _ T0.d (by omega) (by omega) (by omega) (by omega)).mono ?_
    rintro e u1 ⟨x, rfl, x0, x1, d1, g1⟩
    obtain ⟨O, on, oc, xs, he, o1, h1, h2, d2, g2⟩ := leaf (L := 1) (T0.dice d1 g1) (Nat.le_refl _) x
    have F : AnsRN w p A n c 65 _ _ := ansRN_own o1 hN (Nat.le_refl _) (by omega) d2 g2
    rw [← he] at F
    have HF := Lib.hid F
    clear F he o1 d2 g2 T0 d1 g1
    go_wp2
    go_ret
    exact HF.out
  · have e0 : ((sn : Int) == 0) = false := by simp; omega
    have L := Lib.hid (specSigOk S sn sc sg W (T0.s.seg.more T0.g.size) hsn)
    cases hok : sigOkB sg with
    | false =>
      have HS := Lib.hid hok
      clear hok
      go_enter Try.func120, Try.ntmps120
      go_wp2_with fail
      rw [← HW.out]
      refine L.out.mono ?_
      rintro e u0 ⟨he, bb⟩
      rw [HS.out] at he
      subst he
      have T1 := T0.below (bb.mono (by have := T0.r.lt; omega))
      clear T0 bb L
      go_wp2_with fail
      refine (fromTo p A n c (-2) 2 _ T1.d (by omega) (by omega) (by omega) (by omega)).mono ?_
      rintro e u1 ⟨x, rfl, x0, x1, d1, g1⟩
      obtain ⟨O, on, oc, xs, he, o1, h1, h2, d2, g2⟩ := leaf (L := 1) (T1.dice d1 g1) (Nat.le_refl _) x
      have F : AnsRN w p A n c 65 _ _ := ansRN_own o1 hN (Nat.le_refl _) (by omega) d2 g2
      rw [← he] at F
      have HF := Lib.hid F
      clear F he o1 d2 g2 T1 d1 g1
      go_wp2
      go_ret
      exact HF.out
    | true =>
      have HS := Lib.hid hok
      have hars := (sig_arities hok).1
      have hl8 := (sig_arities hok).2.2
      have hsl := T0.s.1
      have hs8 : sn ≤ 8 := by omega
      clear hok hsl hl8
      go_enter Try.func120, Try.ntmps120
      go_wp2_with fail
      rw [← HW.out]
      refine L.out.mono ?_
      rintro e u0 ⟨he, bb⟩
      rw [HS.out] at he
      subst he
      have T1 := (T0.below (bb.mono (by have := T0.r.lt; omega))).drew
      have cS : u0.cell? ⟨w.heap.size, 0, none⟩ = some (.slice S sn sc) := T1.r.cell 0
      clear T0 bb L
      go_wp2_with fail
      go_region_held3 (fun w' => w'.cell? ⟨w.heap.size, 0, none⟩ = some (.slice S sn sc))
        (go_keep)
        (first
          | (go_at_call 119; refine (below p A n c 4 _ T1.d (by omega) (by omega)).mono ?_; rintro e u1 ⟨x, rfl, x0, x1, d1, g1⟩; have T2 := T1.dice d1 g1; have cS2 : u1.cell? ⟨w.heap.size, 0, none⟩ = some (.slice S sn sc) := T2.r.cell 0; have hw : IntKind.i64.wrap (1 + x) = 1 + x := by rw [IntKind.wrap_i64]; omega)
          | (go_at_call 123; refine (drawTerm p A n c S sn sc sg 3 hars (by omega) (by omega) (by omega) (by omega) 3 (1 + x) u1 T2.d (T2.s.more T2.g.size) (by omega) (by clear hw; omega) (by clear hw; omega)).mono ?_; rintro e u2 ⟨O, on, oc, xs, rfl, o2, h1, h2, d2, g2⟩; have T3 := T2.dice d2 g2; have cS3 : u2.cell? ⟨w.heap.size, 0, none⟩ = some (.slice S sn sc) := T3.r.cell 0))
      have o3 : Own u2 (w.heap.size + 1) (.slice O on oc) xs := Own.lower o2 (by have := T2.r.lt; omega)
      obtain ⟨gg, rfl⟩ := Own.some_ o3 h1
      have hgg : w.heap.size + 1 ≤ gg := Own.ge o3 gg rfl
      have hL : on ≤ 64 := h2
      clear hw o2 T2 T1 d1 g1 d2 g2 cS cS2 cS3 h2 x0 x1
      have hp1 : p < w.heap.size + 1 := by omega
      go_wp2_with fail
      refine (once p A n c 12 _ T3.d (by omega) (by omega)).mono ?_
      rintro e u3 ⟨b, rfl, d1, g1⟩
      have T4 := T3.dice d1 g1
      have o4 := Own.far o3 g1 (fun k hk => by injection hk; omega)
      clear T3 o3 d1 g1
      cases b with
      | false =>
        have F : AnsRN w p A n c 65 (.returned (.slice (some ⟨gg, 0, none⟩) on oc)) u3 := ansRN_own o4 hp1 (by omega) (by omega) T4.d T4.g
        have HF := Lib.hid F
        clear F T4 o4
        go_wp2
        go_ret
        exact HF.out
      | true =>
        go_wp2_with fail
        refine (below p A n c 4 _ T4.d (by omega) (by omega)).mono ?_
        rintro e u4 ⟨x, rfl, x0, x1, d1, g1⟩
        have T5 := T4.dice d1 g1
        have o5 := Own.far o4 g1 (fun k hk => by injection hk; omega)
        clear T4 o4 d1 g1
        by_cases hx0 : x = 0
        · subst hx0
          go_wp2_with fail
          refine (fromTo p A n c (-2) 3 _ T5.d (by omega) (by omega) (by omega) (by omega)).mono ?_
          rintro e u5 ⟨y, rfl, y0, y1, d1, g1⟩
          have T6 := T5.dice d1 g1
          have o6 := Own.far o5 g1 (fun k hk => by injection hk; omega)
          have z6 := T6.r.lt
          clear T5 o5 d1 g1 x0 x1
          go_wp2_with (at_builtin; refine app1 rfl _ _ rfl (w.heap.size + 1) (some ⟨gg, 0, none⟩) on oc xs rfl (Own.alloc o6 _) u5.heap.size 1 y rfl ((Row.new _ _ _).cell 0) (by omega) (by simp; omega) ?_; intro O' oc' u6 o7 b7)
          have T7 := (T6.below ((Below.refl _ _).alloc (by omega) (.cells #[.int .i64 y] 2))).below b7
          have F : AnsRN w p A n c 65 (.returned (.slice O' (on + 1) oc')) u6 := ansRN_own o7 hp1 (by omega) (by omega) T7.d T7.g
          have HF := Lib.hid F
          clear F T7 T6 o6 o7 b7
          go_wp2
          go_ret
          exact HF.out
        · by_cases hx1 : x = 1
          · subst hx1
            go_wp2_with fail
            refine (below p A n c (on : Int) _ T5.d (by omega) (by omega)).mono ?_
            rintro e u5 ⟨y, rfl, y0, y1, d1, g1⟩
            obtain ⟨k, rfl⟩ := Int.eq_ofNat_of_zero_le y0
            have T6 := T5.dice d1 g1
            have o6 := Own.far o5 g1 (fun k hk => by injection hk; omega)
            clear T5 o5 d1 g1 x0 x1 hx0
            go_wp2_with fail
            refine (fromTo p A n c (-3) 4 _ T6.d (by omega) (by omega) (by omega) (by omega)).mono ?_
            rintro e u6 ⟨z, rfl, z0, z1, d1, g1⟩
            have T7 := T6.dice d1 g1
            have o7 := Own.far o6 g1 (fun k hk => by injection hk; omega)
            have hk : k < on := by omega
            have i1 : (k : Int) < (on : Int) := by omega
            obtain ⟨u, hu⟩ := Own.cellAt o7 hk
            have hf := Own.frozenAt o7 k
            have o8 := Own.put o7 k z
            have T8 := T7.below ((Below.refl (w.heap.size + 1) u6).setCell (p := ⟨gg, k, none⟩) hgg (.int .i64 z))
            have F : AnsRN w p A n c 65 (.returned (.slice (some ⟨gg, 0, none⟩) on oc)) (u6.setCell ⟨gg, k, none⟩ (.int .i64 z)) := ansRN_own o8 hp1 (by omega) (by omega) T8.d T8.g
            have HF := Lib.hid F
            clear F T8 T7 T6 o8 o7 o6 d1 g1
            go_wp2
            go_ret
            exact HF.out
          · by_cases hx2 : x = 2
            · subst hx2
              have hcap := Own.cap o5
              have hrd := Rd.of_own o5 hp1
              by_cases hc1 : oc = 1
              · subst hc1
                have e1 : on = 1 := by omega
                subst e1
                have F : AnsRN w p A n c 65 (.returned (.slice (some ⟨gg, 0, none⟩) 0 0)) u4 := ⟨_, 0, 0, [], rfl, Rd.none_, Nat.le_refl _, by omega, fun e => rfl, by omega, T5.d, T5.g, fun k hk => by (injection hk with e); have e2 : gg = k := e; omega⟩
                have HF := Lib.hid F
                clear F T5 o5 hrd x0 x1 hx0 hx1
                go_wp2
                go_ret
                exact HF.out
              · have F : AnsRN w p A n c 65 (.returned (.slice (some ⟨gg, 0 + 1, none⟩) (on - 1) (oc - 1))) u4 := ⟨_, _, _, _, rfl, Rd.tail hrd h1, by omega, by omega, (fun e => by cases e), by omega, T5.d, T5.g, fun k hk => by (injection hk with e); have e2 : gg = k := e; omega⟩
                have HF := Lib.hid F
                have hc2 : ¬ oc = 1 := hc1
                have i1 : (1 : Int) ≤ (on : Int) := by omega
                have i2 : (1 : Int) ≤ (oc : Int) := by omega
                have i3 : (on : Int) ≤ (oc : Int) := by omega
                have i4 : 1 ≤ on := h1
                have i5 : on ≤ oc := hcap.1
                clear F T5 o5 hrd x0 x1 hx0 hx1 hc1 hcap
                go_wp2
                go_ret
                exact HF.out
            · have e3 : x = 3 := by omega
              subst e3
              clear x0 x1 hx0 hx1 hx2
              go_wp2_with fail
              refine (odd p A n c _ T5.d).mono ?_
              rintro e u5 ⟨y, rfl, d1, g1⟩
              have T6 := T5.dice d1 g1
              have o6 := Own.far o5 g1 (fun k hk => by injection hk; omega)
              have z6 := T6.r.lt
              clear T5 o5 d1 g1
              go_wp2_with (at_builtin; refine app1 rfl _ _ rfl (w.heap.size + 1) (some ⟨gg, 0, none⟩) on oc xs rfl (Own.alloc o6 _) u5.heap.size 1 y rfl ((Row.new _ _ _).cell 0) (by omega) (by simp; omega) ?_; intro O' oc' u6 o7 b7)
              have T7 := (T6.below ((Below.refl _ _).alloc (by omega) (.cells #[.int .i64 y] 2))).below b7
              have F : AnsRN w p A n c 65 (.returned (.slice O' (on + 1) oc')) u6 := ansRN_own o7 hp1 (by omega) (by omega) T7.d T7.g
              have HF := Lib.hid F
              clear F T7 T6 o6 o7 b7
              go_wp2
              go_ret
              exact HF.out

theorem drawAny (p : Nat) (A : Option Addr) (n c : Nat) (S : Option Addr) (sn sc : Nat) (sg : List Int) (w : World) (hd : Dice w p A n c) (hr : Rd w p w.heap.size S sn sg) (hsn : sn ≤ 1048576) :
    Calls Try.prog 120 #[.pointer (some ⟨p, 0, none⟩), .agg #[.slice S sn sc]] w (AnsR w p A n c 65) :=
  (drawAnyN p A n c S sn sc sg w hd hr hsn).mono fun _ _ ⟨O, on, oc, xs, h1, h2, h3, h4, h5, h6, h7, h8, _⟩ => ⟨O, on, oc, xs, h1, h2, h3, h4, h5, h6, h7, h8⟩
end Go.Proofs.Ytmaamlnooepogaa.drawAny
end

section
/-
  WORDS FOR DRAWS OVER SHAPES: what reads as data in blocks of a kind ('RdQ'); a slice whose row is the call's own and whose elements may be read ('OwnQ'), append of one element to it. Conditions: none; plain lemmas. By an AI agent.
-/
namespace Go.Proofs.Ytmaamlnooepogaa.drawX
open Go.RowKit Go.Proofs.Ytmaamlnooepogaa.base Go.Proofs.Ytmaamlnooepogaa.ints Go.Proofs.Ytmaamlnooepogaa.sig Go.Proofs.Ytmaamlnooepogaa.cursor Go.Proofs.Ytmaamlnooepogaa.marks Go.Proofs.Ytmaamlnooepogaa.app Go.Proofs.Ytmaamlnooepogaa.appAt Go.Proofs.Ytmaamlnooepogaa.sym Go.Proofs.Ytmaamlnooepogaa.segs Go.Proofs.Ytmaamlnooepogaa.shape Go.Proofs.Ytmaamlnooepogaa.dice

/-- the cells cs read as d; all blocks are of kind Q -/
def RdQ (w : World) (Q : Nat → Prop) : (s : Sh) → List Value → Dat s → Prop
  | .num, cs, (x : Int) => cs = [.int .i64 x]
  | .bit, cs, (x : Bool) => cs = [.bool x]
  | .row _ s, cs, (d : List (Dat s)) => ∃ A n c, cs = [.slice A n c] ∧ Cap A n c ∧ d.length = n ∧
      (0 < n → ∃ b off, A = some ⟨b, off, none⟩ ∧ Q b ∧ ∀ j, j < n → ∃ es, es.length = nc s ∧ Piece w b (off + j * nc s) es ∧ RdQ w Q s es (d.getD j (dft s)))
  | .cat a b, cs, d => ∃ ca cb, cs = ca ++ cb ∧ RdQ w Q a ca d.1 ∧ RdQ w Q b cb d.2
section
variable {w w' : World} {Q Q' : Nat → Prop} {B : Nat}
theorem RdQ.keep (hk : ∀ b, Q b → w'.heap[b]? = w.heap[b]?) : ∀ {s : Sh} {cs : List Value} {d : Dat s}, RdQ w Q s cs d → RdQ w' Q s cs d
  | .num, _, _, h => h
  | .bit, _, _, h => h
  | .row _ s, _, _, h => by
    obtain ⟨A, n, c, e, hc, hl, h1⟩ := h
    refine ⟨A, n, c, e, hc, hl, fun hn => ?_⟩
    obtain ⟨b, off, e2, hb, h2⟩ := h1 hn
    refine ⟨b, off, e2, hb, fun j hj => ?_⟩
    obtain ⟨es, he, hp, hr⟩ := h2 j hj
    exact ⟨es, he, hp.keep (fun p hp => World.cell?_of_block (by rw [hp]; exact hk b hb)), hr.keep hk⟩
  | .cat a b, _, _, h => by
    obtain ⟨ca, cb, e, h1, h2⟩ := h
    exact ⟨ca, cb, e, h1.keep hk, h2.keep hk⟩
theorem RdQ.mono (hk : ∀ b, Q b → Q' b) : ∀ {s : Sh} {cs : List Value} {d : Dat s}, RdQ w Q s cs d → RdQ w Q' s cs d
  | .num, _, _, h => h
  | .bit, _, _, h => h
  | .row _ s, _, _, h => by
    obtain ⟨A, n, c, e, hc, hl, h1⟩ := h
    refine ⟨A, n, c, e, hc, hl, fun hn => ?_⟩
    obtain ⟨b, off, e2, hb, h2⟩ := h1 hn
    refine ⟨b, off, e2, hk b hb, fun j hj => ?_⟩
    obtain ⟨es, he, hp, hr⟩ := h2 j hj
    exact ⟨es, he, hp, hr.mono hk⟩
  | .cat a b, _, _, h => by
    obtain ⟨ca, cb, e, h1, h2⟩ := h
    exact ⟨ca, cb, e, h1.mono hk, h2.mono hk⟩
theorem RdQ.rd (hk : ∀ b, Q b → b < B) : ∀ {s : Sh} {cs : List Value} {d : Dat s}, RdQ w Q s cs d → Rd w B s cs d
  | .num, _, _, h => h
  | .bit, _, _, h => h
  | .row _ s, _, _, h => by
    obtain ⟨A, n, c, e, hc, hl, h1⟩ := h
    refine ⟨A, n, c, e, hc, hl, fun hn => ?_⟩
    obtain ⟨b, off, e2, hb, h2⟩ := h1 hn
    refine ⟨b, off, e2, hk b hb, fun j hj => ?_⟩
    obtain ⟨es, he, hp, hr⟩ := h2 j hj
    exact ⟨es, he, hp, hr.rd hk⟩
  | .cat a b, _, _, h => by
    obtain ⟨ca, cb, e, h1, h2⟩ := h
    exact ⟨ca, cb, e, h1.rd hk, h2.rd hk⟩
theorem RdQ.len : ∀ {s : Sh} {cs : List Value} {d : Dat s}, RdQ w Q s cs d → cs.length = nc s
  | .num, _, _, h => by have h : _ = _ := h; rw [h]; rfl
  | .bit, _, _, h => by have h : _ = _ := h; rw [h]; rfl
  | .row _ _, _, _, h => by obtain ⟨A, n, c, e, _⟩ := h; rw [e]; rfl
  | .cat a b, _, _, h => by
    obtain ⟨ca, cb, e, h1, h2⟩ := h
    rw [e, List.length_append, h1.len, h2.len]; rfl
theorem RdQ.cat {a b : Sh} {ca cb : List Value} {x : Dat a} {y : Dat b} (h1 : RdQ w Q a ca x) (h2 : RdQ w Q b cb y) : RdQ w Q (.cat a b) (ca ++ cb) (x, y) := ⟨ca, cb, rfl, h1, h2⟩
/-- every cell is one cell -/
theorem RdQ.one : ∀ {s : Sh} {cs : List Value} {d : Dat s}, RdQ w Q s cs d → ∀ u ∈ cs, u.oneCell' = true
  | .num, _, _, h, u, hu => by have h : _ = _ := h; rw [h] at hu; rw [List.mem_singleton.1 hu]; rfl
  | .bit, _, _, h, u, hu => by have h : _ = _ := h; rw [h] at hu; rw [List.mem_singleton.1 hu]; rfl
  | .row _ _, _, _, h, u, hu => by obtain ⟨A, n, c, e, _⟩ := h; rw [e] at hu; rw [List.mem_singleton.1 hu]; rfl
  | .cat a b, _, _, h, u, hu => by
    obtain ⟨ca, cb, e, h1, h2⟩ := h
    rw [e] at hu
    rcases List.mem_append.1 hu with hu | hu
    · exact h1.one u hu
    · exact h2.one u hu
/-- a list -/
theorem rdq_seg {A : Option Addr} {n c : Nat} {xs : List Int} (hl : xs.length = n) (hc : Cap A n c) (h : 0 < n → ∃ b off, A = some ⟨b, off, none⟩ ∧ Q b ∧ ∀ j, j < n → w.cell? ⟨b, off + j, none⟩ = some (.int .i64 (xs.getD j 0))) : RdQ w Q sI [.slice A n c] xs := by
  refine ⟨A, n, c, rfl, hc, hl, fun hn => ?_⟩
  obtain ⟨b, off, e2, hb, h2⟩ := h hn
  refine ⟨b, off, e2, hb, fun j hj => ⟨[.int .i64 (xs.getD j 0)], rfl, fun i hi => ?_, rfl⟩⟩
  have hi : i = 0 := by simpa using hi
  subst hi
  show w.cell? ⟨b, off + j * 1 + 0, none⟩ = some (.int .i64 (xs.getD j 0))
  rw [Nat.mul_one, Nat.add_zero]
  exact h2 j hj
theorem rdq_own {lo : Nat} {A : Option Addr} {n c : Nat} {xs : List Int} (h : Own w lo (.slice A n c) xs) (hQ : ∀ b, lo ≤ b → b < w.heap.size → blk A = some b → Q b) : RdQ w Q sI [.slice A n c] xs := by
  have hl := Own.len h
  refine rdq_seg hl.symm (Go.Proofs.Ytmaamlnooepogaa.kinds.Ownd.cap (Go.Proofs.Ytmaamlnooepogaa.kinds.Ownd.of_own h)) fun hn => ?_
  obtain ⟨b, off, e, hb, hc⟩ := (Own.seg h).2 hn
  have hk : blk A = some b := by rw [e]; rfl
  exact ⟨b, off, e, hQ b (World.ownsRow.lt h b (by rw [blk_own]; exact hk)).1 hb hk, hc⟩
theorem rdq_rd {p : Nat} {A : Option Addr} {n c : Nat} {xs : List Int} (h : Go.Proofs.Ytmaamlnooepogaa.drawTerm.Rd w p B A n xs) (hc : Cap A n c) (hQ : ∀ b, b < B → b ≠ p → Q b) : RdQ w Q sI [.slice A n c] xs :=
  rdq_seg h.1 hc fun hn => by
    obtain ⟨b, off, e, hb, hp, hcell⟩ := h.2 hn
    exact ⟨b, off, e, hQ b hb hp, hcell⟩
end

/-- outside the cursor's block -/
def Out (w : World) (p : Nat) (b : Nat) : Prop := b < w.heap.size ∧ b ≠ p
/-- outside the cursor's block and outside a row -/
def OutR (w : World) (p : Nat) (r : Option Nat) (b : Nat) : Prop := b < w.heap.size ∧ b ≠ p ∧ some b ≠ r
section
variable {w w' : World} {p : Nat} {r : Option Nat} {s : Sh} {cs : List Value} {d : Dat s}
theorem out_dice (h : RdQ w (Out w p) s cs d) (hg : w.grownBy w' (some p)) : RdQ w' (Out w' p) s cs d :=
  (h.keep fun b hb => hg.block b hb.1 (fun e => hb.2 (by injection e))).mono fun b hb => ⟨Nat.lt_of_lt_of_le hb.1 hg.size, hb.2⟩
theorem out_below (h : RdQ w (Out w p) s cs d) (hb : Below w.heap.size w w') : RdQ w' (Out w' p) s cs d :=
  (h.keep fun b h => hb.block b h.1).mono fun b h => ⟨Nat.lt_of_lt_of_le h.1 hb.size, h.2⟩
theorem outR_dice (h : RdQ w (OutR w p r) s cs d) (hg : w.grownBy w' (some p)) : RdQ w' (OutR w' p r) s cs d :=
  (h.keep fun b hb => hg.block b hb.1 (fun e => hb.2.1 (by injection e))).mono fun b hb => ⟨Nat.lt_of_lt_of_le hb.1 hg.size, hb.2⟩
theorem outR_below (h : RdQ w (OutR w p r) s cs d) (hb : Below w.heap.size w w') : RdQ w' (OutR w' p r) s cs d :=
  (h.keep fun b h => hb.block b h.1).mono fun b h => ⟨Nat.lt_of_lt_of_le h.1 hb.size, h.2⟩
theorem out_rd (h : RdQ w (Out w p) s cs d) : Rd w w.heap.size s cs d := h.rd fun _ h => h.1
theorem out_put {g i : Nat} {u : Value} (h : RdQ w (Out w p) s cs d) (hg : ∀ b, Out w p b → b ≠ g) : RdQ (w.setCell ⟨g, i, none⟩ u) (Out (w.setCell ⟨g, i, none⟩ u) p) s cs d :=
  (h.keep fun b hb => Below.heap_setCell w _ u b (hg b hb)).mono fun b h => ⟨by simpa using h.1, h.2⟩
end

/-! ### a slice whose row is the call's own -/
/-- element j's cells -/
def cellsOf (k : Nat) (vs : List Value) (j : Nat) : List Value := (vs.drop (j * k)).take k
def OwnQ (w : World) (p lo : Nat) (e : TypeId) (s : Sh) (A : Option Addr) (n c : Nat) (D : List (Dat s)) : Prop :=
  D.length = n ∧ ∃ vs : List Value, w.ownsRow lo e (nc s) (.slice A n c) n vs ∧ ∀ j, j < n → RdQ w (OutR w p (blk A)) s (cellsOf (nc s) vs j) (D.getD j (dft s))
section
variable {w w' : World} {p lo n c : Nat} {e : TypeId} {s : Sh} {A : Option Addr} {D : List (Dat s)}
theorem OwnQ.nil (w : World) (p lo : Nat) (e : TypeId) (s : Sh) : OwnQ w p lo e s none 0 0 [] := ⟨rfl, [], ⟨by simp, .inl ⟨rfl, rfl⟩⟩, fun j hj => absurd hj (Nat.not_lt_zero _)⟩
theorem OwnQ.below (h : OwnQ w p lo e s A n c D) (hb : Below w.heap.size w w') : OwnQ w' p lo e s A n c D := by
  obtain ⟨h1, vs, h2, h3⟩ := h
  exact ⟨h1, vs, World.ownsRow.kept h2 ⟨hb.os, hb.tape, hb.output, hb.size, fun k hk _ => hb.block k hk⟩ (row := none) (by cases (Value.slice A n c).ownBlock <;> simp), fun j hj => outR_below (h3 j hj) hb⟩
theorem OwnQ.dice (h : OwnQ w p lo e s A n c D) (hg : w.grownBy w' (some p)) (hp : p < lo) : OwnQ w' p lo e s A n c D := by
  obtain ⟨h1, vs, h2, h3⟩ := h
  refine ⟨h1, vs, World.ownsRow.kept h2 hg ?_, fun j hj => outR_dice (h3 j hj) hg⟩
  cases e : (Value.slice A n c).ownBlock with
  | none => exact .inl rfl
  | some k =>
    refine .inr (fun e2 => ?_)
    have := (World.ownsRow.lt h2 k e).1
    injection e2 with e2
    omega
theorem OwnQ.lower {lo' : Nat} (h : OwnQ w p lo e s A n c D) (h1 : lo' ≤ lo) : OwnQ w p lo' e s A n c D := by
  obtain ⟨h3, vs, ho, h4⟩ := h
  refine ⟨h3, vs, ⟨ho.1, ?_⟩, h4⟩
  rcases ho.2 with q2 | ⟨g, cap, cur, hv, hg, q⟩
  · exact .inl q2
  · exact .inr ⟨g, cap, cur, hv, by omega, q⟩
theorem OwnQ.ge (h : OwnQ w p lo e s A n c D) : ∀ k, blk A = some k → lo ≤ k ∧ k < w.heap.size := fun k hk => by
  obtain ⟨_, vs, ho, _⟩ := h
  exact World.ownsRow.lt ho k (by rw [blk_own]; exact hk)
/-- it reads as data -/
theorem OwnQ.rdq {e0 : TypeId} (h : OwnQ w p lo e s A n c D) (hp : p < lo) : RdQ w (Out w p) (.row e0 s) [.slice A n c] D := by
  obtain ⟨h1, vs, ho, h3⟩ := h
  rcases ho.2 with ⟨e1, h0⟩ | ⟨g, cap, cur, e1, hg, hrow, hn, hm, hs, ht⟩
  · injection e1 with a1 a2 a3
    subst a1 a2 a3
    exact ⟨none, 0, 0, rfl, ⟨by omega, by omega, fun _ => rfl⟩, h1, fun h => absurd h (by omega)⟩
  · injection e1 with a1 a2 a3
    subst a1 a3
    refine ⟨_, n, c, rfl, ⟨hn, by unfold maxLen at hm; omega, fun e => by cases e⟩, h1, fun h0 => ⟨g, 0, rfl, ⟨(Array.getElem?_eq_some_iff.1 hrow).1, by omega⟩, fun j hj => ⟨cellsOf (nc s) vs j, ?_, fun i hi => ?_, (h3 j hj).mono fun b h => ⟨h.1, h.2.1⟩⟩⟩⟩
    · exact (h3 j hj).len
    · have hl := (h3 j hj).len
      have hi : i < nc s := by omega
      have hjn : j * nc s + nc s ≤ n * nc s := by
        have := Nat.mul_le_mul_right (nc s) (show j + 1 ≤ n by omega)
        rw [Nat.add_mul] at this
        omega
      rw [Nat.zero_add, Row.cell (t := e) (cs := cur) hrow]
      have h5 : cur.toList[j * nc s + i]? = vs[j * nc s + i]? := by
        rw [← ht, List.getElem?_take, if_pos (by omega)]
      rw [← Array.getElem?_toList, h5]
      unfold cellsOf
      rw [List.getElem?_take, if_pos hi, List.getElem?_drop]
/-- one more -/
theorem ownQ_app {vs es : List Value} {x : Dat s} {A' : Option Addr} {c' : Nat} (hl : D.length = n) (hr : w.ownsRow lo e (nc s) (.slice A n c) n vs) (hin : ∀ j, j < n → RdQ w (OutR w p (blk A)) s (cellsOf (nc s) vs j) (D.getD j (dft s))) (hv : RdQ w (OutR w p (blk A)) s es x)
    (hown' : w'.ownsRow lo e (nc s) (.slice A' (n + 1) c') (n + 1) (vs ++ es)) (hg : w.grownBy w' (blk A)) (hat : blk A' = blk A ∨ blk A' = some w.heap.size) : OwnQ w' p lo e s A' (n + 1) c' (D ++ [x]) := by
  have hvl : vs.length = n * nc s := hr.1
  have hel := hv.len
  have keep : ∀ {us : List Value} {y : Dat s}, RdQ w (OutR w p (blk A)) s us y → RdQ w' (OutR w' p (blk A')) s us y := fun {us y} hu =>
    (hu.keep fun b hb => hg.block b hb.1 (fun e => hb.2.2 e)).mono fun b hb => ⟨Nat.lt_of_lt_of_le hb.1 hg.size, hb.2.1, by
      rcases hat with e2 | e2
      · rw [e2]; exact hb.2.2
      · rw [e2]; intro e3; injection e3 with e3; have := hb.1; omega⟩
  refine ⟨by simp [hl], vs ++ es, hown', fun j hj => ?_⟩
  by_cases ej : j = n
  · subst ej
    rw [show (D ++ [x]).getD j (dft s) = x by simp [List.getD, ← hl]]
    have : cellsOf (nc s) (vs ++ es) j = es := by
      unfold cellsOf
      rw [List.drop_append_of_le_length (by omega), List.drop_of_length_le (by omega), List.nil_append, List.take_of_length_le (by omega)]
    rw [this]
    exact keep hv
  · rw [show (D ++ [x]).getD j (dft s) = D.getD j (dft s) by simp [List.getD, List.getElem?_append_left (show j < D.length by omega)]]
    have hjn : j * nc s + nc s ≤ n * nc s := by
      have := Nat.mul_le_mul_right (nc s) (show j + 1 ≤ n by omega)
      rw [Nat.add_mul] at this
      omega
    have : cellsOf (nc s) (vs ++ es) j = cellsOf (nc s) vs j := by
      unfold cellsOf
      rw [List.drop_append_of_le_length (by omega), List.take_append_of_le_length (by rw [List.length_drop]; omega)]
    rw [this]
    exact keep (hin j (by omega))
end

/-- append of one element, in a walk -/
theorem appQ1 {w : World} {ops : Array Oper} {rest : List Oper} {o : Oper} {a : Act} {Q : Exit → Act → World → Prop} (hgd : o.guard = none) (sx x : Operand) (T e : TypeId) (s : Sh) (z : Value) (bytes : Nat) (hT : Try.prog.underlying T = some (.slice e))
    (hI : (Try.prog.info? e).map (fun i => (i.zero, i.size, i.bytes)) = some (some z, nc s, bytes)) (hzc : z.cells.size = nc s) (hby : bytes ≤ 4096)
    (ho : o.op = .call { callee := .builtin .append, args := #[sx, x], argTypes := #[T, T] })
    (p lo : Nat) (A : Option Addr) (n c : Nat) (D : List (Dat s)) (hs : a.eval sx = .slice A n c) (hown : OwnQ w p lo e s A n c D)
    (g c2 : Nat) (es : List Value) (y : Dat s) (hx : a.eval x = .slice (some ⟨g, 0, none⟩) 1 c2) (hy : ∀ i, i < es.length → w.cell? ⟨g, i, none⟩ = es[i]?) (hv : RdQ w (OutR w p (blk A)) s es y) (hn : n ≤ 1048576) (hlo : lo ≤ w.heap.size)
    (h : ∀ A' c' w', OwnQ w' p lo e s A' (n + 1) c' (D ++ [y]) → w.grownBy w' (blk A) → (blk A' = blk A ∨ blk A' = some w.heap.size) → Below lo w w' → wpList Try.prog ops Q rest (a.put o.dst (.slice A' (n + 1) c')) w') : wpList Try.prog ops Q (o :: rest) a w := by
  obtain ⟨i0, hi, hz0, hz1, hz2⟩ := info_parts hI
  obtain ⟨hlen, vs, hr, hin⟩ := hown
  have hel := hv.len
  refine wpList_append_own_at w hgd sx x T ho lo e i0 z (nc s) bytes hT hi hz0 hz1 hz2 hzc (nc_pos s) (.slice A n c) n vs hs hr
    ⟨g, 0, none⟩ 1 c2 es hx (by rw [hel]; simp) (fun j u hj => ?_) hv.one (by unfold maxLen; omega) (by have h1 : (n + 1) * bytes ≤ 1048577 * 4096 := Nat.mul_le_mul (by omega) hby; omega) hlo ?_
  · have hj2 : j < es.length := (List.getElem?_eq_some_iff.1 hj).1
    have := hy j hj2
    rw [hj] at this
    have e2 : (⟨g, 0, none⟩ : Addr).add j = ⟨g, j, none⟩ := by unfold Addr.add; split <;> simp_all
    rw [e2]; exact this
  · intro v' w' hown' hg _ hat
    have hform : ∃ A' c', v' = .slice A' (n + 1) c' := by
      rcases hown'.2 with ⟨_, h0⟩ | ⟨g', cap, cur, e, _⟩
      · omega
      · exact ⟨_, _, e⟩
    obtain ⟨A', c', rfl⟩ := hform
    rw [blk_own] at hg
    rw [blk_own, blk_own] at hat
    exact h A' c' w' (ownQ_app hlen hr hin hv hown' hg hat) hg hat ((Below.refl lo w).grown hg hlo (fun k hk => (World.ownsRow.lt hr k (by rw [blk_own]; exact hk)).1))
/-- append of one element, at a step of a region that draws -/
theorem stepQ1 {w : World} {ops : Array Oper} {o : Oper} {a : Act} {K : Act → World → Prop} {Q : Exit → Act → World → Prop} {E : Prop} (hgd : o.guard = none) (sx x : Operand) (T e : TypeId) (s : Sh) (z : Value) (bytes : Nat) (hT : Try.prog.underlying T = some (.slice e))
    (hI : (Try.prog.info? e).map (fun i => (i.zero, i.size, i.bytes)) = some (some z, nc s, bytes)) (hzc : z.cells.size = nc s) (hby : bytes ≤ 4096)
    (ho : o.op = .call { callee := .builtin .append, args := #[sx, x], argTypes := #[T, T] })
    (p lo : Nat) (A : Option Addr) (n c : Nat) (D : List (Dat s)) (hs : a.eval sx = .slice A n c) (hown : OwnQ w p lo e s A n c D)
    (g c2 : Nat) (es : List Value) (y : Dat s) (hx : a.eval x = .slice (some ⟨g, 0, none⟩) 1 c2) (hy : ∀ i, i < es.length → w.cell? ⟨g, i, none⟩ = es[i]?) (hv : RdQ w (OutR w p (blk A)) s es y) (hn : n ≤ 1048576) (hlo : lo ≤ w.heap.size)
    (h : ∀ g' c' w', OwnQ w' p lo e s (some ⟨g', 0, none⟩) (n + 1) c' (D ++ [y]) → w.grownBy w' (blk A) → (blk A = some g' ∨ g' = w.heap.size) → g' < w'.heap.size → K (a.put o.dst (.slice (some ⟨g', 0, none⟩) (n + 1) c')) w') :
    if Region.wanted o (yielded ops a.tmps) = true then Oper.wp Try.prog o a w K Q else E := by
  obtain ⟨i0, hi, hz0, hz1, hz2⟩ := info_parts hI
  obtain ⟨hlen, vs, hr, hin⟩ := hown
  have hel := hv.len
  refine step_append_lies w hgd sx x T ho lo e i0 z (nc s) bytes hT hi hz0 hz1 hz2 hzc (nc_pos s) (.slice A n c) n vs hs hr
    ⟨g, 0, none⟩ 1 c2 es hx (by rw [hel]; simp) (fun j u hj => ?_) hv.one (by omega) (by unfold maxLen; omega) (by have h1 : (n + 1) * bytes ≤ 1048577 * 4096 := Nat.mul_le_mul (by omega) hby; omega) hlo w.heap.size rfl ?_
  · have hj2 : j < es.length := (List.getElem?_eq_some_iff.1 hj).1
    have := hy j hj2
    rw [hj] at this
    have e2 : (⟨g, 0, none⟩ : Addr).add j = ⟨g, j, none⟩ := by unfold Addr.add; split <;> simp_all
    rw [e2]; exact this
  · intro g' c' w' hown' hg hat hlt
    rw [blk_own] at hg hat
    exact h g' c' w' (ownQ_app hlen hr hin hv hown' hg (hat.imp (fun e => e.symm) (fun e => by rw [← e]; rfl))) hg hat hlt
end Go.Proofs.Ytmaamlnooepogaa.drawX
end

section
/-
  WORDS: a slice of structs that is being made of parts of the call's own ('OwnL': its row and all that its elements reach lie in blocks from lo on and below hi), append of one element and of a whole slice. Conditions: none; plain lemmas. By an AI agent.
-/
namespace Go.Proofs.Ytmaamlnooepogaa.ownL
open Go.RowKit Go.Proofs.Ytmaamlnooepogaa.base Go.Proofs.Ytmaamlnooepogaa.ints Go.Proofs.Ytmaamlnooepogaa.sig Go.Proofs.Ytmaamlnooepogaa.cursor Go.Proofs.Ytmaamlnooepogaa.marks Go.Proofs.Ytmaamlnooepogaa.app Go.Proofs.Ytmaamlnooepogaa.appAt Go.Proofs.Ytmaamlnooepogaa.sym Go.Proofs.Ytmaamlnooepogaa.segs Go.Proofs.Ytmaamlnooepogaa.shape Go.Proofs.Ytmaamlnooepogaa.drawX
set_option maxRecDepth 100000

/-- every cell is one cell -/
theorem Ow.one {w : World} : ∀ {s : Sh} {cs : List Value} {d : Dat s} {F : List Nat}, Ow w s cs d F → ∀ u ∈ cs, u.oneCell' = true
  | .num, _, _, _, h, u, hu => by have h : _ = _ ∧ _ := h; rw [h.1] at hu; rw [List.mem_singleton.1 hu]; rfl
  | .bit, _, _, _, h, u, hu => by have h : _ = _ ∧ _ := h; rw [h.1] at hu; rw [List.mem_singleton.1 hu]; rfl
  | .row _ _, _, _, _, h, u, hu => by obtain ⟨A, n, c, e, _⟩ := h; rw [e] at hu; rw [List.mem_singleton.1 hu]; rfl
  | .cat a b, _, _, _, h, u, hu => by
    obtain ⟨ca, cb, Fa, Fb, e, _, h1, h2⟩ := h
    rw [e] at hu
    rcases List.mem_append.1 hu with hu | hu
    · exact Ow.one h1 u hu
    · exact Ow.one h2 u hu

def OwnL (w : World) (lo hi : Nat) (e : TypeId) (s : Sh) (A : Option Addr) (n c : Nat) (D : List (Dat s)) : Prop :=
  D.length = n ∧ (∀ k, blk A = some k → k < hi) ∧ ∃ (vs : List Value) (G : Nat → List Nat), w.ownsRow lo e (nc s) (.slice A n c) n vs ∧ (A = none → c = 0) ∧ ((List.range n).flatMap G).Nodup ∧
    ∀ j, j < n → Ow w s (cellsOf (nc s) vs j) (D.getD j (dft s)) (G j) ∧ ∀ q ∈ G j, lo ≤ q ∧ q < hi ∧ some q ≠ blk A
section
variable {w w' : World} {lo hi n c : Nat} {e : TypeId} {s : Sh} {A : Option Addr} {D : List (Dat s)}
theorem OwnL.nil (w : World) (lo hi : Nat) (e : TypeId) (s : Sh) : OwnL w lo hi e s none 0 0 [] := ⟨rfl, (fun k hk => by cases hk), [], fun _ => [], ⟨by simp, .inl ⟨rfl, rfl⟩⟩, fun _ => rfl, by simp, fun j hj => absurd hj (Nat.not_lt_zero _)⟩
theorem OwnL.empty (w : World) {lo hi : Nat} (e : TypeId) (s : Sh) (h : lo ≤ w.heap.size) (h2 : w.heap.size < hi) : OwnL (w.alloc (.cells #[] e)) lo hi e s (some ⟨w.heap.size, 0, none⟩) 0 0 [] :=
  ⟨rfl, (fun k hk => by injection hk with hk; rw [← hk]; exact h2), [], fun _ => [], ⟨by simp, .inr ⟨w.heap.size, 0, #[], rfl, h, heap_alloc_new w _, Nat.le_refl _, by decide, by simp, by simp⟩⟩, (fun e => by cases e), by simp, fun j hj => absurd hj (Nat.not_lt_zero _)⟩
theorem OwnL.keep (h : OwnL w lo hi e s A n c D) (hk : ∀ k, lo ≤ k → k < hi → k < w.heap.size → w'.heap[k]? = w.heap[k]?) (hs : w.heap.size ≤ w'.heap.size) : OwnL w' lo hi e s A n c D := by
  obtain ⟨h1, h2, vs, G, h3, h4, h5, h6⟩ := h
  refine ⟨h1, h2, vs, G, ?_, h4, h5, fun j hj => ⟨(h6 j hj).1.keep fun q hq => ?_, (h6 j hj).2⟩⟩
  · refine ⟨h3.1, ?_⟩
    rcases h3.2 with q | ⟨g, cap, cur, e1, hg, hr, q⟩
    · exact .inl q
    · have hlt := (Array.getElem?_eq_some_iff.1 hr).1
      injection e1 with e2 e3 e4
      exact .inr ⟨g, cap, cur, by rw [e2, e4], hg, (hk g hg (h2 g (by rw [e2]; rfl)) hlt).trans hr, q⟩
  · have := (h6 j hj).2 q hq
    exact hk q this.1 this.2.1 ((h6 j hj).1.lt q hq)
theorem OwnL.next (h : OwnL w lo hi e s A n c D) (hb : Below w.heap.size w w') : OwnL w' lo hi e s A n c D := h.keep (fun k _ _ hk => hb.block k hk) hb.size
theorem OwnL.btw {lo' hi' : Nat} (h : OwnL w lo hi e s A n c D) (hb : Btw lo' hi' w w') (ho : hi ≤ lo' ∨ hi' ≤ lo) : OwnL w' lo hi e s A n c D := h.keep (fun k h1 h2 hk => hb.block k hk (by omega)) hb.size
theorem OwnL.wider {lo' hi' : Nat} (h : OwnL w lo hi e s A n c D) (h1 : lo' ≤ lo) (h2 : hi ≤ hi') : OwnL w lo' hi' e s A n c D := by
  obtain ⟨q1, q2, vs, G, q3, q4, q5, q6⟩ := h
  refine ⟨q1, fun k hk => Nat.lt_of_lt_of_le (q2 k hk) h2, vs, G, ⟨q3.1, ?_⟩, q4, q5, fun j hj => ⟨(q6 j hj).1, fun q hq => ?_⟩⟩
  · rcases q3.2 with q | ⟨g, cap, cur, e1, hg, q⟩
    · exact .inl q
    · exact .inr ⟨g, cap, cur, e1, by omega, q⟩
  · have := (q6 j hj).2 q hq
    exact ⟨by omega, by omega, this.2.2⟩
/-- what is known of its row -/
theorem OwnL.ge (h : OwnL w lo hi e s A n c D) : ∀ k, blk A = some k → lo ≤ k ∧ k < w.heap.size := fun k hk => by
  obtain ⟨_, _, vs, G, ho, _⟩ := h
  exact World.ownsRow.lt ho k (by rw [blk_own]; exact hk)
/-- it is the call's own -/
theorem OwnL.owned (h : OwnL w lo hi e s A n c D) : Owned w lo hi (.row e s) [.slice A n c] D := by
  obtain ⟨h1, h2, vs, G, h3, h4, h5, h6⟩ := h
  rcases h3.2 with ⟨e1, h0⟩ | ⟨g, cap, cur, e1, hg, hrow, hn, hm, hs, ht⟩
  · injection e1 with a1 a2 a3
    subst a1 a2 a3
    exact ⟨[], ⟨none, 0, 0, rfl, h1, .inl ⟨rfl, rfl, rfl, rfl⟩⟩, by simp, fun k hk => by cases hk⟩
  · injection e1 with a1 a2 a3
    subst a1 a3
    have hl : vs.length = n * nc s := h3.1
    refine ⟨g :: (List.range n).flatMap G, ⟨_, n, c, rfl, h1, .inr ⟨g, cur, cellsOf (nc s) vs, G, rfl, hrow, hn, by unfold maxLen at hm; omega, hs, rfl, fun j hj => ?_⟩⟩, List.nodup_cons.2 ⟨fun hb => ?_, h5⟩, fun k hk => ?_⟩
    · have hjn : j * nc s + nc s ≤ n * nc s := by
        have := Nat.mul_le_mul_right (nc s) (show j + 1 ≤ n by omega)
        rw [Nat.add_mul] at this
        omega
      refine ⟨(h6 j hj).1.len, fun i hi => ?_, (h6 j hj).1⟩
      have h7 : cur.toList[j * nc s + i]? = vs[j * nc s + i]? := by rw [← ht, List.getElem?_take, if_pos (by omega)]
      rw [← Array.getElem?_toList, h7]
      unfold cellsOf
      rw [List.getElem?_take, if_pos hi, List.getElem?_drop]
    · obtain ⟨j, hj, hb⟩ := List.mem_flatMap.1 hb
      exact ((h6 j (List.mem_range.1 hj)).2 g hb).2.2 rfl
    · rcases List.mem_cons.1 hk with hk | hk
      · rw [hk]; exact ⟨hg, h2 g rfl⟩
      · obtain ⟨j, hj, hb⟩ := List.mem_flatMap.1 hk
        have := (h6 j (List.mem_range.1 hj)).2 k hb
        exact ⟨this.1, this.2.1⟩
theorem OwnL.rd (h : OwnL w lo hi e s A n c D) : Rd w w.heap.size (.row e s) [.slice A n c] D := h.owned.rd
/-- what is the call's own and of this form -/
theorem owned_ownL (h : Owned w lo hi (.row e s) [.slice A n c] D) : OwnL w lo hi e s A n c D := by
  obtain ⟨F, h, hn, hF⟩ := h
  obtain ⟨A', n', c', e1, hl, h⟩ := h
  injection e1 with e1
  injection e1 with a1 a2 a3
  subst a1 a2 a3
  rcases h with ⟨rfl, rfl, rfl, rfl⟩ | ⟨g, cur, E, G, rfl, hr, h2, h3, h4, rfl, h6⟩
  · have : D = [] := List.eq_nil_of_length_eq_zero hl
    subst this
    exact OwnL.nil _ _ _ _ _
  · rw [List.nodup_cons] at hn
    have hsz : n * nc s ≤ cur.size := by rw [h4]; exact Nat.mul_le_mul_right _ h2
    have hcell : ∀ j, j < n → cellsOf (nc s) (cur.toList.take (n * nc s)) j = E j := fun j hj => by
      have hjn : j * nc s + nc s ≤ n * nc s := by
        have := Nat.mul_le_mul_right (nc s) (show j + 1 ≤ n by omega)
        rw [Nat.add_mul] at this
        omega
      obtain ⟨q1, q2, _⟩ := h6 j hj
      refine List.ext_getElem? fun i => ?_
      unfold cellsOf
      rw [List.getElem?_take]
      split
      · rename_i hi
        rw [List.getElem?_drop, List.getElem?_take, if_pos (by omega), Array.getElem?_toList]
        exact q2 i hi
      · exact (List.getElem?_eq_none (by omega)).symm
    refine ⟨hl, (fun k hk => by injection hk with hk; rw [← hk]; exact (hF g (List.mem_cons_self ..)).2), cur.toList.take (n * nc s), G, ⟨by simp; omega, .inr ⟨g, c, cur, rfl, (hF g (List.mem_cons_self ..)).1, hr, h2, by unfold maxLen; omega, h4, rfl⟩⟩, (fun e => by cases e), hn.2, fun j hj => ⟨by rw [hcell j hj]; exact (h6 j hj).2.2, fun q hq => ?_⟩⟩
    have hm := List.mem_flatMap.2 ⟨j, List.mem_range.2 hj, hq⟩
    have := hF q (List.mem_cons_of_mem _ hm)
    exact ⟨this.1, this.2, fun e => hn.1 (by injection e with e; have e : q = g := e; rw [← e]; exact hm)⟩

/-! ### append -/
theorem cells_left {k n j : Nat} {vs es : List Value} (hl : vs.length = n * k) (hj : j < n) : cellsOf k (vs ++ es) j = cellsOf k vs j := by
  have hjn : j * k + k ≤ n * k := by
    have := Nat.mul_le_mul_right k (show j + 1 ≤ n by omega)
    rw [Nat.add_mul] at this
    omega
  unfold cellsOf
  rw [List.drop_append_of_le_length (by omega), List.take_append_of_le_length (by rw [List.length_drop]; omega)]
theorem cells_right {k n j : Nat} {vs es : List Value} (hl : vs.length = n * k) : cellsOf k (vs ++ es) (n + j) = cellsOf k es j := by
  unfold cellsOf
  rw [show (n + j) * k = vs.length + j * k by rw [hl, Nat.add_mul], ← List.drop_drop, List.drop_left]
theorem flat_range {G H : Nat → List Nat} : ∀ {n m : Nat}, (List.range (n + m)).flatMap (fun j => if j < n then G j else H (j - n)) = (List.range n).flatMap G ++ (List.range m).flatMap H
  | n, 0 => by
    simp only [Nat.add_zero, List.range_zero, List.flatMap_nil, List.append_nil]
    rw [List.flatMap_def, List.flatMap_def]
    congr 1
    exact List.map_congr_left fun j hj => if_pos (List.mem_range.1 hj)
  | n, m + 1 => by
    rw [← Nat.add_assoc, List.range_succ, List.flatMap_append, flat_range, List.range_succ, List.flatMap_append]
    simp
    intro h; omega
/-- the elements of another slice of the call's own are appended -/
theorem ownL_app {mid hi2 m : Nat} {vs es : List Value} {G : Nat → List Nat} {E : List (Dat s)} {H : Nat → List Nat} {A' : Option Addr} {c' : Nat} (h1 : D.length = n) (h2 : ∀ k, blk A = some k → k < hi) (h3 : w.ownsRow lo e (nc s) (.slice A n c) n vs) (h5 : ((List.range n).flatMap G).Nodup)
    (h6 : ∀ j, j < n → Ow w s (cellsOf (nc s) vs j) (D.getD j (dft s)) (G j) ∧ ∀ q ∈ G j, lo ≤ q ∧ q < hi ∧ some q ≠ blk A) (hmid : hi ≤ mid) (hlo : lo ≤ mid)
    (hE : E.length = m) (hn : ((List.range m).flatMap H).Nodup) (hin : ∀ j, j < m → Ow w s (cellsOf (nc s) es j) (E.getD j (dft s)) (H j) ∧ ∀ q ∈ H j, mid ≤ q ∧ q < hi2)
    (hown : w'.ownsRow lo e (nc s) (.slice A' (n + m) c') (n + m) (vs ++ es)) (hg : w.grownBy w' (blk A)) (hat : blk A' = blk A ∨ blk A' = some w.heap.size) (hc' : A' = none → c' = 0) : OwnL w' lo w'.heap.size e s A' (n + m) c' (D ++ E) := by
  have hvl : vs.length = n * nc s := h3.1
  have hA' : ∀ k, blk A' = some k → k < w'.heap.size := fun k hk => (World.ownsRow.lt hown k (by rw [blk_own]; exact hk)).2
  refine ⟨by simp [h1, hE], hA', vs ++ es, fun j => if j < n then G j else H (j - n), hown, hc', ?_, fun j hj => ?_⟩
  · rw [flat_range]
    refine List.nodup_append.2 ⟨h5, hn, fun x hx y hy e => ?_⟩
    obtain ⟨i, hi', hx⟩ := List.mem_flatMap.1 hx
    obtain ⟨j, hj', hy⟩ := List.mem_flatMap.1 hy
    have q1 := (h6 i (List.mem_range.1 hi')).2 x hx
    have q2 := (hin j (List.mem_range.1 hj')).2 y hy
    omega
  · dsimp only
    by_cases ej : j < n
    · rw [if_pos ej, cells_left hvl ej, show (D ++ E).getD j (dft s) = D.getD j (dft s) by simp [List.getD, List.getElem?_append_left (show j < D.length by omega)]]
      obtain ⟨o1, o2⟩ := h6 j ej
      refine ⟨o1.keep fun q hq => hg.block q (o1.lt q hq) (fun e => (o2 q hq).2.2 e), fun q hq => ?_⟩
      have q3 := o2 q hq
      refine ⟨q3.1, Nat.lt_of_lt_of_le (o1.lt q hq) hg.size, ?_⟩
      rcases hat with e2 | e2
      · rw [e2]; exact q3.2.2
      · rw [e2]; intro e3; injection e3 with e3; have := o1.lt q hq; omega
    · obtain ⟨i, rfl⟩ : ∃ i, j = n + i := ⟨j - n, by omega⟩
      have hi' : i < m := by omega
      rw [if_neg ej, cells_right hvl, show n + i - n = i by omega, show (D ++ E).getD (n + i) (dft s) = E.getD i (dft s) by simp [List.getD, List.getElem?_append_right (show D.length ≤ n + i by omega), h1]]
      obtain ⟨o1, o2⟩ := hin i hi'
      have hne : ∀ q ∈ H i, some q ≠ blk A := fun q hq e => by
        have := h2 q e.symm
        have := o2 q hq
        omega
      refine ⟨o1.keep fun q hq => hg.block q (o1.lt q hq) (fun e => hne q hq e), fun q hq => ?_⟩
      have q3 := o2 q hq
      refine ⟨by omega, Nat.lt_of_lt_of_le (o1.lt q hq) hg.size, ?_⟩
      rcases hat with e2 | e2
      · rw [e2]; exact hne q hq
      · rw [e2]; intro e3; injection e3 with e3; have := o1.lt q hq; omega
end

/-- one element in a row of its own -/
theorem OwnL.single {w : World} {lo hi g : Nat} {e : TypeId} {s : Sh} {es : List Value} {y : Dat s} (hr : Row w g e es.toArray) (ho : Owned w lo hi s es y) (hg : hi ≤ g) (hlo : lo ≤ g) : OwnL w lo (g + 1) e s (some ⟨g, 0, none⟩) 1 1 [y] := by
  obtain ⟨F, hF, hFn, hFb⟩ := ho
  have hel := hF.len
  refine ⟨rfl, fun k hk => by injection hk with hk; have hk : g = k := hk; omega, es, fun _ => F, ⟨by rw [hel]; simp, .inr ⟨g, 1, es.toArray, rfl, hlo, hr, Nat.le_refl _, by unfold maxLen; omega, by simp [hel], by simp [← hel]⟩⟩, (fun e => by cases e), by simpa using hFn, fun j hj => ?_⟩
  obtain rfl : j = 0 := by omega
  refine ⟨?_, fun q hq => ?_⟩
  · have : cellsOf (nc s) es 0 = es := by unfold cellsOf; rw [Nat.zero_mul, List.drop_zero, List.take_of_length_le (by omega)]
    rw [this]; exact hF
  · have := hFb q hq
    refine ⟨this.1, by omega, fun e => ?_⟩
    injection e with e
    have e : q = g := e
    omega
/-- append of a slice of the call's own -/
theorem run_appL {w : World} (ty T e : TypeId) (s : Sh) (z : Value) (bytes : Nat) (hT : Try.prog.underlying T = some (.slice e))
    (hI : (Try.prog.info? e).map (fun i => (i.zero, i.size, i.bytes)) = some (some z, nc s, bytes)) (hzc : z.cells.size = nc s) (hby : bytes ≤ 4096)
    (lo hi mid hi2 : Nat) (A : Option Addr) (n c g m c2 : Nat) (D E : List (Dat s)) (hown : OwnL w lo hi e s A n c D) (hx : OwnL w mid hi2 e s (some ⟨g, 0, none⟩) m c2 E) (hmid : hi ≤ mid) (hlm : lo ≤ mid) (hn : n ≤ 1048576) (hm : m ≤ 1048576) (hlo : lo ≤ w.heap.size) :
    ∃ A' c' w', (Builtin.append_ #[T, T] ty #[.slice A n c, .slice (some ⟨g, 0, none⟩) m c2]).run Try.prog w = .ok (.slice A' (n + m) c') w' ∧ OwnL w' lo w'.heap.size e s A' (n + m) c' (D ++ E) ∧ w.grownBy w' (blk A) ∧ (blk A' = blk A ∨ blk A' = some w.heap.size) ∧ Below lo w w' ∧ (A ≠ none ∨ 0 < m → ∃ g', A' = some ⟨g', 0, none⟩) := by
  obtain ⟨i0, hi', hz0, hz1, hz2⟩ := info_parts hI
  obtain ⟨h1, h2, vs, G, hr, h4, h5, h6⟩ := hown
  obtain ⟨k1, k2, us, H, kr, k4, k5, k6⟩ := hx
  have hul : us.length = m * nc s := kr.1
  have hone : ∀ u ∈ us, u.oneCell' = true := fun u hu => by
    obtain ⟨i, hi2, rfl⟩ := List.getElem_of_mem hu
    have hnp := nc_pos s
    have hj : i / nc s < m := by rw [Nat.div_lt_iff_lt_mul hnp]; omega
    refine Ow.one (k6 (i / nc s) hj).1 _ ?_
    unfold cellsOf
    have hdm : i / nc s * nc s + i % nc s = i := by rw [Nat.mul_comm]; exact Nat.div_add_mod i (nc s)
    have hmod := Nat.mod_lt i hnp
    refine List.mem_of_getElem? (i := i % nc s) ?_
    rw [List.getElem?_take, if_pos hmod, List.getElem?_drop, hdm]
    exact List.getElem?_eq_getElem hi2
  have hcells : ∀ j u, us[j]? = some u → w.cell? ((⟨g, 0, none⟩ : Addr).add j) = some u := fun j u hj => by
    have e2 : (⟨g, 0, none⟩ : Addr).add j = ⟨g, j, none⟩ := by unfold Addr.add; split <;> simp_all
    rw [e2]
    rcases kr.2 with ⟨e1, _⟩ | ⟨g', cap, cur, e1, _, hrow, _, _, _, ht⟩
    · cases e1
    · injection e1 with a1 a2 a3
      injection a1 with a1
      injection a1 with a1
      subst a1
      rw [Row.cell (t := e) (cs := cur) hrow, ← Array.getElem?_toList]
      have hjl := (List.getElem?_eq_some_iff.1 hj).1
      rw [← ht, List.getElem?_take, if_pos (by omega)] at hj
      exact hj
  obtain ⟨v', w', hrun, hown', hg, hnn, hat⟩ := run_append_own_at (P := Try.prog) w lo T ty e i0 z (nc s) bytes hT hi' hz0 hz1 hz2 hzc (nc_pos s) (.slice A n c) n vs hr ⟨g, 0, none⟩ m c2 us hul hcells hone (by unfold maxLen; omega) (by have h1 : (n + m) * bytes ≤ 2097152 * 4096 := Nat.mul_le_mul (by omega) hby; omega) hlo
  rw [blk_own] at hg
  have hform : ∃ A' c', v' = .slice A' (n + m) c' ∧ (A' = none → c' = 0) ∧ (A ≠ none ∨ 0 < m → ∃ g', A' = some ⟨g', 0, none⟩) := by
    rcases hown'.2 with ⟨e1, h0⟩ | ⟨g', cap, cur, e1, _⟩
    · refine ⟨none, 0, by rw [e1, h0], fun _ => rfl, fun hh => ?_⟩
      have := (hnn.1 e1)
      rcases hh with hh | hh
      · exact absurd (by have := this.1; injection this) hh
      · omega
    · exact ⟨_, _, e1, (fun e => by cases e), fun _ => ⟨g', rfl⟩⟩
  obtain ⟨A', c', rfl, hc', hf⟩ := hform
  rw [blk_own, blk_own] at hat
  exact ⟨A', c', w', hrun, ownL_app (hi2 := hi2) (H := H) h1 h2 hr h5 h6 hmid hlm k1 k5 (fun j hj => ⟨(k6 j hj).1, fun q hq => ⟨((k6 j hj).2 q hq).1, ((k6 j hj).2 q hq).2.1⟩⟩) hown' hg hat hc', hg, hat, (Below.refl lo w).grown hg hlo (fun k hk => (World.ownsRow.lt hr k (by rw [blk_own]; exact hk)).1), hf⟩
/-- at the operation -/
theorem wp_appL {w : World} {o : Oper} {a : Act} {K : Act → World → Prop} {Q : Exit → Act → World → Prop} (sx x : Operand) (T e : TypeId) (s : Sh) (z : Value) (bytes : Nat) (hT : Try.prog.underlying T = some (.slice e))
    (hI : (Try.prog.info? e).map (fun i => (i.zero, i.size, i.bytes)) = some (some z, nc s, bytes)) (hzc : z.cells.size = nc s) (hby : bytes ≤ 4096)
    (ho : o.op = .call { callee := .builtin .append, args := #[sx, x], argTypes := #[T, T] })
    (lo hi mid hi2 : Nat) (A : Option Addr) (n c g m c2 : Nat) (D E : List (Dat s)) (hs : a.eval sx = .slice A n c) (hown : OwnL w lo hi e s A n c D) (hxv : a.eval x = .slice (some ⟨g, 0, none⟩) m c2) (hx : OwnL w mid hi2 e s (some ⟨g, 0, none⟩) m c2 E) (hmid : hi ≤ mid) (hlm : lo ≤ mid) (hn : n ≤ 1048576) (hm : m ≤ 1048576) (hlo : lo ≤ w.heap.size)
    (h : ∀ A' c' w', OwnL w' lo w'.heap.size e s A' (n + m) c' (D ++ E) → w.grownBy w' (blk A) → (blk A' = blk A ∨ blk A' = some w.heap.size) → Below lo w w' → (A ≠ none ∨ 0 < m → ∃ g', A' = some ⟨g', 0, none⟩) → K (a.put o.dst (.slice A' (n + m) c')) w') : o.wp Try.prog a w K Q := by
  obtain ⟨A', c', w', hr, h2, h3, h4, h5, h6⟩ := run_appL o.type T e s z bytes hT hI hzc hby lo hi mid hi2 A n c g m c2 D E hown hx hmid hlm hn hm hlo
  unfold Oper.wp execOp
  simp only [ho, resolve, invoke, builtin, Sem.run_bind, Sem.run_pure, Result.andThen_ok, List.map_toArray, List.map_cons, List.map_nil, hs, hxv, hr]
  exact h A' c' w' h2 h3 h4 h5 h6
/-- in a walk -/
theorem appLm {w : World} {ops : Array Oper} {rest : List Oper} {o : Oper} {a : Act} {Q : Exit → Act → World → Prop} (hgd : o.guard = none) (sx x : Operand) (T e : TypeId) (s : Sh) (z : Value) (bytes : Nat) (hT : Try.prog.underlying T = some (.slice e))
    (hI : (Try.prog.info? e).map (fun i => (i.zero, i.size, i.bytes)) = some (some z, nc s, bytes)) (hzc : z.cells.size = nc s) (hby : bytes ≤ 4096)
    (ho : o.op = .call { callee := .builtin .append, args := #[sx, x], argTypes := #[T, T] })
    (lo hi mid hi2 : Nat) (A : Option Addr) (n c g m c2 : Nat) (D E : List (Dat s)) (hs : a.eval sx = .slice A n c) (hown : OwnL w lo hi e s A n c D) (hxv : a.eval x = .slice (some ⟨g, 0, none⟩) m c2) (hx : OwnL w mid hi2 e s (some ⟨g, 0, none⟩) m c2 E) (hmid : hi ≤ mid) (hlm : lo ≤ mid) (hn : n ≤ 1048576) (hm : m ≤ 1048576) (hlo : lo ≤ w.heap.size)
    (h : ∀ A' c' w', OwnL w' lo w'.heap.size e s A' (n + m) c' (D ++ E) → w.grownBy w' (blk A) → (blk A' = blk A ∨ blk A' = some w.heap.size) → Below lo w w' → (A ≠ none ∨ 0 < m → ∃ g', A' = some ⟨g', 0, none⟩) → wpList Try.prog ops Q rest (a.put o.dst (.slice A' (n + m) c')) w') : wpList Try.prog ops Q (o :: rest) a w :=
  wpList_plain hgd fun _ hK => wp_appL sx x T e s z bytes hT hI hzc hby ho lo hi mid hi2 A n c g m c2 D E hs hown hxv hx hmid hlm hn hm hlo fun A' c' w' h1 h2 h3 h4 h5 => hK _ _ (h A' c' w' h1 h2 h3 h4 h5)
/-- at a step of a region that draws -/
theorem stepLm {w : World} {ops : Array Oper} {o : Oper} {a : Act} {K : Act → World → Prop} {Q : Exit → Act → World → Prop} {E0 : Prop} (hgd : o.guard = none) (sx x : Operand) (T e : TypeId) (s : Sh) (z : Value) (bytes : Nat) (hT : Try.prog.underlying T = some (.slice e))
    (hI : (Try.prog.info? e).map (fun i => (i.zero, i.size, i.bytes)) = some (some z, nc s, bytes)) (hzc : z.cells.size = nc s) (hby : bytes ≤ 4096)
    (ho : o.op = .call { callee := .builtin .append, args := #[sx, x], argTypes := #[T, T] })
    (lo hi mid hi2 : Nat) (A : Option Addr) (n c g m c2 : Nat) (D E : List (Dat s)) (hs : a.eval sx = .slice A n c) (hown : OwnL w lo hi e s A n c D) (hxv : a.eval x = .slice (some ⟨g, 0, none⟩) m c2) (hx : OwnL w mid hi2 e s (some ⟨g, 0, none⟩) m c2 E) (hmid : hi ≤ mid) (hlm : lo ≤ mid) (hn : n ≤ 1048576) (hm : m ≤ 1048576) (hlo : lo ≤ w.heap.size) (hnn : A ≠ none ∨ 0 < m)
    (h : ∀ g' c' w', OwnL w' lo w'.heap.size e s (some ⟨g', 0, none⟩) (n + m) c' (D ++ E) → w.grownBy w' (blk A) → (blk A = some g' ∨ g' = w.heap.size) → Below lo w w' → K (a.put o.dst (.slice (some ⟨g', 0, none⟩) (n + m) c')) w') :
    if Region.wanted o (yielded ops a.tmps) = true then Oper.wp Try.prog o a w K Q else E0 := by
  have hw : Region.wanted o (yielded ops a.tmps) = true := by simp [Region.wanted, hgd]
  rw [if_pos hw]
  refine wp_appL sx x T e s z bytes hT hI hzc hby ho lo hi mid hi2 A n c g m c2 D E hs hown hxv hx hmid hlm hn hm hlo fun A' c' w' h1 h2 h3 h4 h5 => ?_
  obtain ⟨g', rfl⟩ := h5 hnn
  exact h g' c' w' h1 h2 (h3.imp (fun e => e.symm) (fun e => by injection e)) h4
end Go.Proofs.Ytmaamlnooepogaa.ownL
end

section
/-
  CONTRACTS: spec.l7Steps, StepsFrom. Conditions: the system and the term read as data ('Rd'), at most 1048576 numbers. By an AI agent.
-/
namespace Go.Proofs.Ytmaamlnooepogaa.stepSpec
open Go.RowKit Go.Proofs.Ytmaamlnooepogaa.base Go.Proofs.Ytmaamlnooepogaa.ints Go.Proofs.Ytmaamlnooepogaa.sig Go.Proofs.Ytmaamlnooepogaa.term Go.Proofs.Ytmaamlnooepogaa.termOk Go.Proofs.Ytmaamlnooepogaa.endAt Go.Proofs.Ytmaamlnooepogaa.endOf Go.Proofs.Ytmaamlnooepogaa.marks Go.Proofs.Ytmaamlnooepogaa.app Go.Proofs.Ytmaamlnooepogaa.sym Go.Proofs.Ytmaamlnooepogaa.sub Go.Proofs.Ytmaamlnooepogaa.segs Go.Proofs.Ytmaamlnooepogaa.segsHelp Go.Proofs.Ytmaamlnooepogaa.kinds Go.Proofs.Ytmaamlnooepogaa.termFacts Go.Proofs.Ytmaamlnooepogaa.shifted Go.Proofs.Ytmaamlnooepogaa.matchMath Go.Proofs.Ytmaamlnooepogaa.matchSpec Go.Proofs.Ytmaamlnooepogaa.shape Go.Proofs.Ytmaamlnooepogaa.kindsR Go.Proofs.Ytmaamlnooepogaa.kindsW Go.Proofs.Ytmaamlnooepogaa.ruleMath Go.Proofs.Ytmaamlnooepogaa.ruleSpec Go.Proofs.Ytmaamlnooepogaa.stepMath Go.Proofs.Ytmaamlnooepogaa.walkMath Go.Proofs.Ytmaamlnooepogaa.stepsMath Go.Proofs.Ytmaamlnooepogaa.ownL
set_option maxRecDepth 100000

theorem owned_step {w : World} {lo : Nat} {A : Option Addr} {n c : Nat} {v : List Int} (h : Own w lo (.slice A n c) v) (a b : Int) : Owned w lo w.heap.size sStep [.int .i64 a, .int .i64 b, .slice A n c] (a, b, v) := by
  obtain ⟨F, h1, h2, h3⟩ := (ow_ints (lo := lo) (hi := w.heap.size)).2 (Ownd.of_own h)
  exact ⟨F, ⟨[.int .i64 a], [.int .i64 b, .slice A n c], [], F, rfl, rfl, ⟨rfl, rfl⟩, ⟨[.int .i64 b], [.slice A n c], [], F, rfl, rfl, ⟨rfl, rfl⟩, h1⟩⟩, h2, h3⟩
/-- a slice of steps, all of it the call's own -/
def AnsSteps (w : World) (L : List St) (e : Ending) (w' : World) : Prop := ∃ A n c, e = .returned (.slice A n c) ∧ OwnL w' w.heap.size w'.heap.size 39 sStep A n c L ∧ Below w.heap.size w w'
theorem AnsSteps.copy {w w' : World} {L : List St} {e : Ending} (h : AnsSteps w L e w') : Copy1 w sStepS L e w' := by
  obtain ⟨A, n, c, e1, o, b⟩ := h
  exact ⟨A, n, c, e1, o.owned, b⟩
theorem ansSteps_none {w w' : World} {L : List St} (h : L = []) (hb : Below w.heap.size w w') : AnsSteps w L (.returned (.slice (some ⟨w'.heap.size, 0, none⟩) 0 0)) (w'.alloc (.cells #[] 39)) :=
  ⟨_, 0, 0, rfl, by rw [h]; exact OwnL.empty w' _ _ hb.size (by simp), hb.alloc hb.size _⟩

/-- the loops' state -/
structure Sn (w : World) (A V : Option Addr) (n cs q cv : Nat) (L : List St) (O : Option Addr) (on oc : Nat) (wr : World) : Prop where
  r : Row wr w.heap.size 29 #[.slice A n cs, .slice V q cv]
  o : OwnL wr (w.heap.size + 1) wr.heap.size 39 sStep O on oc L
  b : Below w.heap.size w wr
theorem Sn.below {w wr w' : World} {A V : Option Addr} {n cs q cv : Nat} {L : List St} {O : Option Addr} {on oc : Nat} (h : Sn w A V n cs q cv L O on oc wr) (hb : Below wr.heap.size wr w') : Sn w A V n cs q cv L O on oc w' :=
  ⟨h.r.next hb, (h.o.next hb).wider (Nat.le_refl _) hb.size, next_trans h.b hb⟩
theorem Sn.len {w wr : World} {A V : Option Addr} {n cs q cv : Nat} {L : List St} {O : Option Addr} {on oc : Nat} (h : Sn w A V n cs q cv L O on oc wr) : L.length = on := h.o.1

set_option maxHeartbeats 4000000 in
theorem l7Steps (a v u : Value) (d : Dat sSystem) (t : List Int) (w : World) (h : Rd w w.heap.size sSystem [a, v] d) (ht : Rd w w.heap.size sI [u] t) (hz : sz sSystem d ≤ 1048576) (hok : rightB d.1 d.2 t = true) :
    Calls Try.prog 57 #[.agg #[a, v], u] w (AnsSteps w (stepsL d.1 d.2 t)) := by
  have htv := ht
  obtain ⟨T, m, c, rfl, hT, hcT⟩ := rd_ints.1 ht
  have h0 := h
  obtain ⟨A, n, cs, V, q, cv, rfl, rfl, hs, hc, hcv, hq, hn, hq1, hrs, hsg, hE⟩ := rd_sys h hz
  have HQ := Lib.hid hq
  have HTL := Lib.hid hT.1
  have LST := Lib.hid (fun (w1 : World) (bb : Below w.heap.size w w1) (x k : Nat) hx hk => l7Step _ _ _ d t x k w1 (h0.next bb) (htv.next bb) hz hok hx hk)
  have hm : m ≤ 60 := by have := (term_len (right_parts hok).2).2; have := hT.1; omega
  have hq12 : q ≤ 12 := by have := (sys_parts (right_parts hok).1).2.1; omega
  have HLEN := Lib.hid (fun i k (hi : i ≤ m) (hk : k ≤ q) => (show (stN d.1 d.2 t i k).length ≤ 1000 by
    have h1 := st_len (sg := d.1) (rs := d.2) (t := t) (i := i) (k := k)
    have h2 : i * d.2.length ≤ 60 * 12 := Nat.mul_le_mul (by omega) (by rw [hq]; omega)
    omega))
  have S0 : Sn w A V n cs q cv (stN d.1 d.2 t 0 0) (some ⟨w.heap.size + 1, 0, none⟩) 0 0 ((w.alloc (.cells #[.slice A n cs, .slice V q cv] 29)).alloc (.cells #[] 39)) :=
    ⟨(Row.new _ _ _).alloc _, by have := OwnL.empty (w.alloc (.cells #[.slice A n cs, .slice V q cv] 29)) (lo := w.heap.size + 1) (hi := w.heap.size + 1 + 1) 39 sStep (by simp) (by simp); simpa [st_zero] using this, ((Below.refl _ _).alloc (Nat.le_refl _) _).alloc (by simp) _⟩
  have HS0 := Lib.hid S0
  clear S0 h h0 ht htv hz hok hs hc hcv hq hrs hsg hE hT hcT
  go_enter Try.func57, Try.ntmps57
  go_wp2_with fail
  go_loopg [5, 6] m (fun G out at_ wr => ∃ (i on oc : Nat) (O : Option Addr), at_ = .int .i64 i ∧ i + G = m ∧ out = .slice O on oc ∧ Sn w A V n cs q cv (stN d.1 d.2 t i 0) O on oc wr)
  case atStart => exact ⟨0, 0, 0, _, rfl, by omega, rfl, HS0.out⟩
  case round =>
    clear HS0
    obtain ⟨i, on, oc, O, rfl, hiG, rfl, S⟩ := hrel
    obtain ⟨G, hG⟩ : ∃ G, G = gk := ⟨_, rfl⟩
    subst hG
    by_cases him : i < m
    · have HI := Lib.hid hiG
      have HS := Lib.hid S
      clear hiG S
      go_wp2_with fail
      go_loopg [5, 7] q (fun g out r wr => ∃ (k on oc : Nat) (O : Option Addr), r = .int .i64 k ∧ k + g = q ∧ out = .slice O on oc ∧ Sn w A V n cs q cv (stN d.1 d.2 t i k) O on oc wr)
      case atStart => exact ⟨0, _, _, _, rfl, by omega, rfl, HS.out⟩
      case round =>
        clear HS
        obtain ⟨k, on, oc, O, rfl, hkg, rfl, S⟩ := hrel
        have K0 : wr.cell? ⟨w.heap.size, 0, none⟩ = some (.slice A n cs) := S.r.cell 0
        have K1 : wr.cell? ⟨w.heap.size, 1, none⟩ = some (.slice V q cv) := S.r.cell 1
        by_cases hkq : k < q
        · have LS := Lib.hid (LST.out wr S.b i k (by rw [HTL.out]; exact him) (by rw [HQ.out]; exact hkq))
          obtain ⟨o, ho⟩ : ∃ o, stepO d.1 (d.2.getD k ([], [])) t i = o := ⟨_, rfl⟩
          rw [ho] at LS
          have HO := Lib.hid ho
          have HK := Lib.hid hkg
          have hon : on ≤ 1000 := by rw [← S.len]; exact HLEN.out i k (by omega) (by omega)
          clear ho hkg
          cases o with
          | none =>
            go_wp2_with fail
            refine LS.out.mono ?_
            rintro e w2 ⟨X, xn, xc, he, oX, bb⟩
            have he : e = .returned (.tuple #[.slice X xn xc, .bool false]) := he
            subst he
            have F := Lib.hid (show Sn w A V n cs q cv (stN d.1 d.2 t i (k + 1)) O on oc w2 by rw [st_none HO.out]; exact S.below bb)
            clear S oX bb LS K0 K1
            go_wp2
            go_roundg (gk - 1)
            case measure => have := HK.out; omega
            case rel => exact ⟨k + 1, on, oc, O, by simp, by have := HK.out; omega, rfl, F.out⟩
          | some x =>
            go_wp2_with fail
            refine LS.out.mono ?_
            rintro e w2 ⟨X, xn, xc, he, oX, bb⟩
            have he : e = .returned (.tuple #[.slice X xn xc, .bool true]) := he
            subst he
            have S2 := S.below bb
            have hX : Own w2 wr.heap.size (.slice X xn xc) x := oX
            have b3 : Below w2.heap.size w2 (w2.alloc (.cells #[.int .i64 (i : Int), .int .i64 (k : Int), .slice X xn xc] 39)) := (Below.refl _ _).alloc (Nat.le_refl _) _
            have oS := OwnL.single (e := 39) (s := sStep) (Row.new w2 39 #[.int .i64 (i : Int), .int .i64 (k : Int), .slice X xn xc]) ((owned_step hX (i : Int) (k : Int)).next b3) (Nat.le_refl _) bb.size
            have oL := (S.o.next bb).next b3
            have z1 : w.heap.size + 1 ≤ wr.heap.size := S.r.lt
            have z2 := bb.size
            have HAPP := Lib.hid (show OwnL (w2.alloc (.cells #[.int .i64 (i : Int), .int .i64 (k : Int), .slice X xn xc] 39)) (w.heap.size + 1) wr.heap.size 39 sStep O on oc (stN d.1 d.2 t i k) ∧ OwnL (w2.alloc (.cells #[.int .i64 (i : Int), .int .i64 (k : Int), .slice X xn xc] 39)) wr.heap.size (w2.heap.size + 1) 39 sStep (some ⟨w2.heap.size, 0, none⟩) 1 1 [((i : Int), (k : Int), x)] from ⟨oL, oS⟩)
            have HR2 := Lib.hid (S2.below b3)
            clear S S2 oX hX bb oS oL b3 LS K0 K1
            go_wp2_with (at_builtin; refine appLm rfl _ _ 32 39 sStep _ _ Try.underlying32 info_StepS rfl (by decide) rfl (w.heap.size + 1) wr.heap.size wr.heap.size (w2.heap.size + 1) O on oc w2.heap.size 1 1 _ _ rfl HAPP.out.1 rfl HAPP.out.2 (Nat.le_refl _) z1 (by omega) (by omega) (by simp; omega) ?_; intro O' oc' w4 oL4 hg4 hat4 b4 hf4)
            have F := Lib.hid (show Sn w A V n cs q cv (stN d.1 d.2 t i (k + 1)) O' (on + 1) oc' w4 from ⟨HR2.out.r.below b4 (by omega), by rw [st_some HO.out]; exact oL4, HR2.out.b.trans (b4.mono (by omega))⟩)
            clear oL4 hg4 hat4 b4 hf4 HAPP HR2
            go_wp2
            go_roundg (gk - 1)
            case measure => have := HK.out; omega
            case rel => exact ⟨k + 1, on + 1, oc', O', by simp, by have := HK.out; omega, rfl, F.out⟩
        · have e1 : k = q := by omega
          subst e1
          have S2 : Sn w A V n cs k cv (stN d.1 d.2 t (i + 1) 0) O on oc wr := by rw [← st_row, HQ.out]; exact S
          have F := Lib.hid S2
          clear S S2
          go_wp2
          go_roundg (G - 1)
          case measure => have := HI.out; omega
          case rel => exact ⟨i + 1, on, oc, O, by simp, by have := HI.out; omega, rfl, F.out⟩
    · have e1 : i = m := by omega
      subst e1
      have F : AnsSteps w (stepsL d.1 d.2 t) (.returned (.slice O on oc)) wr := ⟨O, on, oc, rfl, by rw [← st_all, HTL.out]; exact S.o.wider (by omega) (Nat.le_refl _), S.b⟩
      have HF := Lib.hid F
      clear F S
      go_wp2
      go_ret
      exact HF.out

set_option maxHeartbeats 2000000 in
theorem specStepsFrom (a v u : Value) (d : Dat sSystem) (t : List Int) (w : World) (h : Rd w w.heap.size sSystem [a, v] d) (ht : Rd w w.heap.size sI [u] t) (hz : sz sSystem d ≤ 1048576) (hz' : sz sI t ≤ 1048576) :
    Calls Try.prog 17 #[.agg #[a, v], u] w (AnsSteps w (stepsI d.1 d.2 t)) := by
  have htv := ht
  obtain ⟨T, m, c, rfl, hT, hcT⟩ := rd_ints.1 ht
  have hm := len_ints hT.1 hz'
  obtain ⟨W, hW, rA, bel⟩ := box1 w 29 #[a, v]
  have HW := Lib.hid hW
  have L1 := Lib.hid (l7Right _ _ d T m c t W (h.next bel) hz (hT.next bel) hm)
  have L2 := Lib.hid (fun (w1 : World) (bb : Below w.heap.size w w1) hok => l7Steps _ _ _ d t w1 (h.next bb) (htv.next bb) hz hok)
  clear hW h ht htv hz hz' hT hcT
  cases ok : rightB d.1 d.2 t with
  | false =>
    have HR := Lib.hid ok
    clear ok
    go_enter Try.func17, Try.ntmps17
    go_wp2_with fail
    rw [← HW.out]
    refine L1.out.mono ?_
    rintro e w1 ⟨he, bb⟩
    rw [HR.out] at he
    subst he
    have F := Lib.hid (ansSteps_none (L := stepsI d.1 d.2 t) (by unfold stepsI; rw [if_neg (by rw [HR.out]; simp)]) (next_trans bel bb))
    clear bb bel rA L2
    go_wp2
    go_ret
    exact F.out
  | true =>
    have HR := Lib.hid ok
    clear ok
    go_enter Try.func17, Try.ntmps17
    go_wp2_with fail
    rw [← HW.out]
    refine L1.out.mono ?_
    rintro e w1 ⟨he, bb⟩
    rw [HR.out] at he
    subst he
    replace rA := rA.next bb
    replace bel := next_trans bel bb
    have K0 : w1.cell? ⟨w.heap.size, 0, none⟩ = some a := rA.cell 0
    have K1 : w1.cell? ⟨w.heap.size, 1, none⟩ = some v := rA.cell 1
    clear bb L1 rA
    go_wp2_with fail
    refine (L2.out w1 bel HR.out).mono ?_
    rintro e w2 ⟨A, n, c, rfl, o, bb⟩
    have F : AnsSteps w (stepsI d.1 d.2 t) (.returned (.slice A n c)) w2 := ⟨A, n, c, rfl, by unfold stepsI; rw [if_pos HR.out]; exact o.wider bel.size (Nat.le_refl _), next_trans bel bb⟩
    have HF := Lib.hid F
    clear F o bb bel L2 K0 K1
    go_wp2
    go_ret
    exact HF.out
end Go.Proofs.Ytmaamlnooepogaa.stepSpec
end

section
/-
  ARGUMENTS OPENED OVER SHAPES: an argument of a law, as the row's form hands it over, reads as data ('Rd'), its numbers are numbers of 64 bits ('Wf'); whether a type has a shape is reckoned ('fitsB'). Conditions: none; plain lemmas over any program. By an AI agent.
-/
namespace Go.Proofs.Ytmaamlnooepogaa.openX
open Go.ChangeShapes Go.WideShapes Go.ChangeAt Go.RowKit Go.Proofs.Ytmaamlnooepogaa.base Go.Proofs.Ytmaamlnooepogaa.segs Go.Proofs.Ytmaamlnooepogaa.shape

/-- every number is one of 64 bits -/
def Wf : (s : Sh) → Dat s → Prop
  | .num, (x : Int) => -9223372036854775808 ≤ x ∧ x ≤ 9223372036854775807
  | .bit, _ => True
  | .row _ s, (d : List (Dat s)) => ∀ j, j < d.length → Wf s (d.getD j (dft s))
  | .cat a b, d => Wf a d.1 ∧ Wf b d.2
mutual
def fitsB (P : Program) : Nat → Sh → TypeId → Bool
  | 0, _, _ => false
  | n + 1, s, t => match P.underlying t with
    | some (.struct fs) => P.cellsOf t == nc s && fitsL P n fs.toList 0 s
    | some (.int .i64) => match s with | .num => true | _ => false
    | some .bool => match s with | .bit => true | _ => false
    | some (.slice e) => match s with | .row _ s' => P.cellsOf e == nc s' && fitsB P n s' e | _ => false
    | _ => false
def fitsL (P : Program) : Nat → List Field → Nat → Sh → Bool
  | 0, _, _, _ => false
  | _ + 1, [], _, _ => false
  | n + 1, [f], k, s => f.offset == k && (P.cellsOf f.type == nc s && fitsB P n s f.type)
  | n + 1, f :: g :: fs, k, s => match s with | .cat a b => f.offset == k && (P.cellsOf f.type == nc a && (fitsB P n a f.type && fitsL P n (g :: fs) (k + nc a) b)) | _ => false
end

section
variable {H : Type} {enc : TypeId × Value → H} {P : Program} {w : World} {held : Bool}
theorem addr_add {b off i : Nat} : (⟨b, off, none⟩ : Addr).add i = ⟨b, off + i, none⟩ := by unfold Addr.add; split <;> simp_all
theorem rd_trod : ∀ n : Nat, (∀ (s : Sh) (t : TypeId) (fuel : Nat) (cs : List Value) (x : DataW H × List MemPlace), fitsB P n s t = true → DataW.trod enc P w 0 (fun _ => true) held fuel t cs = some x → ∃ d, Rd w w.heap.size s cs d ∧ Wf s d) ∧
    (∀ (fs : List Field) (k : Nat) (s : Sh) (cs : List Value) (m : Nat), fitsL P n fs k s = true → (∀ (i : Nat) (f : Field), fs[i]? = some f → ∃ x, DataW.trod enc P w 0 (fun _ => true) held m f.type ((cs.drop f.offset).take (P.cellsOf f.type)) = some x) →
      ∃ d, Rd w w.heap.size s ((cs.drop k).take (nc s)) d ∧ Wf s d) := by
  intro n
  induction n with
  | zero => exact ⟨fun _ _ _ _ _ h => by simp [fitsB] at h, fun _ _ _ _ _ h => by simp [fitsL] at h⟩
  | succ n ih =>
    refine ⟨fun s t fuel cs x hf h => ?_, fun fs k s cs m hf h => ?_⟩
    · unfold fitsB at hf
      split at hf
      · rename_i fs hu
        simp only [Bool.and_eq_true, beq_iff_eq] at hf
        obtain ⟨xs, n', hfu, hx, hlen, hxl, hg⟩ := DataW.trod_struct hu h
        obtain ⟨d, hr, hw⟩ := ih.2 fs.toList 0 s cs n' hf.2 (fun i f hi => by
          have hi' : fs[i]? = some f := by simpa using hi
          have h1 := hg i f hi'
          have hlt : i < fs.size := (Array.getElem?_eq_some_iff.1 hi').1
          exact ⟨xs[i]'(by omega), by rw [h1]; exact List.getElem?_eq_getElem (by omega)⟩)
        rw [List.drop_zero, List.take_of_length_le (by omega)] at hr
        exact ⟨d, hr, hw⟩
      · rename_i hu
        split at hf
        · obtain ⟨z, e1, _, hw⟩ := DataW.trod_int hu h
          refine ⟨z, e1, ?_⟩
          show -9223372036854775808 ≤ z ∧ z ≤ 9223372036854775807
          simpa [Lit.wf, IntKind.min, IntKind.max, IntKind.signed, IntKind.bits] using hw
        · cases hf
      · rename_i hu
        split at hf
        · obtain ⟨z, e1, _⟩ := DataW.trod_bool hu h
          exact ⟨z, e1, trivial⟩
        · cases hf
      · rename_i e hu
        split at hf
        · rename_i e0 s'
          simp only [Bool.and_eq_true, beq_iff_eq] at hf
          rcases Go.Deep.open_slice hu h with ⟨hcs, _⟩ | ⟨a, len, cap, m, n', D, Pl, hcs, _, hl, hm, hmm, _, hi⟩
          · exact ⟨[], ⟨none, 0, 0, hcs, ⟨by omega, by omega, fun _ => rfl⟩, rfl, fun h => absurd h (by omega)⟩, fun j hj => absurd hj (Nat.not_lt_zero _)⟩
          · have hmc : m = cap := by simpa using hmm
            subst hmc
            have hd : ∀ j, j < len → ∃ (es : List Value) (dj : Dat s'), es.length = nc s' ∧ (∀ i, i < nc s' → w.cell? ((a.add (j * nc s')).add i) = es[i]?) ∧ Rd w w.heap.size s' es dj ∧ Wf s' dj := fun j hj => by
              obtain ⟨cs', hc, ht⟩ := hi j (by omega)
              obtain ⟨dj, hr, hw⟩ := ih.1 s' e n' cs' _ hf.2 ht
              rw [hf.1] at hc
              obtain ⟨_, hcl, hat⟩ := World.cells?_some hc
              exact ⟨cs', dj, hcl, hat, hr, hw⟩
            have hspot : 0 < len → a.spot = none := fun h0 => by
              obtain ⟨es, dj, h1, h2, _⟩ := hd 0 h0
              have hp := nc_pos s'
              have h3 := h2 0 (by omega)
              rw [List.getElem?_eq_getElem (by omega)] at h3
              have := World.cell?_spot h3
              simpa [Addr.add] using this
            obtain ⟨ds, hdl, hds⟩ : ∃ ds : List (Dat s'), ds.length = len ∧ ∀ j, j < len → ∃ es : List Value, es.length = nc s' ∧ (∀ i, i < nc s' → w.cell? ((a.add (j * nc s')).add i) = es[i]?) ∧ Rd w w.heap.size s' es (ds.getD j (dft s')) ∧ Wf s' (ds.getD j (dft s')) := by
              refine ⟨(List.range len).map fun j => if hj : j < len then Classical.choose (Classical.choose_spec (hd j hj)) else dft s', by simp, fun j hj => ?_⟩
              refine ⟨Classical.choose (hd j hj), ?_⟩
              have h1 := Classical.choose_spec (Classical.choose_spec (hd j hj))
              have e1 : ((List.range len).map fun j => if hj : j < len then Classical.choose (Classical.choose_spec (hd j hj)) else dft s').getD j (dft s') = Classical.choose (Classical.choose_spec (hd j hj)) := by simp [List.getD, hj]
              rw [e1]
              exact h1
            refine ⟨ds, ⟨some a, len, m, hcs, ⟨hl, by unfold maxLen at hm; omega, fun e => by cases e⟩, hdl, fun h0 => ?_⟩, fun j hj => by
              obtain ⟨es, _, _, _, hw⟩ := hds j (by rw [← hdl]; exact hj)
              exact hw⟩
            obtain ⟨b, off, spot⟩ := a
            have hs := hspot h0
            simp only at hs
            subst hs
            refine ⟨b, off, rfl, ?_, fun j hj => ?_⟩
            · obtain ⟨es, h1, h2, _⟩ := hds 0 h0
              have hp := nc_pos s'
              have h3 := h2 0 (by omega)
              rw [List.getElem?_eq_getElem (by omega)] at h3
              have h4 := World.block_lt_of_cell? _ _ h3
              simpa [addr_add] using h4
            · obtain ⟨es, h1, h2, h3, _⟩ := hds j hj
              refine ⟨es, h1, fun i hi2 => ?_, h3⟩
              have := h2 i (by omega)
              rw [addr_add, addr_add] at this
              exact this
        · cases hf
      · cases hf
    · match fs, hf, h with
      | [], hf, _ => simp [fitsL] at hf
      | [f], hf, h =>
        unfold fitsL at hf
        simp only [Bool.and_eq_true, beq_iff_eq] at hf
        obtain ⟨h1, h2, h3⟩ := hf
        obtain ⟨x, hx⟩ := h 0 f rfl
        rw [h1, h2] at hx
        exact ih.1 s f.type m _ x h3 hx
      | f :: g :: fs, hf, h =>
        cases s with
        | cat a b =>
          unfold fitsL at hf
          simp only [Bool.and_eq_true, beq_iff_eq] at hf
          obtain ⟨h1, h2, h3, h4⟩ := hf
          obtain ⟨x, hx⟩ := h 0 f rfl
          rw [h1, h2] at hx
          obtain ⟨d1, r1, w1⟩ := ih.1 a f.type m _ x h3 hx
          obtain ⟨d2, r2, w2⟩ := ih.2 (g :: fs) (k + nc a) b cs m h4 (fun i f' hi => h (i + 1) f' hi)
          refine ⟨(d1, d2), ⟨_, _, ?_, r1, r2⟩, w1, w2⟩
          show List.take (nc a + nc b) (List.drop k cs) = _
          rw [List.take_add, List.drop_drop]
        | num => simp [fitsL] at hf
        | bit => simp [fitsL] at hf
        | row e s' => simp [fitsL] at hf
/-- a slice, or a number, as an argument -/
theorem open_val {s : Sh} {t : TypeId} {v : Value} {d : DataW H} {p : List MemPlace} {n : Nat} (hf : fitsB P n s t = true) (h : DataW.Trod enc P w 0 (fun _ => true) held t v d p) : ∃ x, Rd w w.heap.size s v.cells.toList x ∧ Wf s x := by
  obtain ⟨fuel, hfu⟩ := h
  exact (rd_trod n).1 s t fuel _ _ hf hfu
end
end Go.Proofs.Ytmaamlnooepogaa.openX
end
