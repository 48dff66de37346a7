/-
  CONTRACT: spec.l1DrawTerm draws a list of numbers. Conditions: a drawing cursor ('Dice'), arities from 0 to 3. By an AI agent.
-/
import Derived.Test.YtdeegjeopkcomaaDrawSig
namespace Go.Proofs.Ytdeegjeopkcomaa.drawTerm
open Go.RowKit Go.Proofs.Ytdeegjeopkcomaa.base Go.Proofs.Ytdeegjeopkcomaa.ints Go.Proofs.Ytdeegjeopkcomaa.sig Go.Proofs.Ytdeegjeopkcomaa.term Go.Proofs.Ytdeegjeopkcomaa.cursor Go.Proofs.Ytdeegjeopkcomaa.marks Go.Proofs.Ytdeegjeopkcomaa.app Go.Proofs.Ytdeegjeopkcomaa.sym Go.Proofs.Ytdeegjeopkcomaa.dice Go.Proofs.Ytdeegjeopkcomaa.drawSig
set_option maxRecDepth 100000

/-- the slice value '.slice A n c' reads as xs, in a block below B that is not p -/
def Rd (w : World) (p B : Nat) (A : Option Addr) (n : Nat) (xs : List Int) : Prop :=
  xs.length = n ∧ (0 < n → ∃ b off, A = some ⟨b, off, none⟩ ∧ b < B ∧ b ≠ p ∧ ∀ j, j < n → w.cell? ⟨b, off + j, none⟩ = some (.int .i64 (xs.getD j 0)))
theorem Rd.more {w : World} {p B B' : Nat} {A : Option Addr} {n : Nat} {xs : List Int} (h : Rd w p B A n xs) (hB : B ≤ B') : Rd w p B' A n xs :=
  ⟨h.1, fun hn => by obtain ⟨b, off, e, hb, hne, hc⟩ := h.2 hn; exact ⟨b, off, e, by omega, hne, hc⟩⟩
theorem Rd.keep {w w' : World} {p B : Nat} {A : Option Addr} {n : Nat} {xs : List Int} (h : Rd w p B A n xs) (hk : ∀ q : Addr, q.block < B → q.block ≠ p → w'.cell? q = w.cell? q) : Rd w' p B A n xs :=
  ⟨h.1, fun hn => by obtain ⟨b, off, e, hb, hne, hc⟩ := h.2 hn; exact ⟨b, off, e, hb, hne, fun j hj => (hk ⟨b, off + j, none⟩ hb hne).trans (hc j hj)⟩⟩
theorem Rd.grown {w w' : World} {p B : Nat} {A : Option Addr} {n : Nat} {xs : List Int} (h : Rd w p B A n xs) (hg : w.grownBy w' (some p)) (hB : B ≤ w.heap.size) : Rd w' p B A n xs :=
  h.keep fun q hq hne => World.cell?_of_block (hg.block q.block (by omega) (fun e => hne (by injection e)))
theorem Rd.below {w w' : World} {p B B' : Nat} {A : Option Addr} {n : Nat} {xs : List Int} (h : Rd w p B A n xs) (hb : Below B' w w') (hB : B ≤ B') : Rd w' p B A n xs :=
  h.keep fun q hq _ => hb.cell (by omega)
theorem Rd.seg {w : World} {p B : Nat} {A : Option Addr} {n : Nat} {xs : List Int} (h : Rd w p B A n xs) : Seg w B A n xs :=
  ⟨h.1, fun hn => by obtain ⟨b, off, e, hb, _, hc⟩ := h.2 hn; exact ⟨b, off, e, hb, hc⟩⟩
theorem Rd.of_own {w : World} {p base : Nat} {A : Option Addr} {n c : Nat} {xs : List Int} (h : Own w base (.slice A n c) xs) (hp : p < base) : Rd w p w.heap.size A n xs := by
  have hs := Own.seg h
  refine ⟨hs.1, fun hn => ?_⟩
  obtain ⟨b, off, e, hb, hc⟩ := hs.2 hn
  subst e
  exact ⟨b, off, rfl, hb, by have := Own.ge h b rfl; omega, hc⟩
theorem Own.none_cap {w : World} {base : Nat} {A : Option Addr} {n c : Nat} {xs : List Int} (h : Own w base (.slice A n c) xs) : A = none → c = 0 := by
  rintro rfl
  rcases h.form with ⟨e, _⟩ | ⟨g, c', cur, e, _⟩
  · injection e
  · injection e with e _ _; cases e

/-- what is known in the course of a draw -/
structure DT (w : World) (p : Nat) (A : Option Addr) (n c : Nat) (S : Option Addr) (sn sc : Nat) (sg : List Int) (wr : World) : Prop where
  d : Dice wr p A n c
  r : Row wr w.heap.size 26 #[.slice S sn sc]
  s : Rd wr p w.heap.size S sn sg
  g : w.grownBy wr (some p)
  hp : p < w.heap.size
section
variable {w : World} {p : Nat} {A : Option Addr} {n c : Nat} {S : Option Addr} {sn sc : Nat} {sg : List Int} {wr w' : World}
theorem DT.dice (t : DT w p A n c S sn sc sg wr) (d : Dice w' p A n c) (hg : wr.grownBy w' (some p)) : DT w p A n c S sn sc sg w' :=
  ⟨d, Row.away t.r hg (fun e => by injection e; have := t.hp; omega), t.s.grown hg t.g.size, grown_trans t.g hg, t.hp⟩
theorem DT.below (t : DT w p A n c S sn sc sg wr) (hb : Below (w.heap.size + 1) wr w') : DT w p A n c S sn sc sg w' :=
  ⟨t.d.keep (hb.mono (by have := t.hp; omega)), t.r.below hb (Nat.lt_succ_self _), t.s.below hb (Nat.le_succ _), ⟨hb.os.trans t.g.os, hb.tape.trans t.g.tape, hb.output.trans t.g.output, Nat.le_trans t.g.size hb.size, fun k hk hne => (hb.block k (by omega)).trans (t.g.block k hk hne)⟩, t.hp⟩
theorem DT.drew (t : DT w p A n c S sn sc sg wr) : DT w p A n c S sn sc sg wr.drew := ⟨t.d.drewN 1, t.r.drew, t.s, grown_drewN t.g 1, t.hp⟩
theorem DT.start (hd : Dice w p A n c) (hs : Rd w p w.heap.size S sn sg) : DT w p A n c S sn sc sg (w.alloc (.cells #[.slice S sn sc] 26)) :=
  ⟨hd.alloc _, Row.new _ _ _, hs.below ((Below.refl _ _).alloc (Nat.le_refl _) _) (Nat.le_refl _), World.grownBy_alloc _ _ _, hd.lt⟩
end

/-- a drawn list of at least one and at most L numbers -/
def AnsT (w : World) (p : Nat) (A : Option Addr) (n c L : Nat) (e : Ending) (w' : World) : Prop :=
  ∃ O on oc xs, e = .returned (.slice O on oc) ∧ Own w' w.heap.size (.slice O on oc) xs ∧ 1 ≤ on ∧ on ≤ L ∧ Dice w' p A n c ∧ w.grownBy w' (some p)
theorem leaf {w : World} {p : Nat} {A : Option Addr} {n c L : Nat} {S : Option Addr} {sn sc : Nat} {sg : List Int} {u : World} (t : DT w p A n c S sn sc sg u) (hL : 1 ≤ L) (y : Int) :
    AnsT w p A n c L (.returned (.slice (some ⟨u.heap.size, 0, none⟩) 1 1)) (u.alloc (.cells #[.int .i64 y] 2)) :=
  ⟨_, _, _, [y], rfl, Own.of_row (Row.new _ _ _) rfl rfl (Nat.le_refl _) (by omega) t.g.size (fun j hj => by match j, hj with | 0, _ => rfl), Nat.le_refl _, hL, t.d.alloc _, grown_trans t.g (World.grownBy_alloc _ _ _)⟩
def HeadT (w : World) (p : Nat) (A : Option Addr) (n c : Nat) (S : Option Addr) (sn sc : Nat) (sg : List Int) (M : Nat) (out k : Value) (wr : World) : Prop :=
  ∃ (q : Nat) (O : Option Addr) (on oc : Nat) (xs : List Int), k = .int .i64 q ∧ q ≤ 3 ∧ out = .slice O on oc ∧ Own wr (w.heap.size + 1) (.slice O on oc) xs ∧ 1 ≤ on ∧ on + q * M ≤ 1 + 3 * M ∧ DT w p A n c S sn sc sg wr

theorem one_le_four (f : Nat) : 1 ≤ 4 ^ f := Nat.one_le_pow _ _ (by omega)

set_option maxHeartbeats 4000000 in
theorem drawTerm (p : Nat) (A : Option Addr) (n c : Nat) (S : Option Addr) (sn sc : Nat) (sg : List Int) (vars : Int) (hs : Arities sg) (hn1 : 1 ≤ sn) (hn2 : sn ≤ 256) (hv0 : 1 ≤ vars) (hv1 : vars ≤ 256) : ∀ (f0 : Nat) (depth : Int) (w : World),
    Dice w p A n c → Rd w p w.heap.size S sn sg → f0 ≤ 4 → -1000 ≤ depth → depth ≤ (f0 : Int) + 1 →
    Calls Try.prog 103 #[.pointer (some ⟨p, 0, none⟩), .agg #[.slice S sn sc], .int .i64 depth, .int .i64 vars] w (AnsT w p A n c (4 ^ f0)) := by
  intro f0
  induction f0 with
  | zero =>
    intro depth w hd hr hf hlo hdep
    obtain ⟨LL, hLe⟩ : ∃ LL, 4 ^ 0 = LL := ⟨_, rfl⟩
    have hLL : 1 ≤ LL := by rw [← hLe]; exact one_le_four 0
    rw [hLe]
    clear hLe
    have T0 := DT.start (sc := sc) hd hr
    have hz : depth ≤ 1 := by omega
    obtain ⟨W, hW⟩ : ∃ W, W = w.alloc (.cells #[.slice S sn sc] 26) := ⟨_, rfl⟩
    rw [← hW] at T0
    have HW := Lib.hid hW
    clear hd hr hW
    go_enter Try.func103, Try.ntmps103
    go_wp2_with fail
    rw [← HW.out]
    have cS : W.cell? ⟨w.heap.size, 0, none⟩ = some (.slice S sn sc) := T0.r.cell 0
    go_wp2_with fail
    refine (once p A n c 2 _ T0.d (by omega) (by omega)).mono ?_
    rintro e u1 ⟨b, rfl, d1, g1⟩
    have T1 := T0.dice d1 g1
    clear d1 g1 cS T0
    cases b with
    | true =>
      go_wp2_with fail
      refine (below p A n c vars _ T1.d hv0 hv1).mono ?_
      rintro e u2 ⟨x, rfl, x0, x1, d2, g2⟩
      have F := Lib.hid (leaf (T1.dice d2 g2) hLL (-1 - x))
      clear T1 d2 g2
      go_wp2
      go_ret
      exact F.out
    | false =>
      have cS1 : u1.cell? ⟨w.heap.size, 0, none⟩ = some (.slice S sn sc) := T1.r.cell 0
      go_wp2_with fail
      go_loop [9] (fun i => ∃ k : Nat, k ≤ sn ∧ i = .int .i64 ((k : Int) - 1)) (fun i => (intOf i + 1).toNat)
      case atStart => exact ⟨sn, Nat.le_refl _, rfl⟩
      case round =>
        obtain ⟨k, hk, rfl⟩ := hrel
        by_cases hk0 : k = 0
        · subst hk0
          have F := Lib.hid (leaf T1 hLL (-1))
          clear T1
          go_wp2
          go_ret
          exact F.out
        · obtain ⟨k1, rfl⟩ : ∃ k1, k = k1 + 1 := ⟨k - 1, by omega⟩
          obtain ⟨b, off, y, rfl, hb, hy, ey⟩ := T1.s.seg.spot (show k1 < sn by omega)
          by_cases hy0 : y = 0
          · subst hy0
            have F := Lib.hid (leaf T1 hLL (k1 : Int))
            clear T1 ey
            go_wp2
            go_ret
            exact F.out
          · have e2 : (y == 0) = false := by simp [hy0]
            clear T1 ey
            go_wp2
            go_round
            case rel => exact ⟨k1, by omega, congrArg (Value.int .i64) (by omega)⟩
            case measure => first | (simp [intOf]; done) | (simp [intOf]; omega)
  | succ f ih =>
    intro depth w hd hr hf hlo hdep
    have IH := Lib.hid ih
    clear ih
    obtain ⟨M, hM⟩ : ∃ M, 4 ^ f = M := ⟨_, rfl⟩
    have hM1 : 1 ≤ M := by rw [← hM]; exact one_le_four f
    have hM2 : M ≤ 64 := by rw [← hM]; exact Nat.pow_le_pow_right (n := 4) (by omega) (show f ≤ 3 by omega)
    obtain ⟨LL, hLe⟩ : ∃ LL, 4 ^ (f + 1) = LL := ⟨_, rfl⟩
    have hLM : LL = 4 * M := by rw [← hLe, ← hM, Nat.pow_succ, Nat.mul_comm]
    have hLL : 1 ≤ LL := by omega
    rw [hLe]
    rw [hM] at IH
    clear hLe hM
    have HLM := Lib.hid hLM
    clear hLM
    have T0 := DT.start (sc := sc) hd hr
    obtain ⟨W, hW⟩ : ∃ W, W = w.alloc (.cells #[.slice S sn sc] 26) := ⟨_, rfl⟩
    rw [← hW] at T0
    have HW := Lib.hid hW
    clear hd hr hW
    by_cases hz : depth ≤ 1
    · go_enter Try.func103, Try.ntmps103
      go_wp2_with fail
      rw [← HW.out]
      have cS : W.cell? ⟨w.heap.size, 0, none⟩ = some (.slice S sn sc) := T0.r.cell 0
      go_wp2_with fail
      refine (once p A n c 2 _ T0.d (by omega) (by omega)).mono ?_
      rintro e u1 ⟨b, rfl, d1, g1⟩
      have T1 := T0.dice d1 g1
      clear d1 g1 cS T0
      cases b with
      | true =>
        go_wp2_with fail
        refine (below p A n c vars _ T1.d hv0 hv1).mono ?_
        rintro e u2 ⟨x, rfl, x0, x1, d2, g2⟩
        have F := Lib.hid (leaf (T1.dice d2 g2) hLL (-1 - x))
        clear T1 d2 g2
        go_wp2
        go_ret
        exact F.out
      | false =>
        have cS1 : u1.cell? ⟨w.heap.size, 0, none⟩ = some (.slice S sn sc) := T1.r.cell 0
        go_wp2_with fail
        go_loop [9] (fun i => ∃ k : Nat, k ≤ sn ∧ i = .int .i64 ((k : Int) - 1)) (fun i => (intOf i + 1).toNat)
        case atStart => exact ⟨sn, Nat.le_refl _, rfl⟩
        case round =>
          obtain ⟨k, hk, rfl⟩ := hrel
          by_cases hk0 : k = 0
          · subst hk0
            have F := Lib.hid (leaf T1 hLL (-1))
            clear T1
            go_wp2
            go_ret
            exact F.out
          · obtain ⟨k1, rfl⟩ : ∃ k1, k = k1 + 1 := ⟨k - 1, by omega⟩
            obtain ⟨b, off, y, rfl, hb, hy, ey⟩ := T1.s.seg.spot (show k1 < sn by omega)
            by_cases hy0 : y = 0
            · subst hy0
              have F := Lib.hid (leaf T1 hLL (k1 : Int))
              clear T1 ey
              go_wp2
              go_ret
              exact F.out
            · have e2 : (y == 0) = false := by simp [hy0]
              clear T1 ey
              go_wp2
              go_round
              case rel => exact ⟨k1, by omega, congrArg (Value.int .i64) (by omega)⟩
              case measure => first | (simp [intOf]; done) | (simp [intOf]; omega)
    · have hz1 : (1 : Int) < depth := by omega
      go_enter Try.func103, Try.ntmps103
      go_wp2_with fail
      rw [← HW.out]
      refine (once p A n c 4 _ T0.d (by omega) (by omega)).mono ?_
      rintro e u0 ⟨b, rfl, d0, g0⟩
      have T2 := T0.dice d0 g0
      clear d0 g0 T0
      cases b with
      | true =>
        have cS : u0.cell? ⟨w.heap.size, 0, none⟩ = some (.slice S sn sc) := T2.r.cell 0
        go_wp2_with fail
        refine (once p A n c 2 _ T2.d (by omega) (by omega)).mono ?_
        rintro e u1 ⟨b, rfl, d1, g1⟩
        have T1 := T2.dice d1 g1
        clear d1 g1 cS T2
        cases b with
        | true =>
          go_wp2_with fail
          refine (below p A n c vars _ T1.d hv0 hv1).mono ?_
          rintro e u2 ⟨x, rfl, x0, x1, d2, g2⟩
          have F := Lib.hid (leaf (T1.dice d2 g2) hLL (-1 - x))
          clear T1 d2 g2
          go_wp2
          go_ret
          exact F.out
        | false =>
          have cS1 : u1.cell? ⟨w.heap.size, 0, none⟩ = some (.slice S sn sc) := T1.r.cell 0
          go_wp2_with fail
          go_loop [9] (fun i => ∃ k : Nat, k ≤ sn ∧ i = .int .i64 ((k : Int) - 1)) (fun i => (intOf i + 1).toNat)
          case atStart => exact ⟨sn, Nat.le_refl _, rfl⟩
          case round =>
            obtain ⟨k, hk, rfl⟩ := hrel
            by_cases hk0 : k = 0
            · subst hk0
              have F := Lib.hid (leaf T1 hLL (-1))
              clear T1
              go_wp2
              go_ret
              exact F.out
            · obtain ⟨k1, rfl⟩ : ∃ k1, k = k1 + 1 := ⟨k - 1, by omega⟩
              obtain ⟨b, off, y, rfl, hb, hy, ey⟩ := T1.s.seg.spot (show k1 < sn by omega)
              by_cases hy0 : y = 0
              · subst hy0
                have F := Lib.hid (leaf T1 hLL (k1 : Int))
                clear T1 ey
                go_wp2
                go_ret
                exact F.out
              · have e2 : (y == 0) = false := by simp [hy0]
                clear T1 ey
                go_wp2
                go_round
                case rel => exact ⟨k1, by omega, congrArg (Value.int .i64) (by omega)⟩
                case measure => first | (simp [intOf]; done) | (simp [intOf]; omega)
      | false =>
        have cS : u0.cell? ⟨w.heap.size, 0, none⟩ = some (.slice S sn sc) := T2.r.cell 0
        go_wp2_with fail
        refine (below p A n c (sn : Int) _ T2.d (by omega) (by omega)).mono ?_
        rintro e u1 ⟨x, rfl, x0, x1, d1, g1⟩
        obtain ⟨k, rfl⟩ := Int.eq_ofNat_of_zero_le x0
        have T3 := T2.dice d1 g1
        have hks : k < sn := by omega
        have hsl := T3.s.1
        obtain ⟨b, off, y, rfl, hb, hy, ey⟩ := T3.s.seg.spot hks
        have hyb := hs k (by omega)
        rw [ey.out] at hyb
        obtain ⟨q, rfl⟩ := Int.eq_ofNat_of_zero_le hyb.1
        have hq3 : q ≤ 3 := by omega
        have T4 : DT w p A n c (some ⟨b, off, none⟩) sn sc sg (u1.alloc (.cells #[.int .i64 (k : Int)] 2)) := T3.below ((Below.refl _ _).alloc (by have := T3.r.lt; omega) _)
        have O4 : Own (u1.alloc (.cells #[.int .i64 (k : Int)] 2)) (w.heap.size + 1) (.slice (some ⟨u1.heap.size, 0, none⟩) 1 1) [(k : Int)] :=
          Own.of_row (Row.new _ _ _) rfl rfl (Nat.le_refl _) (by omega) (by have := T3.r.lt; omega) (fun j hj => by match j, hj with | 0, _ => rfl)
        have H0 : HeadT w p A n c (some ⟨b, off, none⟩) sn sc sg M (.slice (some ⟨u1.heap.size, 0, none⟩) 1 1) (.int .i64 (q : Int)) (u1.alloc (.cells #[.int .i64 (k : Int)] 2)) :=
          ⟨q, _, _, _, _, rfl, hq3, rfl, O4, Nat.le_refl _, by have := Nat.mul_le_mul_right M hq3; omega, T4⟩
        have HH := Lib.hid H0
        have cS1 : u1.cell? ⟨w.heap.size, 0, none⟩ = some (.slice (some ⟨b, off, none⟩) sn sc) := T3.r.cell 0
        have zN : w.heap.size < u1.heap.size := T3.r.lt
        have zb : b < u1.heap.size := by omega
        have i1 : (k : Int) < (sn : Int) := by omega
        clear H0 T4 O4 T3 T2 d1 g1 cS ey hsl hyb
        go_wp2_with fail
        go_loopw [11, 12] (fun out kk wr => HeadT w p A n c (some ⟨b, off, none⟩) sn sc sg M out kk wr) (fun _ kk _ => (intOf kk).toNat)
        case atStart => exact HH.out
        case round =>
          obtain ⟨q, O, on, oc, xs, rfl, hq3, rfl, ho, ho1, hoM, T⟩ := hrel
          clear HH
          have cS : wr.cell? ⟨w.heap.size, 0, none⟩ = some (.slice (some ⟨b, off, none⟩) sn sc) := T.r.cell 0
          cases q with
          | zero =>
            have F : AnsT w p A n c LL (.returned (.slice O on oc)) wr := ⟨O, on, oc, xs, rfl, Own.lower ho (Nat.le_succ _), ho1, by have := HLM.out; omega, T.d, T.g⟩
            have HF := Lib.hid F
            clear F T ho
            go_wp2
            go_ret
            exact HF.out
          | succ q =>
            have e0 : (0 : Int) < ((q + 1 : Nat) : Int) := by omega
            have hoM' : on + q * M + M ≤ 1 + 3 * M := by have e : (q + 1) * M = q * M + M := Nat.succ_mul q M; omega
            have hon : on ≤ 193 := by have := Nat.zero_le (q * M); omega
            go_wp2_with fail
            refine (IH.out (depth - 1) wr T.d (T.s.more T.g.size) (by omega) (by omega) (by omega)).mono ?_
            rintro e u2 ⟨O2, on2, oc2, ys, rfl, o2, h1, h2, d2, g2⟩
            have T2 := T.dice d2 g2
            have ho2 := Own.far ho g2 (fun k hk => by injection hk; have := T.hp; omega)
            have z2 := T2.r.lt
            clear ho T d2 g2 cS
            go_wp2_with (at_builtin; refine appAll rfl _ _ rfl (w.heap.size + 1) O on oc xs rfl ho2 O2 on2 oc2 u2.heap.size ys rfl (Own.seg o2) (Own.none_cap o2) (by omega) (by omega) (by omega) ?_; intro O3 oc3 u3 ho3 b3)
            have F : HeadT w p A n c (some ⟨b, off, none⟩) sn sc sg M (.slice O3 (on + on2) oc3) (.int .i64 (q : Int)) u3 := ⟨q, O3, on + on2, oc3, _, rfl, by omega, rfl, ho3, by omega, by omega, T2.below b3⟩
            have HF := Lib.hid F
            clear F ho3 b3 T2 ho2 o2
            go_wp2
            go_roundw
            case rel => first | exact HF.out | simpa using HF.out
            case measure => simp [intOf]
end Go.Proofs.Ytdeegjeopkcomaa.drawTerm
