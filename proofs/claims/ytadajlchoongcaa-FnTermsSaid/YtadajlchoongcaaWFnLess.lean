/-
  THE WALK of laws.FnLess: it returns true, whatever the bytes, and writes nothing that was there. Conditions: the slice holds bytes. By an AI agent.
-/
import Derived.Test.YtadajlchoongcaaDrawPair
import Derived.Test.YtadajlchoongcaaLessMath
import Derived.Test.YtadajlchoongcaaSame
namespace Go.Proofs.Ytadajlchoongcaa.wFnLess
open Go.RowKit Go.Proofs.Ytadajlchoongcaa.base Go.Proofs.Ytadajlchoongcaa.ints Go.Proofs.Ytadajlchoongcaa.sig Go.Proofs.Ytadajlchoongcaa.same Go.Proofs.Ytadajlchoongcaa.less Go.Proofs.Ytadajlchoongcaa.count Go.Proofs.Ytadajlchoongcaa.term Go.Proofs.Ytadajlchoongcaa.termOk Go.Proofs.Ytadajlchoongcaa.dice Go.Proofs.Ytadajlchoongcaa.drawTwo Go.Proofs.Ytadajlchoongcaa.drawPair Go.Proofs.Ytadajlchoongcaa.lessMath

theorem bigAns (A : Option Addr) (n c : Nat) (b : Bool) (w : World) (hb : decide (4096 < n) = b) (hn : n ≤ 9223372036854775807) : Calls Try.prog 15 #[.slice A n c] w fun e w' => w = w' ∧ e = .returned (.bool b) := by
  cases b with
  | true =>
    have h : (4096 : Int) < (n : Int) := by have := of_decide_eq_true hb; omega
    clear hb
    go_enter Try.func15, Try.ntmps15
    go_wp2
    go_ret
    exact ⟨rfl, rfl⟩
  | false =>
    have h : ¬ (4096 : Int) < (n : Int) := by have := of_decide_eq_false hb; omega
    have h2 : decide (4096 < n) = false := hb
    clear hb
    go_enter Try.func15, Try.ntmps15
    go_wp2
    go_ret
    exact ⟨rfl, rfl⟩

/-- what stands after the draws: two lists, a signature in its variable, a third list -/
structure St (w : World) (v : Nat) (O1 : Option Addr) (n1 : Nat) (xs : List Int) (O2 : Option Addr) (n2 : Nat) (ys : List Int) (S : Option Addr) (sn sc : Nat) (sg : List Int) (O3 : Option Addr) (n3 : Nat) (zs : List Int) (wr : World) : Prop where
  a : Seg wr wr.heap.size O1 n1 xs
  b : Seg wr wr.heap.size O2 n2 ys
  s : Seg wr wr.heap.size S sn sg
  c : Seg wr wr.heap.size O3 n3 zs
  r : Row wr v 26 #[.slice S sn sc]
  bel : Below w.heap.size w wr
section
variable {w : World} {v : Nat} {O1 : Option Addr} {n1 : Nat} {xs : List Int} {O2 : Option Addr} {n2 : Nat} {ys : List Int} {S : Option Addr} {sn sc : Nat} {sg : List Int} {O3 : Option Addr} {n3 : Nat} {zs : List Int} {wr w' : World}
theorem St.next (t : St w v O1 n1 xs O2 n2 ys S sn sc sg O3 n3 zs wr) (hb : Below wr.heap.size wr w') : St w v O1 n1 xs O2 n2 ys S sn sc sg O3 n3 zs w' :=
  ⟨t.a.next hb, t.b.next hb, t.s.next hb, t.c.next hb, t.r.next hb, next_trans t.bel hb⟩
theorem St.drewN (t : St w v O1 n1 xs O2 n2 ys S sn sc sg O3 n3 zs wr) (d : Nat) : St w v O1 n1 xs O2 n2 ys S sn sc sg O3 n3 zs (wr.drewN d) :=
  ⟨t.a, t.b, t.s, t.c, t.r, below_drewN t.bel d⟩
end

def HeadSum (w : World) (v : Nat) (O1 : Option Addr) (n1 : Nat) (xs : List Int) (O2 : Option Addr) (n2 : Nat) (ys : List Int) (S : Option Addr) (sn sc : Nat) (sg : List Int) (O3 : Option Addr) (n3 : Nat) (zs : List Int) (many i : Value) (wr : World) : Prop :=
  ∃ k : Nat, k ≤ 32 ∧ i = .int .i64 (-24 + (k : Int)) ∧ many = .int .i64 (sumC sg zs k) ∧ St w v O1 n1 xs O2 n2 ys S sn sc sg O3 n3 zs wr

set_option maxHeartbeats 8000000 in
theorem law (A : Option Addr) (n c : Nat) (_ : List Int) (w : World) (h : SegB w w.heap.size A n) (hN : n ≤ 9223372036854775807) :
    Calls Try.prog 4 #[.slice A n c] w (Fine w) := by
  by_cases hbig : n ≤ 4096
  · have LB := Lib.hid (bigAns A n c false w (by simp; omega) hN)
    go_enter Try.func4, Try.ntmps4
    go_wp2_with fail
    refine LB.out.mono ?_
    rintro e w' ⟨rfl, rfl⟩
    clear LB
    go_wp2_with fail
    refine (drawLessTerm A n c w h hbig).mono ?_
    rintro e w1 ⟨O1, n1, c1, xs, O2, n2, c2, ys, rfl, sa, sb, h1, h2, b1⟩
    have h' : SegB w1 w1.heap.size A n := fun hp => by
      obtain ⟨b, off, e, hb, hc⟩ := h hp
      refine ⟨b, off, e, Nat.lt_of_lt_of_le hb b1.size, fun j hj => ?_⟩
      obtain ⟨x, x0, x1, hx⟩ := hc j hj
      exact ⟨x, x0, x1, (b1.cell (p := ⟨b, off + j, none⟩) hb).trans hx⟩
    clear h
    go_wp2_with fail
    refine (drawDepthOf A n c w1 h' hbig).mono ?_
    rintro e w2 ⟨S, sn, sc, sg, O3, n3, c3, zs, rfl, ss, sz, h3, h4, -, -, b2⟩
    have T0 : St w w2.heap.size O1 n1 xs O2 n2 ys S sn sc sg O3 n3 zs (w2.alloc (.cells #[.slice S sn sc] 26)) := by
      have bb : Below w2.heap.size w2 (w2.alloc (.cells #[.slice S sn sc] 26)) := (Below.refl _ _).alloc (Nat.le_refl _) _
      exact ⟨(sa.next b2).next bb, (sb.next b2).next bb, ss.next bb, sz.next bb, Row.new _ _ _, next_trans (next_trans b1 b2) bb⟩
    obtain ⟨W, hW⟩ : ∃ W, W = w2.alloc (.cells #[.slice S sn sc] 26) := ⟨_, rfl⟩
    rw [← hW] at T0
    have HW := Lib.hid hW
    have HC := Lib.hid sz.1
    clear sa sb ss sz b1 b2 h' hW
    obtain ⟨p1, hp1⟩ : ∃ p1, lessB xs ys = p1 := ⟨_, rfl⟩
    obtain ⟨p2, hp2⟩ : ∃ p2, lessB ys xs = p2 := ⟨_, rfl⟩
    obtain ⟨p3, hp3⟩ : ∃ p3, decide (xs = ys) = p3 := ⟨_, rfl⟩
    obtain ⟨p4, hp4⟩ : ∃ p4, lessB ys zs = p4 := ⟨_, rfl⟩
    obtain ⟨p5, hp5⟩ : ∃ p5, lessB xs zs = p5 := ⟨_, rfl⟩
    have htri := tri xs ys
    rw [hp1, hp2, hp3] at htri
    have htr : p1 = true → p4 = true → p5 = true := fun e1 e2 => by rw [← hp5]; exact trans xs ys zs (hp1.trans e1) (hp4.trans e2)
    have P1 := Lib.hid hp1
    have P2 := Lib.hid hp2
    have P3 := Lib.hid hp3
    have P4 := Lib.hid hp4
    have P5 := Lib.hid hp5
    have TRI := Lib.hid htri
    have TR := Lib.hid htr
    clear hp1 hp2 hp3 hp4 hp5 htri htr
    go_wp2_with fail
    rw [← HW.out]
    refine (implLess O1 O2 n1 n2 c1 c2 xs ys W T0.a T0.b (by omega) (by omega)).mono ?_
    rintro e w' ⟨he, d1, rfl⟩
    rw [P1.out] at he
    subst he
    have T1 := T0.drewN d1
    clear T0
    generalize W.drewN d1 = W1 at *
    go_wp2_with fail
    refine (specLess O1 O2 n1 n2 c1 c2 xs ys _ T1.a T1.b (by omega) (by omega)).mono ?_
    rintro e w' ⟨he, d2, rfl⟩
    rw [P1.out] at he
    subst he
    have T2 := T1.drewN d2
    clear T1
    generalize W1.drewN d2 = W2 at *
    have e1 : (p1 != p1) = false := by simp
    have e3 : (p3 != p3) = false := by simp
    go_wp2_with fail
    refine (implSame O1 O2 n1 n2 c1 c2 xs ys _ T2.a T2.b (by omega) (by omega)).mono ?_
    rintro e w' ⟨he, d3, rfl⟩
    rw [P3.out] at he
    subst he
    have T3 := T2.drewN d3
    clear T2
    generalize W2.drewN d3 = W3 at *
    go_wp2_with fail
    refine (specSame O1 O2 n1 n2 c1 c2 xs ys _ T3.a T3.b (by omega) (by omega)).mono ?_
    rintro e w' ⟨he, d4, rfl⟩
    rw [P3.out] at he
    subst he
    have T4 := T3.drewN d4
    clear T3
    generalize W3.drewN d4 = W4 at *
    have cV : W4.cell? ⟨w2.heap.size, 0, none⟩ = some (.slice S sn sc) := T4.r.cell 0
    rcases TRI.out with ⟨rfl, rfl, rfl⟩ | ⟨rfl, rfl, rfl⟩ | ⟨rfl, rfl, rfl⟩
    · go_wp2_with fail
      refine (implLess O2 O1 n2 n1 c2 c1 ys xs W4 T4.b T4.a (by omega) (by omega)).mono ?_
      rintro e w' ⟨he, d5, rfl⟩
      rw [P2.out] at he
      subst he
      have T5 := T4.drewN d5
      clear T4 cV
      generalize W4.drewN d5 = W5 at *
      go_wp2_with fail
      refine (implSame O1 O2 n1 n2 c1 c2 xs ys W5 T5.a T5.b (by omega) (by omega)).mono ?_
      rintro e w' ⟨he, d6, rfl⟩
      rw [P3.out] at he
      subst he
      have T6 := T5.drewN d6
      clear T5
      generalize W5.drewN d6 = W6 at *
      have H0 : HeadSum w w2.heap.size O1 n1 xs O2 n2 ys S sn sc sg O3 n3 zs (.int .i64 0) (.int .i64 (-24)) W6 := ⟨0, by omega, rfl, rfl, T6⟩
      have HH := Lib.hid H0
      clear H0 T6
      go_wp2_with fail
      go_loopw [9, 10] (fun many i wr => HeadSum w w2.heap.size O1 n1 xs O2 n2 ys S sn sc sg O3 n3 zs many i wr) (fun _ i _ => (8 - intOf i).toNat)
      case atStart => exact HH.out
      case round =>
        obtain ⟨k, hk, rfl, rfl, T⟩ := hrel
        clear HH
        have cV : wr.cell? ⟨w2.heap.size, 0, none⟩ = some (.slice S sn sc) := T.r.cell 0
        have hb := sumC_bd (sg := sg) HC.out k
        have hb2 : (k : Int) * (n3 : Int) ≤ 32 * 65 := Int.mul_le_mul (by omega) (by omega) (by omega) (by omega)
        have hb0 := hb.1
        have hb1 : sumC sg zs k ≤ 2080 := by omega
        clear hb hb2
        by_cases hlt : k < 32
        · have hcb := countI_bd (sg := sg) HC.out (-24 + (k : Int))
          have hc0 := hcb.1
          have hc1 : countI sg zs (-24 + (k : Int)) ≤ 65 := by omega
          go_wp2_with fail
          refine (implCountOf S O3 sn sc n3 c3 sg zs (-24 + (k : Int)) wr T.s T.c (by omega) (by omega) (by omega) (by omega)).mono ?_
          rintro e w7 ⟨rfl, bb⟩
          have F : HeadSum w w2.heap.size O1 n1 xs O2 n2 ys S sn sc sg O3 n3 zs (.int .i64 (sumC sg zs k + countI sg zs (-24 + (k : Int)))) (.int .i64 (-24 + (k : Int) + 1)) w7 :=
            ⟨k + 1, hlt, congrArg (Value.int .i64) (by omega), rfl, T.next bb⟩
          have HF := Lib.hid F
          clear F T bb cV hcb P1 P2 P3 P4 P5 TRI TR
          generalize sumC sg zs k = s0 at *
          generalize countI sg zs (-24 + (k : Int)) = s1 at *
          go_wp2
          go_roundw
          case rel => exact HF.out
          case measure => simp [intOf]; omega
        · have hk32 : k = 32 := by omega
          subst hk32
          have hsum : termOkB sg zs = true → sumC sg zs 32 = (n3 : Int) := fun e => by rw [sumC_len e, HC.out]
          have HSUM := Lib.hid hsum
          clear hsum
          go_wp2_with fail
          refine (specTermOk S O3 sn sc n3 c3 sg zs wr T.s T.c (by omega) (by omega)).mono ?_
          rintro e W8 ⟨he, bb⟩
          have T8 := T.next bb
          clear T bb cV
          cases hok : termOkB sg zs with
          | true =>
            rw [hok] at he
            subst he
            have es := HSUM.out hok
            rw [es]
            clear es hok HSUM hb0 hb1
            have en : ((n3 : Int) != (n3 : Int)) = false := by simp
            go_wp2_with fail
            refine (implLess O2 O3 n2 n3 c2 c3 ys zs W8 T8.b T8.c (by omega) (by omega)).mono ?_
            rintro e w' ⟨he, d8, rfl⟩
            rw [P4.out] at he
            subst he
            have T9 := T8.drewN d8
            clear T8
            generalize W8.drewN d8 = W9 at *
            cases p4 with
            | false =>
              have HF := Lib.hid T9.bel
              clear T9 P1 P2 P3 P4 P5 TRI TR
              go_wp2
              go_ret
              exact ⟨rfl, HF.out⟩
            | true =>
              have e5 : p5 = true := TR.out (by simp) (by simp)
              subst e5
              go_wp2_with fail
              refine (implLess O1 O3 n1 n3 c1 c3 xs zs W9 T9.a T9.c (by omega) (by omega)).mono ?_
              rintro e w' ⟨he, d9, rfl⟩
              rw [P5.out] at he
              subst he
              have HF := Lib.hid (T9.drewN d9).bel
              clear T9 P1 P2 P3 P4 P5 TRI TR
              go_wp2
              go_ret
              exact ⟨rfl, HF.out⟩
          | false =>
            rw [hok] at he
            subst he
            clear hok HSUM
            generalize sumC sg zs 32 = s0 at *
            go_wp2_with fail
            refine (implLess O2 O3 n2 n3 c2 c3 ys zs W8 T8.b T8.c (by omega) (by omega)).mono ?_
            rintro e w' ⟨he, d8, rfl⟩
            rw [P4.out] at he
            subst he
            have T9 := T8.drewN d8
            clear T8
            generalize W8.drewN d8 = W9 at *
            cases p4 with
            | false =>
              have HF := Lib.hid T9.bel
              clear T9 P1 P2 P3 P4 P5 TRI TR
              go_wp2
              go_ret
              exact ⟨rfl, HF.out⟩
            | true =>
              have e5 : p5 = true := TR.out (by simp) (by simp)
              subst e5
              go_wp2_with fail
              refine (implLess O1 O3 n1 n3 c1 c3 xs zs W9 T9.a T9.c (by omega) (by omega)).mono ?_
              rintro e w' ⟨he, d9, rfl⟩
              rw [P5.out] at he
              subst he
              have HF := Lib.hid (T9.drewN d9).bel
              clear T9 P1 P2 P3 P4 P5 TRI TR
              go_wp2
              go_ret
              exact ⟨rfl, HF.out⟩
    · go_wp2_with fail
      refine (implLess O2 O1 n2 n1 c2 c1 ys xs W4 T4.b T4.a (by omega) (by omega)).mono ?_
      rintro e w' ⟨he, d5, rfl⟩
      rw [P2.out] at he
      subst he
      have T5 := T4.drewN d5
      clear T4 cV
      generalize W4.drewN d5 = W5 at *
      go_wp2_with fail
      refine (implSame O1 O2 n1 n2 c1 c2 xs ys W5 T5.a T5.b (by omega) (by omega)).mono ?_
      rintro e w' ⟨he, d6, rfl⟩
      rw [P3.out] at he
      subst he
      have T6 := T5.drewN d6
      clear T5
      generalize W5.drewN d6 = W6 at *
      have H0 : HeadSum w w2.heap.size O1 n1 xs O2 n2 ys S sn sc sg O3 n3 zs (.int .i64 0) (.int .i64 (-24)) W6 := ⟨0, by omega, rfl, rfl, T6⟩
      have HH := Lib.hid H0
      clear H0 T6
      go_wp2_with fail
      go_loopw [9, 10] (fun many i wr => HeadSum w w2.heap.size O1 n1 xs O2 n2 ys S sn sc sg O3 n3 zs many i wr) (fun _ i _ => (8 - intOf i).toNat)
      case atStart => exact HH.out
      case round =>
        obtain ⟨k, hk, rfl, rfl, T⟩ := hrel
        clear HH
        have cV : wr.cell? ⟨w2.heap.size, 0, none⟩ = some (.slice S sn sc) := T.r.cell 0
        have hb := sumC_bd (sg := sg) HC.out k
        have hb2 : (k : Int) * (n3 : Int) ≤ 32 * 65 := Int.mul_le_mul (by omega) (by omega) (by omega) (by omega)
        have hb0 := hb.1
        have hb1 : sumC sg zs k ≤ 2080 := by omega
        clear hb hb2
        by_cases hlt : k < 32
        · have hcb := countI_bd (sg := sg) HC.out (-24 + (k : Int))
          have hc0 := hcb.1
          have hc1 : countI sg zs (-24 + (k : Int)) ≤ 65 := by omega
          go_wp2_with fail
          refine (implCountOf S O3 sn sc n3 c3 sg zs (-24 + (k : Int)) wr T.s T.c (by omega) (by omega) (by omega) (by omega)).mono ?_
          rintro e w7 ⟨rfl, bb⟩
          have F : HeadSum w w2.heap.size O1 n1 xs O2 n2 ys S sn sc sg O3 n3 zs (.int .i64 (sumC sg zs k + countI sg zs (-24 + (k : Int)))) (.int .i64 (-24 + (k : Int) + 1)) w7 :=
            ⟨k + 1, hlt, congrArg (Value.int .i64) (by omega), rfl, T.next bb⟩
          have HF := Lib.hid F
          clear F T bb cV hcb P1 P2 P3 P4 P5 TRI TR
          generalize sumC sg zs k = s0 at *
          generalize countI sg zs (-24 + (k : Int)) = s1 at *
          go_wp2
          go_roundw
          case rel => exact HF.out
          case measure => simp [intOf]; omega
        · have hk32 : k = 32 := by omega
          subst hk32
          have hsum : termOkB sg zs = true → sumC sg zs 32 = (n3 : Int) := fun e => by rw [sumC_len e, HC.out]
          have HSUM := Lib.hid hsum
          clear hsum
          go_wp2_with fail
          refine (specTermOk S O3 sn sc n3 c3 sg zs wr T.s T.c (by omega) (by omega)).mono ?_
          rintro e W8 ⟨he, bb⟩
          have T8 := T.next bb
          clear T bb cV
          cases hok : termOkB sg zs with
          | true =>
            rw [hok] at he
            subst he
            have es := HSUM.out hok
            rw [es]
            clear es hok HSUM hb0 hb1
            have en : ((n3 : Int) != (n3 : Int)) = false := by simp
            have HF := Lib.hid T8.bel
            clear T8 P1 P2 P3 P4 P5 TRI TR
            go_wp2
            go_ret
            exact ⟨rfl, HF.out⟩
          | false =>
            rw [hok] at he
            subst he
            clear hok HSUM
            generalize sumC sg zs 32 = s0 at *
            have HF := Lib.hid T8.bel
            clear T8 P1 P2 P3 P4 P5 TRI TR
            go_wp2
            go_ret
            exact ⟨rfl, HF.out⟩
    · go_wp2_with fail
      refine (implLess O2 O1 n2 n1 c2 c1 ys xs W4 T4.b T4.a (by omega) (by omega)).mono ?_
      rintro e w' ⟨he, d5, rfl⟩
      rw [P2.out] at he
      subst he
      have T5 := T4.drewN d5
      clear T4 cV
      generalize W4.drewN d5 = W5 at *
      go_wp2_with fail
      refine (implSame O1 O2 n1 n2 c1 c2 xs ys W5 T5.a T5.b (by omega) (by omega)).mono ?_
      rintro e w' ⟨he, d6, rfl⟩
      rw [P3.out] at he
      subst he
      have T6 := T5.drewN d6
      clear T5
      generalize W5.drewN d6 = W6 at *
      have H0 : HeadSum w w2.heap.size O1 n1 xs O2 n2 ys S sn sc sg O3 n3 zs (.int .i64 0) (.int .i64 (-24)) W6 := ⟨0, by omega, rfl, rfl, T6⟩
      have HH := Lib.hid H0
      clear H0 T6
      go_wp2_with fail
      go_loopw [9, 10] (fun many i wr => HeadSum w w2.heap.size O1 n1 xs O2 n2 ys S sn sc sg O3 n3 zs many i wr) (fun _ i _ => (8 - intOf i).toNat)
      case atStart => exact HH.out
      case round =>
        obtain ⟨k, hk, rfl, rfl, T⟩ := hrel
        clear HH
        have cV : wr.cell? ⟨w2.heap.size, 0, none⟩ = some (.slice S sn sc) := T.r.cell 0
        have hb := sumC_bd (sg := sg) HC.out k
        have hb2 : (k : Int) * (n3 : Int) ≤ 32 * 65 := Int.mul_le_mul (by omega) (by omega) (by omega) (by omega)
        have hb0 := hb.1
        have hb1 : sumC sg zs k ≤ 2080 := by omega
        clear hb hb2
        by_cases hlt : k < 32
        · have hcb := countI_bd (sg := sg) HC.out (-24 + (k : Int))
          have hc0 := hcb.1
          have hc1 : countI sg zs (-24 + (k : Int)) ≤ 65 := by omega
          go_wp2_with fail
          refine (implCountOf S O3 sn sc n3 c3 sg zs (-24 + (k : Int)) wr T.s T.c (by omega) (by omega) (by omega) (by omega)).mono ?_
          rintro e w7 ⟨rfl, bb⟩
          have F : HeadSum w w2.heap.size O1 n1 xs O2 n2 ys S sn sc sg O3 n3 zs (.int .i64 (sumC sg zs k + countI sg zs (-24 + (k : Int)))) (.int .i64 (-24 + (k : Int) + 1)) w7 :=
            ⟨k + 1, hlt, congrArg (Value.int .i64) (by omega), rfl, T.next bb⟩
          have HF := Lib.hid F
          clear F T bb cV hcb P1 P2 P3 P4 P5 TRI TR
          generalize sumC sg zs k = s0 at *
          generalize countI sg zs (-24 + (k : Int)) = s1 at *
          go_wp2
          go_roundw
          case rel => exact HF.out
          case measure => simp [intOf]; omega
        · have hk32 : k = 32 := by omega
          subst hk32
          have hsum : termOkB sg zs = true → sumC sg zs 32 = (n3 : Int) := fun e => by rw [sumC_len e, HC.out]
          have HSUM := Lib.hid hsum
          clear hsum
          go_wp2_with fail
          refine (specTermOk S O3 sn sc n3 c3 sg zs wr T.s T.c (by omega) (by omega)).mono ?_
          rintro e W8 ⟨he, bb⟩
          have T8 := T.next bb
          clear T bb cV
          cases hok : termOkB sg zs with
          | true =>
            rw [hok] at he
            subst he
            have es := HSUM.out hok
            rw [es]
            clear es hok HSUM hb0 hb1
            have en : ((n3 : Int) != (n3 : Int)) = false := by simp
            have HF := Lib.hid T8.bel
            clear T8 P1 P2 P3 P4 P5 TRI TR
            go_wp2
            go_ret
            exact ⟨rfl, HF.out⟩
          | false =>
            rw [hok] at he
            subst he
            clear hok HSUM
            generalize sumC sg zs 32 = s0 at *
            have HF := Lib.hid T8.bel
            clear T8 P1 P2 P3 P4 P5 TRI TR
            go_wp2
            go_ret
            exact ⟨rfl, HF.out⟩
  · have LB := Lib.hid (bigAns A n c true w (by simp; omega) hN)
    clear h
    go_enter Try.func4, Try.ntmps4
    go_wp2_with fail
    refine LB.out.mono ?_
    rintro e w' ⟨rfl, rfl⟩
    clear LB
    go_wp2
    go_ret
    exact ⟨rfl, Below.refl _ _⟩
end Go.Proofs.Ytadajlchoongcaa.wFnLess
