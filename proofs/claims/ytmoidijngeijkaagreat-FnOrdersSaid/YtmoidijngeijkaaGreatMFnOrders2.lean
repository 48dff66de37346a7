/-
  MERGED: my texts DrawTermW, AppAt, Segs, SegsHelp, SegsMark, Kinds, Shape, Shape2, DrawAny, DrawX, KindsR, Copy, Vars, AnsB, VarsOf, CountL, Linear, RenMath, RuleMath, Rename, Same, RuleSpec, one behind the other, as they are. By an AI agent.
-/
import Derived.Test.YtmoidijngeijkaaGreatMFnOrders1
import Derived.Maps.AppendAt
import Derived.Deep.QuietTactic
import Derived.BigQuiet
import Derived.Deep.RegionHeld3
import Derived.Deep.AppendLies
import Derived.WalkSpells
namespace Go.Proofs.YtmoidijngeijkaaGreat
section
open Go.Lib (hid)
namespace drawTermW
open Go.RowKit base ints sig term cursor marks app sym dice drawSig drawTerm fillMath
def PartT (sg xs : List Int) (q : Nat) : Prop := ∀ (ys : List Int) (j : Nat), scan sg q ys = some j → scan sg 1 (xs ++ ys) = some (xs.length + j)
theorem part_one {sg : List Int} {x : Int} {q : Nat} (h : ar sg x = (q : Int)) : PartT sg [x] q := fun ys j hj => by
 show scan sg (0 + 1) (x :: ys) = _
 rw [scan_step (by omega), h, Int.toNat_natCast, Nat.zero_add, hj]
 simp [Nat.add_comm]
theorem PartT.step {sg xs ys : List Int} {q : Nat} (h : PartT sg xs (q + 1)) (hy : scan sg 1 ys = some ys.length) : PartT sg (xs ++ ys) q := fun zs j hj => by
 have h1 := scan_join hy hj
 rw [Nat.add_comm 1 q] at h1
 have h2 := h _ _ h1
 rw [List.append_assoc, h2, List.length_append]
 simp [Nat.add_assoc]
theorem PartT.done {sg xs : List Int} (h : PartT sg xs 0) : scan sg 1 xs = some xs.length := by simpa using h [] 0 (scan_zero _ _)
def AnsTW (w : World) (p : Nat) (A : Option Addr) (n c L : Nat) (sg : List Int) (e : Ending) (w' : World) : Prop :=
 ∃ O on oc xs, e = .returned (.slice O on oc) ∧ Own w' w.heap.size (.slice O on oc) xs ∧ 1 ≤ on ∧ on ≤ L ∧ scan sg 1 xs = some xs.length ∧ Dice w' p A n c ∧ w.grownBy w' (some p)
theorem leafW {w : World} {p : Nat} {A : Option Addr} {n c L : Nat} {S : Option Addr} {sn sc : Nat} {sg : List Int} {u : World} (t : DT w p A n c S sn sc sg u) (hL : 1 ≤ L) (y : Int) (hy : ar sg y = 0) :
  AnsTW w p A n c L sg (.returned (.slice (some ⟨u.heap.size, 0, none⟩) 1 1)) (u.alloc (.cells #[.int .i64 y] 2)) := by
 have hz := t.g.size
 refine ⟨_, _, _, [y], rfl, Own.of_row (Row.new _ _ _) rfl rfl (Nat.le_refl _) (by omega) hz (fun j hj => by match j, hj with | 0, _ => rfl), Nat.le_refl _, hL, (part_one (q := 0) hy).done, t.d.alloc _, ?_⟩
 exact ⟨t.g.os, t.g.tape, t.g.output, by simp; omega, fun i hi hne => (Below.heap_alloc u _ i (by omega)).trans (t.g.block i hi hne)⟩
def HeadTW (w : World) (p : Nat) (A : Option Addr) (n c : Nat) (S : Option Addr) (sn sc : Nat) (sg : List Int) (M : Nat) (out k : Value) (wr : World) : Prop :=
 ∃ (q : Nat) (O : Option Addr) (on oc : Nat) (xs : List Int), k = .int .i64 q ∧ q ≤ 3 ∧ out = .slice O on oc ∧ Own wr (w.heap.size + 1) (.slice O on oc) xs ∧ 1 ≤ on ∧ on + q * M ≤ 1 + 3 * M ∧ PartT sg xs q ∧ DT w p A n c S sn sc sg wr
set_option maxHeartbeats 4000000 in
theorem drawTermW (p : Nat) (A : Option Addr) (n c : Nat) (S : Option Addr) (sn sc : Nat) (sg : List Int) (vars : Int) (hs : Arities sg) (hn1 : 1 ≤ sn) (hn2 : sn ≤ 256) (hv0 : 1 ≤ vars) (hv1 : vars ≤ 24) : ∀ (f0 : Nat) (depth : Int) (w : World),
  Dice w p A n c → Rd w p w.heap.size S sn sg → f0 ≤ 4 → -1000 ≤ depth → depth ≤ (f0 : Int) + 1 →
  Calls Tryz.prog 109 #[.pointer (some ⟨p, 0, none⟩), .agg #[.slice S sn sc], .int .i64 depth, .int .i64 vars] w (AnsTW w p A n c (4 ^ f0) sg) := by
 intro f0
 induction f0 with
 | zero =>
  intro depth w hd hr hf hlo hdep
  obtain ⟨LL, hLe⟩ : ∃ LL, 4 ^ 0 = LL := ⟨_, rfl⟩
  have hLL : 1 ≤ LL := by rw [← hLe]; exact one_le_four 0
  rw [hLe]
  clear hLe
  have T0 := DT.start (sc := sc) hd hr
  have hz : depth ≤ 1 := by omega
  obtain ⟨W, hW⟩ : ∃ W, W = w.alloc (.cells #[.slice S sn sc] 26) := ⟨_, rfl⟩
  rw [← hW] at T0
  have HW := hid hW
  clear hd hr hW
  go_enter Tryz.func109, Tryz.ntmps109
  go_wp2_with fail
  rw [← HW.out]
  have cS : W.cell? ⟨w.heap.size, 0, none⟩ = some (.slice S sn sc) := T0.r.cell 0
  go_wp2_with fail
  refine (once p A n c 2 _ T0.d (by omega) (by omega)).mono ?_
  rintro e u1 ⟨b, rfl, d1, g1⟩
  have T1 := T0.dice d1 g1
  clear d1 g1 cS T0
  cases b with
  | true =>
   go_wp2_with fail
   refine (below p A n c vars _ T1.d hv0 (by omega)).mono ?_
   rintro e u2 ⟨x, rfl, x0, x1, d2, g2⟩
   have F := hid (leafW (T1.dice d2 g2) hLL (-1 - x) (ar_var (by omega)))
   clear T1 d2 g2
   go_wp2
   go_ret
   exact F.out
  | false =>
   have cS1 : u1.cell? ⟨w.heap.size, 0, none⟩ = some (.slice S sn sc) := T1.r.cell 0
   go_wp2_with fail
   go_loop [9] (fun i => ∃ k : Nat, k ≤ sn ∧ i = .int .i64 ((k : Int) - 1)) (fun i => (intOf i + 1).toNat)
   case atStart => exact ⟨sn, Nat.le_refl _, rfl⟩
   case round =>
    obtain ⟨k, hk, rfl⟩ := hrel
    by_cases hk0 : k = 0
    ·subst hk0
     have F := hid (leafW T1 hLL (-1) (ar_var (by omega)))
     clear T1
     go_wp2
     go_ret
     exact F.out
    ·obtain ⟨k1, rfl⟩ : ∃ k1, k = k1 + 1 := ⟨k - 1, by omega⟩
     obtain ⟨b, off, y, rfl, hb, hy, ey⟩ := T1.s.seg.spot (show k1 < sn by omega)
     by_cases hy0 : y = 0
     ·subst hy0
      have F := hid (leafW T1 hLL (k1 : Int) (by rw [ar_sym (by omega) (by have := T1.s.1; omega)]; simpa using ey.out))
      clear T1 ey
      go_wp2
      go_ret
      exact F.out
     ·have e2 : (y == 0) = false := by simp [hy0]
      clear T1 ey
      go_wp2
      go_round
      case rel => exact ⟨k1, by omega, congrArg (Value.int .i64) (by omega)⟩
      case measure => first | (simp [intOf]; done) | (simp [intOf]; omega)
 | succ f ih =>
  intro depth w hd hr hf hlo hdep
  have IH := hid ih
  clear ih
  obtain ⟨M, hM⟩ : ∃ M, 4 ^ f = M := ⟨_, rfl⟩
  have hM1 : 1 ≤ M := by rw [← hM]; exact one_le_four f
  have hM2 : M ≤ 64 := by rw [← hM]; exact Nat.pow_le_pow_right (n := 4) (by omega) (show f ≤ 3 by omega)
  obtain ⟨LL, hLe⟩ : ∃ LL, 4 ^ (f + 1) = LL := ⟨_, rfl⟩
  have hLM : LL = 4 * M := by rw [← hLe, ← hM, Nat.pow_succ, Nat.mul_comm]
  have hLL : 1 ≤ LL := by omega
  rw [hLe]
  rw [hM] at IH
  clear hLe hM
  have HLM := hid hLM
  clear hLM
  have T0 := DT.start (sc := sc) hd hr
  obtain ⟨W, hW⟩ : ∃ W, W = w.alloc (.cells #[.slice S sn sc] 26) := ⟨_, rfl⟩
  rw [← hW] at T0
  have HW := hid hW
  clear hd hr hW
  by_cases hz : depth ≤ 1
  ·go_enter Tryz.func109, Tryz.ntmps109
   go_wp2_with fail
   rw [← HW.out]
   have cS : W.cell? ⟨w.heap.size, 0, none⟩ = some (.slice S sn sc) := T0.r.cell 0
   go_wp2_with fail
   refine (once p A n c 2 _ T0.d (by omega) (by omega)).mono ?_
   rintro e u1 ⟨b, rfl, d1, g1⟩
   have T1 := T0.dice d1 g1
   clear d1 g1 cS T0
   cases b with
   | true =>
    go_wp2_with fail
    refine (below p A n c vars _ T1.d hv0 (by omega)).mono ?_
    rintro e u2 ⟨x, rfl, x0, x1, d2, g2⟩
    have F := hid (leafW (T1.dice d2 g2) hLL (-1 - x) (ar_var (by omega)))
    clear T1 d2 g2
    go_wp2
    go_ret
    exact F.out
   | false =>
    have cS1 : u1.cell? ⟨w.heap.size, 0, none⟩ = some (.slice S sn sc) := T1.r.cell 0
    go_wp2_with fail
    go_loop [9] (fun i => ∃ k : Nat, k ≤ sn ∧ i = .int .i64 ((k : Int) - 1)) (fun i => (intOf i + 1).toNat)
    case atStart => exact ⟨sn, Nat.le_refl _, rfl⟩
    case round =>
     obtain ⟨k, hk, rfl⟩ := hrel
     by_cases hk0 : k = 0
     ·subst hk0
      have F := hid (leafW T1 hLL (-1) (ar_var (by omega)))
      clear T1
      go_wp2
      go_ret
      exact F.out
     ·obtain ⟨k1, rfl⟩ : ∃ k1, k = k1 + 1 := ⟨k - 1, by omega⟩
      obtain ⟨b, off, y, rfl, hb, hy, ey⟩ := T1.s.seg.spot (show k1 < sn by omega)
      by_cases hy0 : y = 0
      ·subst hy0
       have F := hid (leafW T1 hLL (k1 : Int) (by rw [ar_sym (by omega) (by have := T1.s.1; omega)]; simpa using ey.out))
       clear T1 ey
       go_wp2
       go_ret
       exact F.out
      ·have e2 : (y == 0) = false := by simp [hy0]
       clear T1 ey
       go_wp2
       go_round
       case rel => exact ⟨k1, by omega, congrArg (Value.int .i64) (by omega)⟩
       case measure => first | (simp [intOf]; done) | (simp [intOf]; omega)
  ·have hz1 : (1 : Int) < depth := by omega
   go_enter Tryz.func109, Tryz.ntmps109
   go_wp2_with fail
   rw [← HW.out]
   refine (once p A n c 4 _ T0.d (by omega) (by omega)).mono ?_
   rintro e u0 ⟨b, rfl, d0, g0⟩
   have T2 := T0.dice d0 g0
   clear d0 g0 T0
   cases b with
   | true =>
    have cS : u0.cell? ⟨w.heap.size, 0, none⟩ = some (.slice S sn sc) := T2.r.cell 0
    go_wp2_with fail
    refine (once p A n c 2 _ T2.d (by omega) (by omega)).mono ?_
    rintro e u1 ⟨b, rfl, d1, g1⟩
    have T1 := T2.dice d1 g1
    clear d1 g1 cS T2
    cases b with
    | true =>
     go_wp2_with fail
     refine (below p A n c vars _ T1.d hv0 (by omega)).mono ?_
     rintro e u2 ⟨x, rfl, x0, x1, d2, g2⟩
     have F := hid (leafW (T1.dice d2 g2) hLL (-1 - x) (ar_var (by omega)))
     clear T1 d2 g2
     go_wp2
     go_ret
     exact F.out
    | false =>
     have cS1 : u1.cell? ⟨w.heap.size, 0, none⟩ = some (.slice S sn sc) := T1.r.cell 0
     go_wp2_with fail
     go_loop [9] (fun i => ∃ k : Nat, k ≤ sn ∧ i = .int .i64 ((k : Int) - 1)) (fun i => (intOf i + 1).toNat)
     case atStart => exact ⟨sn, Nat.le_refl _, rfl⟩
     case round =>
      obtain ⟨k, hk, rfl⟩ := hrel
      by_cases hk0 : k = 0
      ·subst hk0
       have F := hid (leafW T1 hLL (-1) (ar_var (by omega)))
       clear T1
       go_wp2
       go_ret
       exact F.out
      ·obtain ⟨k1, rfl⟩ : ∃ k1, k = k1 + 1 := ⟨k - 1, by omega⟩
       obtain ⟨b, off, y, rfl, hb, hy, ey⟩ := T1.s.seg.spot (show k1 < sn by omega)
       by_cases hy0 : y = 0
       ·subst hy0
        have F := hid (leafW T1 hLL (k1 : Int) (by rw [ar_sym (by omega) (by have := T1.s.1; omega)]; simpa using ey.out))
        clear T1 ey
        go_wp2
        go_ret
        exact F.out
       ·have e2 : (y == 0) = false := by simp [hy0]
        clear T1 ey
        go_wp2
        go_round
        case rel => exact ⟨k1, by omega, congrArg (Value.int .i64) (by omega)⟩
        case measure => first | (simp [intOf]; done) | (simp [intOf]; omega)
   | false =>
    have cS : u0.cell? ⟨w.heap.size, 0, none⟩ = some (.slice S sn sc) := T2.r.cell 0
    go_wp2_with fail
    refine (below p A n c (sn : Int) _ T2.d (by omega) (by omega)).mono ?_
    rintro e u1 ⟨x, rfl, x0, x1, d1, g1⟩
    obtain ⟨k, rfl⟩ := Int.eq_ofNat_of_zero_le x0
    have T3 := T2.dice d1 g1
    have hks : k < sn := by omega
    have hsl := T3.s.1
    obtain ⟨b, off, y, rfl, hb, hy, ey⟩ := T3.s.seg.spot hks
    have hyb := hs k (by omega)
    rw [ey.out] at hyb
    obtain ⟨q, rfl⟩ := Int.eq_ofNat_of_zero_le hyb.1
    have hq3 : q ≤ 3 := by omega
    have T4 : DT w p A n c (some ⟨b, off, none⟩) sn sc sg (u1.alloc (.cells #[.int .i64 (k : Int)] 2)) := T3.below ((Below.refl _ _).alloc (by have := T3.r.lt; omega) _)
    have O4 : Own (u1.alloc (.cells #[.int .i64 (k : Int)] 2)) (w.heap.size + 1) (.slice (some ⟨u1.heap.size, 0, none⟩) 1 1) [(k : Int)] :=
     Own.of_row (Row.new _ _ _) rfl rfl (Nat.le_refl _) (by omega) (by have := T3.r.lt; omega) (fun j hj => by match j, hj with | 0, _ => rfl)
    have H0 : HeadTW w p A n c (some ⟨b, off, none⟩) sn sc sg M (.slice (some ⟨u1.heap.size, 0, none⟩) 1 1) (.int .i64 (q : Int)) (u1.alloc (.cells #[.int .i64 (k : Int)] 2)) :=
     ⟨q, _, _, _, _, rfl, hq3, rfl, O4, Nat.le_refl _, by have := Nat.mul_le_mul_right M hq3; omega, part_one (by rw [ar_sym (by omega) (by omega)]; simpa using ey.out), T4⟩
    have HH := hid H0
    have cS1 : u1.cell? ⟨w.heap.size, 0, none⟩ = some (.slice (some ⟨b, off, none⟩) sn sc) := T3.r.cell 0
    have zN : w.heap.size < u1.heap.size := T3.r.lt
    have zb : b < u1.heap.size := by omega
    have i1 : (k : Int) < (sn : Int) := by omega
    clear H0 T4 O4 T3 T2 d1 g1 cS ey hsl hyb
    go_wp2_with fail
    go_loopw [11, 12] (fun out kk wr => HeadTW w p A n c (some ⟨b, off, none⟩) sn sc sg M out kk wr) (fun _ kk _ => (intOf kk).toNat)
    case atStart => exact HH.out
    case round =>
     obtain ⟨q, O, on, oc, xs, rfl, hq3, rfl, ho, ho1, hoM, PT, T⟩ := hrel
     have PP := hid PT
     clear PT
     clear HH
     have cS : wr.cell? ⟨w.heap.size, 0, none⟩ = some (.slice (some ⟨b, off, none⟩) sn sc) := T.r.cell 0
     cases q with
     | zero =>
      have F : AnsTW w p A n c LL sg (.returned (.slice O on oc)) wr := ⟨O, on, oc, xs, rfl, Own.lower ho (Nat.le_succ _), ho1, by have := HLM.out; omega, PP.out.done, T.d, T.g⟩
      have HF := hid F
      clear F T ho
      go_wp2
      go_ret
      exact HF.out
     | succ q =>
      have e0 : (0 : Int) < ((q + 1 : Nat) : Int) := by omega
      have hoM' : on + q * M + M ≤ 1 + 3 * M := by have e : (q + 1) * M = q * M + M := Nat.succ_mul q M; omega
      have hon : on ≤ 193 := by have := Nat.zero_le (q * M); omega
      go_wp2_with fail
      refine (IH.out (depth - 1) wr T.d (T.s.more T.g.size) (by omega) (by omega) (by omega)).mono ?_
      rintro e u2 ⟨O2, on2, oc2, ys, rfl, o2, h1, h2, sc2, d2, g2⟩
      have PP2 := hid (PP.out.step sc2)
      clear sc2
      have T2 := T.dice d2 g2
      have ho2 := Own.far ho g2 (fun k hk => by injection hk; have := T.hp; omega)
      have z2 := T2.r.lt
      clear ho T d2 g2 cS
      go_wp2_with (at_builtin; refine appAll rfl _ _ rfl (w.heap.size + 1) O on oc xs rfl ho2 O2 on2 oc2 u2.heap.size ys rfl (Own.seg o2) (Own.none_cap o2) (by omega) (by omega) (by omega) ?_; intro O3 oc3 u3 ho3 b3)
      have F : HeadTW w p A n c (some ⟨b, off, none⟩) sn sc sg M (.slice O3 (on + on2) oc3) (.int .i64 (q : Int)) u3 := ⟨q, O3, on + on2, oc3, _, rfl, by omega, rfl, ho3, by omega, by omega, PP2.out, T2.below b3⟩
      have HF := hid F
      clear F ho3 b3 T2 ho2 o2
      go_wp2
      go_roundw
      case rel => first | exact HF.out | simpa using HF.out
      case measure => simp [intOf]
end drawTermW
end
section
namespace appAt
open Go.RowKit base ints marks app
set_option maxRecDepth 100000
theorem blk_own (A : Option Addr) (n c : Nat) : (Value.slice A n c).ownBlock = blk A := by cases A <;> rfl
theorem appAllAt {w : World} {ops : Array Oper} {rest : List Oper} {o : Oper} {a : Act} {Q : Exit → Act → World → Prop} (hgd : o.guard = none) (s x : Operand)
  (ho : o.op = .call { callee := .builtin .append, args := #[s, x], argTypes := #[24, 24] })
  (base : Nat) (A : Option Addr) (n c : Nat) (xs : List Int) (hs : a.eval s = .slice A n c) (hown : Own w base (.slice A n c) xs)
  (S : Option Addr) (m c2 B : Nat) (ys : List Int) (hx : a.eval x = .slice S m c2) (hseg : Seg w B S m ys) (hm1 : 1 ≤ m) (hn : n ≤ 2097152) (hm : m ≤ 2097152) (hbase : base ≤ w.heap.size)
  (h : ∀ A' c' w', Own w' base (.slice A' (n + m) c') (xs ++ ys) → w.grownBy w' (blk A) → (blk A' = blk A ∨ blk A' = some w.heap.size) → wpList Tryz.prog ops Q rest (a.put o.dst (.slice A' (n + m) c')) w') : wpList Tryz.prog ops Q (o :: rest) a w := by
 obtain ⟨i0, hi, hz0, hz1, hz2⟩ := info_parts info_i64
 have hl : xs.length = n := by
  obtain ⟨A', c', e⟩ := hown.slice
  injection e with _ e _
  exact e.symm
 have ho1 : w.ownsRow base 2 1 (.slice A n c) n (xs.map (Value.int .i64)) := by rw [← hl]; rw [← hl] at hown; exact hown
 obtain ⟨b, off, e, _, hc⟩ := hseg.2 (by omega)
 subst e
 refine wpList_append_own_at w hgd s x 24 ho base 2 i0 (.int .i64 0) 1 8 Tryz.underlying24 hi hz0 hz1 hz2 rfl (by decide) (.slice A n c) n (xs.map (Value.int .i64)) hs ho1
  ⟨b, off, none⟩ m c2 (ys.map (Value.int .i64)) hx (by simp [hseg.1]) (fun j u hj => ?_) (fun u hu => ?_) (by unfold maxLen; omega) (by omega) hbase ?_
 ·have hjl : j < m := by
   have := (List.getElem?_eq_some_iff.1 hj).1
   simp at this
   have := hseg.1
   omega
  have hcj := hc j hjl
  have e2 : (⟨b, off, none⟩ : Addr).add j = ⟨b, off + j, none⟩ := by unfold Addr.add; split <;> simp_all
  rw [e2, hcj, ← hj]
  have := hseg.1
  simp [List.getD, show j < ys.length by omega]
 ·obtain ⟨y, _, rfl⟩ := List.mem_map.1 hu
  rfl
 ·intro v' w' hown' hg _ hat
  rw [← List.map_append] at hown'
  obtain ⟨A', c', rfl, ho'⟩ := own_of hown'
  rw [blk_own] at hg
  rw [blk_own, blk_own] at hat
  exact h A' c' w' ho' hg hat
theorem Own.kept {w w' : World} {base : Nat} {A : Option Addr} {n c : Nat} {xs : List Int} {r : Option Nat} (h : Own w base (.slice A n c) xs) (hg : w.grownBy w' r) (hne : blk A = none ∨ blk A ≠ r) : Own w' base (.slice A n c) xs :=
 World.ownsRow.kept h hg (by rw [blk_own]; exact hne)
end appAt
end
section
namespace segs
open Go.RowKit base ints marks app sym appAt
set_option maxRecDepth 100000
def Cap (A : Option Addr) (n c : Nat) : Prop := n ≤ c ∧ c ≤ 9223372036854775807 ∧ (A = none → c = 0)
def Segs (w : World) (B : Nat) (A : Option Addr) (n : Nat) (xss : List (List Int)) : Prop :=
 xss.length = n ∧ (0 < n → ∃ b off, A = some ⟨b, off, none⟩ ∧ b < B ∧ ∀ j, j < n → ∃ A' n' c', w.cell? ⟨b, off + j, none⟩ = some (.slice A' n' c') ∧ Seg w B A' n' (xss.getD j []) ∧ Cap A' n' c')
section
variable {w w' : World} {B B' n : Nat} {A : Option Addr} {xss : List (List Int)}
theorem Segs.spot (h : Segs w B A n xss) {k : Nat} (hk : k < n) : ∃ b off A' n' c', A = some ⟨b, off, none⟩ ∧ b < B ∧ w.cell? ⟨b, off + k, none⟩ = some (.slice A' n' c') ∧ Seg w B A' n' (xss.getD k []) ∧ Cap A' n' c' := by
 obtain ⟨b, off, e, hb, hc⟩ := h.2 (by omega)
 obtain ⟨A', n', c', h1, h2, h3⟩ := hc k hk
 exact ⟨b, off, A', n', c', e, hb, h1, h2, h3⟩
theorem Segs.keep (h : Segs w B A n xss) (hk : ∀ p : Addr, p.block < B → w'.cell? p = w.cell? p) : Segs w' B A n xss :=
 ⟨h.1, fun hn => by
  obtain ⟨b, off, e, hb, hc⟩ := h.2 hn
  refine ⟨b, off, e, hb, fun j hj => ?_⟩
  obtain ⟨A', n', c', h1, h2, h3⟩ := hc j hj
  exact ⟨A', n', c', (hk ⟨b, off + j, none⟩ hb).trans h1, h2.keep hk, h3⟩⟩
theorem Segs.more (h : Segs w B A n xss) (hB : B ≤ B') : Segs w B' A n xss :=
 ⟨h.1, fun hn => by
  obtain ⟨b, off, e, hb, hc⟩ := h.2 hn
  refine ⟨b, off, e, by omega, fun j hj => ?_⟩
  obtain ⟨A', n', c', h1, h2, h3⟩ := hc j hj
  exact ⟨A', n', c', h1, h2.more hB, h3⟩⟩
theorem Segs.below (h : Segs w B A n xss) (hb : Below B w w') : Segs w' B A n xss := h.keep fun _ hp => hb.cell hp
theorem Segs.next (h : Segs w w.heap.size A n xss) (hb : Below w.heap.size w w') : Segs w' w'.heap.size A n xss := (h.below hb).more hb.size
theorem Segs.drew (h : Segs w B A n xss) : Segs w.drew B A n xss := h
theorem Segs.alloc (h : Segs w B A n xss) (hB : B ≤ w.heap.size) (o : Obj) : Segs (w.alloc o) B A n xss := h.keep fun p hp => World.cell?_alloc_lt w o p (by omega)
structure Btw (lo hi : Nat) (w w' : World) : Prop where
 os : w'.os = w.os
 tape : w'.tape = w.tape
 output : w'.output = w.output
 size : w.heap.size ≤ w'.heap.size
 block : ∀ k, k < w.heap.size → (k < lo ∨ hi ≤ k) → w'.heap[k]? = w.heap[k]?
theorem Btw.trans {lo hi : Nat} {a b c : World} (h : Btw lo hi a b) (k : Btw lo hi b c) : Btw lo hi a c :=
 ⟨k.os.trans h.os, k.tape.trans h.tape, k.output.trans h.output, Nat.le_trans h.size k.size, fun i hi' ho => (k.block i (Nat.lt_of_lt_of_le hi' h.size) ho).trans (h.block i hi' ho)⟩
theorem Btw.of_grown {lo hi : Nat} {r : Option Nat} (h : w.grownBy w' r) (hr : ∀ k, r = some k → lo ≤ k ∧ k < hi) : Btw lo hi w w' :=
 ⟨h.os, h.tape, h.output, h.size, fun k hk ho => h.block k hk (fun e => by have := hr k e.symm; omega)⟩
theorem Btw.below {lo hi : Nat} (h : Btw lo hi w w') (hB : B ≤ lo) (hs : B ≤ w.heap.size) : Below B w w' := ⟨h.os, h.tape, h.output, h.size, fun k hk => h.block k (by omega) (.inl (by omega))⟩
theorem Below.btw {a : World} {lo hi : Nat} (h : Below B a w) (k : Btw lo hi w w') (hB : B ≤ lo) (hs : B ≤ w.heap.size) : Below B a w' := h.trans (k.below hB hs)
theorem Row.btw {g : Nat} {t : TypeId} {cs : Array Value} {lo hi : Nat} (h : Row w g t cs) (hb : Btw lo hi w w') (hg : g < lo ∨ hi ≤ g) : Row w' g t cs := (hb.block g h.lt hg).trans h
theorem Row.ne_ {g g' : Nat} {t t' : TypeId} {cs cs' : Array Value} (h : Row w g t cs) (h' : Row w g' t' cs') (hne : t ≠ t') : g ≠ g' := by
 rintro rfl
 unfold Row at h h'
 rw [h] at h'
 injection h' with h'
 injection h' with _ ht
 exact hne ht
end
def Inn (w : World) (lo hi : Nat) (v : Value) (xs : List Int) : Prop := ∃ A c, v = .slice A xs.length c ∧ Own w lo v xs ∧ ∀ k, blk A = some k → k < hi
def Apart (n : Nat) (vs : List Value) : Prop := ∀ i j k, i < j → j < n → (vs.getD i undef).ownBlock = some k → (vs.getD j undef).ownBlock ≠ some k
structure Owns (w : World) (lo hi : Nat) (A : Option Addr) (n c : Nat) (xss : List (List Int)) : Prop where
 len : xss.length = n
 row : ∃ vs : List Value, w.ownsRow lo 24 1 (.slice A n c) n vs ∧ (∀ j, j < n → Inn w lo hi (vs.getD j undef) (xss.getD j [])) ∧ Apart n vs
 top : ∀ k, blk A = some k → k < hi
section
variable {w w' : World} {lo hi n c : Nat} {A : Option Addr} {xss : List (List Int)}
theorem own_form {base n c : Nat} {A : Option Addr} {vs : List Value} {t : TypeId} (h : w.ownsRow base t 1 (.slice A n c) n vs) : (A = none ∧ n = 0 ∧ c = 0 ∧ vs = []) ∨
  ∃ g cur, A = some ⟨g, 0, none⟩ ∧ base ≤ g ∧ Row w g t cur ∧ n ≤ c ∧ cur.size = c ∧ c ≤ 9223372036854775807 ∧ vs.length = n ∧ ∀ j, j < n → cur[j]? = some (vs.getD j undef) := by
 have hl : vs.length = n := by have := h.1; omega
 obtain ⟨h1, h2⟩ := h
 rcases h2 with ⟨e, h0⟩ | ⟨g, cap, cur, e, hb, hg, hn, hm, hs, ht⟩
 ·have e1 := (Value.slice.inj e)
  obtain ⟨rfl, rfl, rfl⟩ := e1
  exact .inl ⟨rfl, rfl, rfl, List.eq_nil_of_length_eq_zero hl⟩
 ·have e1 := (Value.slice.inj e)
  obtain ⟨rfl, -, rfl⟩ := e1
  refine .inr ⟨g, cur, rfl, hb, hg, hn, by omega, by unfold maxLen at hm; omega, hl, fun j hj => ?_⟩
  have h3 : (cur.toList.take (n * 1))[j]? = vs[j]? := by rw [ht]
  rw [List.getElem?_take, if_pos (by omega)] at h3
  rw [← Array.getElem?_toList, h3]
  simp [List.getD, show j < vs.length by omega]
theorem Inn.blk {v : Value} {xs : List Int} (h : Inn w lo hi v xs) : ∀ k, v.ownBlock = some k → lo ≤ k ∧ k < hi ∧ k < w.heap.size := fun k hk => by
 obtain ⟨A, c, rfl, ho, ht⟩ := h
 have h1 := World.ownsRow.lt ho k hk
 rw [blk_own] at hk
 exact ⟨h1.1, ht k hk, h1.2⟩
theorem Inn.kept {v : Value} {xs : List Int} {r : Option Nat} (h : Inn w lo hi v xs) (hg : w.grownBy w' r) (hne : v.ownBlock = none ∨ v.ownBlock ≠ r) : Inn w' lo hi v xs := by
 obtain ⟨A, c, rfl, ho, ht⟩ := h
 exact ⟨A, c, rfl, World.ownsRow.kept ho hg hne, ht⟩
theorem Inn.next {v : Value} {xs : List Int} (h : Inn w lo hi v xs) (hb : Below w.heap.size w w') : Inn w' lo hi v xs := by
 obtain ⟨A, c, rfl, ho, ht⟩ := h
 exact ⟨A, c, rfl, ho.next hb, ht⟩
theorem Inn.cap {v : Value} {xs : List Int} (h : Inn w lo hi v xs) : ∃ A c, v = .slice A xs.length c ∧ Own w lo v xs ∧ Cap A xs.length c := by
 obtain ⟨A, c, rfl, ho, ht⟩ := h
 refine ⟨A, c, rfl, ho, ?_⟩
 rcases own_form (n := xs.length) (vs := xs.map (Value.int .i64)) ho with ⟨rfl, h1, rfl, _⟩ | ⟨g, cur, rfl, _, _, h1, h2, h3, _⟩
 ·exact ⟨by omega, by omega, fun _ => rfl⟩
 ·exact ⟨h1, h3, fun e => by cases e⟩
theorem Owns.segs (h : Owns w lo hi A n c xss) : Segs w w.heap.size A n xss := by
 obtain ⟨vs, hr, hi', _⟩ := h.row
 refine ⟨h.len, fun hn => ?_⟩
 rcases own_form hr with ⟨_, e, _⟩ | ⟨g, cur, rfl, _, hrow, _, _, _, _, hc⟩
 ·omega
 ·refine ⟨g, 0, rfl, hrow.lt, fun j hj => ?_⟩
  obtain ⟨A', c', e, ho, hcap⟩ := (hi' j hj).cap
  refine ⟨A', _, c', ?_, Own.seg (by rw [← e]; exact ho), hcap⟩
  rw [Nat.zero_add, hrow.cell j, hc j hj, e]
theorem Owns.rd (h : Owns w lo hi A n c xss) : Segs w w.heap.size A n xss := h.segs
theorem Owns.cap (h : Owns w lo hi A n c xss) : Cap A n c := by
 obtain ⟨vs, hr, _⟩ := h.row
 rcases own_form hr with ⟨rfl, h1, rfl, _⟩ | ⟨g, cur, rfl, _, _, h1, h2, h3, _⟩
 ·exact ⟨by omega, by omega, fun _ => rfl⟩
 ·exact ⟨h1, h3, fun e => by cases e⟩
theorem Owns.next (h : Owns w lo hi A n c xss) (hb : Below w.heap.size w w') : Owns w' lo hi A n c xss := by
 obtain ⟨h1, ⟨vs, hr, hi', ha⟩, h3⟩ := h
 refine ⟨h1, ⟨vs, ?_, fun j hj => (hi' j hj).next hb, ha⟩, h3⟩
 exact World.ownsRow.kept hr ⟨hb.os, hb.tape, hb.output, hb.size, fun k hk _ => hb.block k hk⟩ (row := none) (by cases (Value.slice A n c).ownBlock <;> simp)
theorem Owns.wider {lo' hi' : Nat} (h : Owns w lo hi A n c xss) (h1 : lo' ≤ lo) (h2 : hi ≤ hi') : Owns w lo' hi' A n c xss := by
 obtain ⟨h3, ⟨vs, hr, hin, ha⟩, h5⟩ := h
 have low : ∀ {t : TypeId} {v : Value} {m : Nat} {us : List Value}, w.ownsRow lo t 1 v m us → w.ownsRow lo' t 1 v m us := fun {t v m us} ho => by
  obtain ⟨q1, q2⟩ := ho
  refine ⟨q1, ?_⟩
  rcases q2 with q2 | ⟨g, cap, cur, hv, hg, r⟩
  ·exact .inl q2
  ·exact .inr ⟨g, cap, cur, hv, Nat.le_trans h1 hg, r⟩
 refine ⟨h3, ⟨vs, low hr, fun j hj => ?_, ha⟩, fun k hk => Nat.lt_of_lt_of_le (h5 k hk) h2⟩
 obtain ⟨A', c', e, ho, ht⟩ := hin j hj
 exact ⟨A', c', e, low ho, fun k hk => Nat.lt_of_lt_of_le (ht k hk) h2⟩
theorem Owns.btw {lo' hi' : Nat} (h : Owns w lo hi A n c xss) (hb : Btw lo' hi' w w') (ho : hi ≤ lo' ∨ hi' ≤ lo) : Owns w' lo hi A n c xss := by
 obtain ⟨h1, ⟨vs, hr, hin, ha⟩, h3⟩ := h
 have key : ∀ {t : TypeId} {m : Nat} {v : Value} {us : List Value}, w.ownsRow lo t 1 v m us → (∀ k, v.ownBlock = some k → k < hi) → w'.ownsRow lo t 1 v m us := fun {t m v us} hr ht => by
  obtain ⟨q1, q2⟩ := hr
  refine ⟨q1, ?_⟩
  rcases q2 with q2 | ⟨g, cap, cur, hv, hg, hh, r⟩
  ·exact .inl q2
  ·have h5 := ht g (by rw [hv]; rfl)
   refine .inr ⟨g, cap, cur, hv, hg, ?_, r⟩
   have hlt : g < w.heap.size := (Array.getElem?_eq_some_iff.1 hh).1
   exact (hb.block g hlt (by omega)).trans hh
 refine ⟨h1, ⟨vs, key hr (fun k hk => h3 k (by rw [blk_own] at hk; exact hk)), fun j hj => ?_, ha⟩, h3⟩
 obtain ⟨A', c', e, ho', ht⟩ := hin j hj
 exact ⟨A', c', e, key ho' (fun k hk => ht k (by rw [e, blk_own] at hk; exact hk)), ht⟩
theorem Owns.nil (w : World) (lo hi : Nat) : Owns w lo hi none 0 0 [] :=
 ⟨rfl, ⟨[], World.ownsRow_nil w lo 24 1, fun j hj => absurd hj (Nat.not_lt_zero _), fun i j k _ hj => absurd hj (Nat.not_lt_zero _)⟩, fun k hk => by cases hk⟩
end
theorem Inn.ne {w : World} {lo hi g : Nat} {v : Value} {xs : List Int} {cs : Array Value} (h : Inn w lo hi v xs) (hr : Row w g 24 cs) : v.ownBlock ≠ some g := by
 obtain ⟨A, c, rfl, ho, _⟩ := h
 rcases own_form (n := xs.length) ho with ⟨rfl, _⟩ | ⟨g', cur', rfl, _, hrow', _⟩
 ·intro e; cases e
 ·intro e
  have e2 : g' = g := by simpa [Value.ownBlock] using e
  exact Row.ne_ hr hrow' (by decide) e2.symm
theorem Inn.wider {w : World} {lo hi lo' hi' : Nat} {v : Value} {xs : List Int} (h : Inn w lo hi v xs) (h1 : lo' ≤ lo) (h2 : hi ≤ hi') : Inn w lo' hi' v xs := by
 obtain ⟨A, c, rfl, ho, ht⟩ := h
 exact ⟨A, c, rfl, Own.lower ho h1, fun k hk => Nat.lt_of_lt_of_le (ht k hk) h2⟩
theorem rowsOf {w : World} {base g n c : Nat} {t : TypeId} {cs : Array Value} (hr : Row w g t cs) (hs : cs.size = c) (hn : n ≤ c) (hm : c ≤ 9223372036854775807) (hb : base ≤ g) : w.ownsRow base t 1 (.slice (some ⟨g, 0, none⟩) n c) n (cs.toList.take n) :=
 ⟨by simp; omega, .inr ⟨g, c, cs, rfl, hb, hr, hn, by unfold maxLen; omega, by omega, by simp⟩⟩
end segs
end
section
namespace segsHelp
open Go.RowKit base ints sig cursor marks app sym appAt segs
set_option maxRecDepth 100000
theorem info_list : (Tryz.prog.info? 24).map (fun i => (i.zero, i.size, i.bytes)) = some (some (.slice none 0 0), 1, 24) := by kernel_rfl
theorem run_make_lists (n : Nat) (hn : n ≤ 1048576) (W : World) : (Instr.makeSlice 49 (.int .i64 (n : Int)) (.int .i64 (n : Int))).run Tryz.prog W =
  .ok (.slice (some ⟨W.heap.size, 0, none⟩) n n) (W.alloc (.cells (madeCells #[.slice none 0 0] n) 24)) := by
 obtain ⟨i0, hi, hz0, hz1, hz2⟩ := info_parts info_list
 have hr := run_make (P := Tryz.prog) W 49 24 i0 _ Tryz.underlying49 hi hz0 .i64 .i64 n n (by omega) (by omega) (by rw [hz2]; omega) (by omega)
 simpa [hz1, Value.cells] using hr
def sumL (xss : List (List Int)) (k : Nat) : Nat := ((xss.take k).map List.length).sum
def tot (xss : List (List Int)) : Nat := xss.length + sumL xss xss.length
theorem sumL_succ {xss : List (List Int)} {k : Nat} (h : k < xss.length) : sumL xss (k + 1) = sumL xss k + (xss.getD k []).length := by
 unfold sumL
 rw [List.take_succ_eq_append_getElem h, List.map_append, List.sum_append]
 simp [List.getD, h]
theorem sumL_mono {xss : List (List Int)} : ∀ {k m : Nat}, k ≤ m → m ≤ xss.length → sumL xss k ≤ sumL xss m
 | k, 0, h, _ => by rw [show k = 0 by omega]; exact Nat.le_refl _
 | k, m + 1, h, hm => by
  by_cases e : k = m + 1
  ·rw [e]; exact Nat.le_refl _
  ·have := sumL_mono (xss := xss) (show k ≤ m by omega) (by omega)
   rw [sumL_succ (by omega)]
   omega
theorem tot_each {xss : List (List Int)} {L : Nat} (h : tot xss ≤ L) : ∀ j, (xss.getD j []).length ≤ L := fun j => by
 by_cases hj : j < xss.length
 ·have h1 := sumL_succ hj
  have h2 := sumL_mono (xss := xss) (show j + 1 ≤ xss.length by omega) (Nat.le_refl _)
  unfold tot at h
  omega
 ·rw [show xss.getD j [] = [] by simp [List.getD, hj]]
  simp
theorem tot_len {xss : List (List Int)} {L n : Nat} (hl : xss.length = n) (h : tot xss ≤ L) : n ≤ L := by unfold tot at h; omega
end segsHelp
end
section
namespace segsMark
open Go.RowKit base ints sig cursor marks app sym appAt segs segsHelp
set_option maxRecDepth 100000
end segsMark
end
section
namespace kinds
open Go.RowKit base ints sig cursor marks app sym appAt segs segsHelp segsMark
set_option maxRecDepth 100000
def Ownd (w : World) (lo hi : Nat) (A : Option Addr) (n c : Nat) (xs : List Int) : Prop := Own w lo (.slice A n c) xs ∧ ∀ k, blk A = some k → k < hi
section
variable {w w' : World} {lo hi n c : Nat} {A : Option Addr} {xs : List Int}
theorem Ownd.rd (h : Ownd w lo hi A n c xs) : Seg w w.heap.size A n xs := Own.seg h.1
theorem Ownd.next (h : Ownd w lo hi A n c xs) (hb : Below w.heap.size w w') : Ownd w' lo hi A n c xs := ⟨h.1.next hb, h.2⟩
theorem Ownd.wider {lo' hi' : Nat} (h : Ownd w lo hi A n c xs) (h1 : lo' ≤ lo) (h2 : hi ≤ hi') : Ownd w lo' hi' A n c xs := ⟨Own.lower h.1 h1, fun k hk => Nat.lt_of_lt_of_le (h.2 k hk) h2⟩
theorem Ownd.btw {lo' hi' : Nat} (h : Ownd w lo hi A n c xs) (hb : Btw lo' hi' w w') (ho : hi ≤ lo' ∨ hi' ≤ lo) : Ownd w' lo hi A n c xs := by
 obtain ⟨⟨q1, q2⟩, ht⟩ := h
 refine ⟨⟨q1, ?_⟩, ht⟩
 rcases q2 with q2 | ⟨g, cap, cur, hv, hg, hh, r⟩
 ·exact .inl q2
 ·have h5 := ht g (by rw [← blk_own A n c, hv]; rfl)
  refine .inr ⟨g, cap, cur, hv, hg, ?_, r⟩
  have hlt : g < w.heap.size := (Array.getElem?_eq_some_iff.1 hh).1
  exact (hb.block g hlt (by omega)).trans hh
theorem Ownd.of_own (h : Own w lo (.slice A n c) xs) : Ownd w lo w.heap.size A n c xs := ⟨h, fun k hk => (World.ownsRow.lt h k (by rw [blk_own]; exact hk)).2⟩
theorem Ownd.cap (h : Ownd w lo hi A n c xs) : Cap A n c := by
 have hl := Own.len h.1
 rcases own_form (n := n) (vs := xs.map (Value.int .i64)) (by rw [hl]; have := h.1; rw [hl] at this; exact this) with ⟨rfl, h1, rfl, _⟩ | ⟨g, cur, rfl, _, _, h1, h2, h3, _⟩
 ·exact ⟨by omega, by omega, fun _ => rfl⟩
 ·exact ⟨h1, h3, fun e => by cases e⟩
theorem drew_below (w : World) : Below w.heap.size w w.drew := ⟨rfl, rfl, rfl, Nat.le_refl _, fun _ _ => rfl⟩
theorem drewN_below (w : World) (d : Nat) : Below w.heap.size w (w.drewN d) := ⟨rfl, rfl, rfl, Nat.le_refl _, fun _ _ => rfl⟩
end
theorem owns_put {w : World} {lo hi n c b : Nat} {A : Option Addr} {xss : List (List Int)} {t : TypeId} {cs : Array Value} (h : Owns w lo hi A n c xss) (hr : Row w b t cs) (hb : b < lo) (i : Nat) (u : Value) : Owns (w.setCell ⟨b, i, none⟩ u) lo hi A n c xss :=
 h.btw (lo' := b) (hi' := b + 1) (Btw.of_grown (grown_put (World.grownBy.refl _ _) _ _) (fun k hk => by injection hk; omega)) (.inr (by omega))
end kinds
end
section
namespace shape
open Go.RowKit base ints sig cursor marks app sym appAt segs segsHelp segsMark kinds
inductive Sh where
 | num : Sh
 | bit : Sh
 | row : TypeId → Sh → Sh
 | cat : Sh → Sh → Sh
@[reducible] def Dat : Sh → Type
 | .num => Int
 | .bit => Bool
 | .row _ s => List (Dat s)
 | .cat a b => Dat a × Dat b
def nc : Sh → Nat
 | .num => 1
 | .bit => 1
 | .row _ _ => 1
 | .cat a b => nc a + nc b
def dft : (s : Sh) → Dat s
 | .num => (0 : Int)
 | .bit => false
 | .row _ _ => []
 | .cat a b => (dft a, dft b)
def Piece (w : World) (b off : Nat) (es : List Value) : Prop := ∀ i, i < es.length → w.cell? ⟨b, off + i, none⟩ = es[i]?
theorem nc_pos : ∀ s : Sh, 1 ≤ nc s
 | .num => Nat.le_refl _
 | .bit => Nat.le_refl _
 | .row _ _ => Nat.le_refl _
 | .cat a b => Nat.le_trans (nc_pos a) (Nat.le_add_right _ _)
def Rd (w : World) (B : Nat) : (s : Sh) → List Value → Dat s → Prop
 | .num, cs, (x : Int) => cs = [.int .i64 x]
 | .bit, cs, (x : Bool) => cs = [.bool x]
 | .row _ s, cs, (d : List (Dat s)) => ∃ A n c, cs = [.slice A n c] ∧ Cap A n c ∧ d.length = n ∧
   (0 < n → ∃ b off, A = some ⟨b, off, none⟩ ∧ b < B ∧ ∀ j, j < n → ∃ es, es.length = nc s ∧ Piece w b (off + j * nc s) es ∧ Rd w B s es (d.getD j (dft s)))
 | .cat a b, cs, d => ∃ ca cb, cs = ca ++ cb ∧ Rd w B a ca d.1 ∧ Rd w B b cb d.2
def Ow (w : World) : (s : Sh) → List Value → Dat s → List Nat → Prop
 | .num, cs, (x : Int), F => cs = [.int .i64 x] ∧ F = []
 | .bit, cs, (x : Bool), F => cs = [.bool x] ∧ F = []
 | .row e s, cs, (d : List (Dat s)), F => ∃ A n c, cs = [.slice A n c] ∧ d.length = n ∧
   ((A = none ∧ n = 0 ∧ c = 0 ∧ F = []) ∨ ∃ (g : Nat) (cur : Array Value) (E : Nat → List Value) (G : Nat → List Nat), A = some ⟨g, 0, none⟩ ∧ Row w g e cur ∧ n ≤ c ∧ c ≤ 9223372036854775807 ∧ cur.size = c * nc s ∧
    F = g :: (List.range n).flatMap G ∧ ∀ j, j < n → (E j).length = nc s ∧ (∀ i, i < nc s → cur[j * nc s + i]? = (E j)[i]?) ∧ Ow w s (E j) (d.getD j (dft s)) (G j))
 | .cat a b, cs, d, F => ∃ ca cb Fa Fb, cs = ca ++ cb ∧ F = Fa ++ Fb ∧ Ow w a ca d.1 Fa ∧ Ow w b cb d.2 Fb
section
variable {w w' : World} {B B' : Nat}
theorem Rd.len : ∀ {s : Sh} {cs : List Value} {d : Dat s}, Rd w B s cs d → cs.length = nc s
 | .num, _, _, h => by have h : _ = _ := h; rw [h]; rfl
 | .bit, _, _, h => by have h : _ = _ := h; rw [h]; rfl
 | .row _ _, _, _, h => by obtain ⟨A, n, c, e, _⟩ := h; rw [e]; rfl
 | .cat a b, _, _, h => by
  obtain ⟨ca, cb, e, h1, h2⟩ := h
  rw [e, List.length_append, h1.len, h2.len]; rfl
theorem Piece.keep {b off : Nat} {es : List Value} (h : Piece w b off es) (hk : ∀ p : Addr, p.block = b → w'.cell? p = w.cell? p) : Piece w' b off es := fun i hi => (hk _ rfl).trans (h i hi)
theorem Rd.keep (hk : ∀ p : Addr, p.block < B → w'.cell? p = w.cell? p) : ∀ {s : Sh} {cs : List Value} {d : Dat s}, Rd w B s cs d → Rd w' B s cs d
 | .num, _, _, h => h
 | .bit, _, _, h => h
 | .row _ s, _, _, h => by
  obtain ⟨A, n, c, e, hc, hl, h1⟩ := h
  refine ⟨A, n, c, e, hc, hl, fun hn => ?_⟩
  obtain ⟨b, off, e2, hb, h2⟩ := h1 hn
  refine ⟨b, off, e2, hb, fun j hj => ?_⟩
  obtain ⟨es, he, hp, hr⟩ := h2 j hj
  exact ⟨es, he, hp.keep (fun p hp => hk p (by rw [hp]; exact hb)), hr.keep hk⟩
 | .cat a b, _, _, h => by
  obtain ⟨ca, cb, e, h1, h2⟩ := h
  exact ⟨ca, cb, e, h1.keep hk, h2.keep hk⟩
theorem Rd.more (hB : B ≤ B') : ∀ {s : Sh} {cs : List Value} {d : Dat s}, Rd w B s cs d → Rd w B' s cs d
 | .num, _, _, h => h
 | .bit, _, _, h => h
 | .row _ s, _, _, h => by
  obtain ⟨A, n, c, e, hc, hl, h1⟩ := h
  refine ⟨A, n, c, e, hc, hl, fun hn => ?_⟩
  obtain ⟨b, off, e2, hb, h2⟩ := h1 hn
  refine ⟨b, off, e2, by omega, fun j hj => ?_⟩
  obtain ⟨es, he, hp, hr⟩ := h2 j hj
  exact ⟨es, he, hp, hr.more hB⟩
 | .cat a b, _, _, h => by
  obtain ⟨ca, cb, e, h1, h2⟩ := h
  exact ⟨ca, cb, e, h1.more hB, h2.more hB⟩
theorem Rd.below {s : Sh} {cs : List Value} {d : Dat s} (h : Rd w B s cs d) (hb : Below B w w') : Rd w' B s cs d := h.keep fun _ hp => hb.cell hp
theorem Rd.next {s : Sh} {cs : List Value} {d : Dat s} (h : Rd w w.heap.size s cs d) (hb : Below w.heap.size w w') : Rd w' w'.heap.size s cs d := (h.below hb).more hb.size
theorem Ow.len : ∀ {s : Sh} {cs : List Value} {d : Dat s} {F : List Nat}, Ow w s cs d F → cs.length = nc s
 | .num, _, _, _, h => by obtain ⟨e, _⟩ := h; rw [e]; rfl
 | .bit, _, _, _, h => by obtain ⟨e, _⟩ := h; rw [e]; rfl
 | .row _ _, _, _, _, h => by obtain ⟨A, n, c, e, _⟩ := h; rw [e]; rfl
 | .cat a b, _, _, _, h => by
  obtain ⟨ca, cb, Fa, Fb, e, _, h1, h2⟩ := h
  rw [e, List.length_append, h1.len, h2.len]; rfl
theorem Ow.keep : ∀ {s : Sh} {cs : List Value} {d : Dat s} {F : List Nat}, Ow w s cs d F → (∀ k ∈ F, w'.heap[k]? = w.heap[k]?) → Ow w' s cs d F
 | .num, _, _, _, h, _ => h
 | .bit, _, _, _, h, _ => h
 | .row e s, _, _, F, h, hk => by
  obtain ⟨A, n, c, e1, hl, h1⟩ := h
  refine ⟨A, n, c, e1, hl, ?_⟩
  rcases h1 with h1 | ⟨g, cur, E, G, e2, hr, h2, h3, h4, h5, h6⟩
  ·exact .inl h1
  ·subst h5
   refine .inr ⟨g, cur, E, G, e2, (hk g (List.mem_cons_self ..)).trans hr, h2, h3, h4, rfl, fun j hj => ?_⟩
   obtain ⟨q1, q2, q3⟩ := h6 j hj
   exact ⟨q1, q2, q3.keep fun k hkG => hk k (List.mem_cons_of_mem _ (List.mem_flatMap.2 ⟨j, List.mem_range.2 hj, hkG⟩))⟩
 | .cat a b, _, _, F, h, hk => by
  obtain ⟨ca, cb, Fa, Fb, e, e2, h1, h2⟩ := h
  subst e2
  exact ⟨ca, cb, Fa, Fb, e, rfl, h1.keep fun k h => hk k (List.mem_append_left _ h), h2.keep fun k h => hk k (List.mem_append_right _ h)⟩
theorem Ow.lt : ∀ {s : Sh} {cs : List Value} {d : Dat s} {F : List Nat}, Ow w s cs d F → ∀ k ∈ F, k < w.heap.size
 | .num, _, _, _, h, k, hk => by obtain ⟨_, e⟩ := h; rw [e] at hk; cases hk
 | .bit, _, _, _, h, k, hk => by obtain ⟨_, e⟩ := h; rw [e] at hk; cases hk
 | .row e s, _, _, F, h, k, hk => by
  obtain ⟨A, n, c, e1, hl, h1⟩ := h
  rcases h1 with ⟨_, _, _, h1⟩ | ⟨g, cur, E, G, e2, hr, h2, h3, h4, h5, h6⟩
  ·rw [h1] at hk; cases hk
  ·rw [h5] at hk
   rcases List.mem_cons.1 hk with hk | hk
   ·rw [hk]; exact hr.lt
   ·obtain ⟨j, hj, hk⟩ := List.mem_flatMap.1 hk
    exact (h6 j (List.mem_range.1 hj)).2.2.lt k hk
 | .cat a b, _, _, F, h, k, hk => by
  obtain ⟨ca, cb, Fa, Fb, e, e2, h1, h2⟩ := h
  rw [e2] at hk
  rcases List.mem_append.1 hk with hk | hk
  ·exact h1.lt k hk
  ·exact h2.lt k hk
theorem Ow.next {s : Sh} {cs : List Value} {d : Dat s} {F : List Nat} (h : Ow w s cs d F) (hb : Below w.heap.size w w') : Ow w' s cs d F := h.keep fun k hk => hb.block k (h.lt k hk)
theorem Ow.rd : ∀ {s : Sh} {cs : List Value} {d : Dat s} {F : List Nat}, Ow w s cs d F → Rd w w.heap.size s cs d
 | .num, _, _, _, h => h.1
 | .bit, _, _, _, h => h.1
 | .row e s, _, _, F, h => by
  obtain ⟨A, n, c, e1, hl, h1⟩ := h
  rcases h1 with ⟨rfl, rfl, rfl, _⟩ | ⟨g, cur, E, G, e2, hr, h2, h3, h4, h5, h6⟩
  ·exact ⟨none, 0, 0, e1, ⟨by omega, by omega, fun _ => rfl⟩, hl, fun h => absurd h (by omega)⟩
  ·refine ⟨A, n, c, e1, ⟨h2, h3, fun e => by rw [e] at e2; cases e2⟩, hl, fun hn => ⟨g, 0, e2, hr.lt, fun j hj => ?_⟩⟩
   obtain ⟨q1, q2, q3⟩ := h6 j hj
   refine ⟨E j, q1, fun i hi => ?_, q3.rd⟩
   rw [Nat.zero_add, hr.cell, q2 i (by omega)]
 | .cat a b, _, _, F, h => by
  obtain ⟨ca, cb, Fa, Fb, e, e2, h1, h2⟩ := h
  exact ⟨ca, cb, e, h1.rd, h2.rd⟩
def Owned (w : World) (lo hi : Nat) (s : Sh) (cs : List Value) (d : Dat s) : Prop := ∃ F, Ow w s cs d F ∧ F.Nodup ∧ ∀ k ∈ F, lo ≤ k ∧ k < hi
variable {lo hi : Nat} {s : Sh} {cs : List Value} {d : Dat s}
theorem Owned.rd (h : Owned w lo hi s cs d) : Rd w w.heap.size s cs d := by obtain ⟨F, h, _⟩ := h; exact h.rd
theorem Owned.next (h : Owned w lo hi s cs d) (hb : Below w.heap.size w w') : Owned w' lo hi s cs d := by obtain ⟨F, h, h2⟩ := h; exact ⟨F, h.next hb, h2⟩
theorem Owned.wider {lo' hi' : Nat} (h : Owned w lo hi s cs d) (h1 : lo' ≤ lo) (h2 : hi ≤ hi') : Owned w lo' hi' s cs d := by
 obtain ⟨F, h, h3, h4⟩ := h
 exact ⟨F, h, h3, fun k hk => by have := h4 k hk; omega⟩
theorem Owned.put {g i : Nat} {u : Value} (h : Owned w lo hi s cs d) (hg : g < lo ∨ hi ≤ g) : Owned (w.setCell ⟨g, i, none⟩ u) lo hi s cs d := by
 obtain ⟨F, h, h3, h4⟩ := h
 exact ⟨F, h.keep fun k hk => Below.heap_setCell w _ u k (by have := h4 k hk; show k ≠ g; omega), h3, h4⟩
theorem Owned.cat {mid mid' : Nat} {a b : Sh} {ca cb : List Value} {da : Dat a} {db : Dat b} (h1 : Owned w lo mid a ca da) (h2 : Owned w mid' hi b cb db) (hm : mid ≤ mid') (hl : lo ≤ mid') (hh : mid ≤ hi) : Owned w lo hi (.cat a b) (ca ++ cb) (da, db) := by
 obtain ⟨F, h1, n1, b1⟩ := h1
 obtain ⟨G, h2, n2, b2⟩ := h2
 refine ⟨F ++ G, ⟨ca, cb, F, G, rfl, rfl, h1, h2⟩, List.nodup_append.2 ⟨n1, n2, fun x hx y hy e => ?_⟩, fun k hk => ?_⟩
 ·have := b1 x hx; have := b2 y hy; omega
 ·rcases List.mem_append.1 hk with hk | hk
  ·have := b1 k hk; omega
  ·have := b2 k hk; omega
end
abbrev sI : Sh := .row 2 .num
section
variable {w w' : World} {B : Nat}
theorem rd_ints {v : Value} {xs : List Int} : Rd w B sI [v] xs ↔ ∃ A n c, v = .slice A n c ∧ Seg w B A n xs ∧ Cap A n c := by
 constructor
 ·rintro ⟨A, n, c, e, hc, hl, h⟩
  refine ⟨A, n, c, by injection e, ⟨hl, fun hn => ?_⟩, hc⟩
  obtain ⟨b, off, e2, hb, h2⟩ := h hn
  refine ⟨b, off, e2, hb, fun j hj => ?_⟩
  obtain ⟨es, he, hp, hr⟩ := h2 j hj
  have hr : es = [.int .i64 (xs.getD j 0)] := hr
  have := hp 0 (by rw [hr]; simp)
  rw [hr] at this
  simpa [nc] using this
 ·rintro ⟨A, n, c, rfl, h, hc⟩
  refine ⟨A, n, c, rfl, hc, h.1, fun hn => ?_⟩
  obtain ⟨b, off, e2, hb, h2⟩ := h.2 hn
  refine ⟨b, off, e2, hb, fun j hj => ⟨[.int .i64 (xs.getD j 0)], rfl, fun i hi => ?_, rfl⟩⟩
  have hi : i = 0 := by simpa using hi
  subst hi
  first | (simp [nc]; done) | (simpa [nc] using h2 j hj)
theorem Rd.seg {A : Option Addr} {n c : Nat} {xs : List Int} (h : Rd w B sI [.slice A n c] xs) : Seg w B A n xs := by
 obtain ⟨A', n', c', e, h, _⟩ := rd_ints.1 h
 injection e with e1 e2 e3
 subst e1 e2
 exact h
theorem ow_ints {lo hi : Nat} {A : Option Addr} {n c : Nat} {xs : List Int} : Owned w lo hi sI [.slice A n c] xs ↔ Ownd w lo hi A n c xs := by
 constructor
 ·rintro ⟨F, ⟨A', n', c', e, hl, h⟩, _, hb⟩
  injection e with e
  injection e with e1 e2 e3
  subst e1 e2 e3
  rcases h with ⟨rfl, rfl, rfl, rfl⟩ | ⟨g, cur, E, G, rfl, hr, h2, h3, h4, rfl, h6⟩
  ·have hx : xs = [] := List.eq_nil_of_length_eq_zero hl
   subst hx
   exact ⟨Own.nil _ _, fun k hk => by cases hk⟩
  ·have hg := hb g (List.mem_cons_self ..)
   refine ⟨Own.of_row hr hl (by simpa [nc] using h4) h2 h3 hg.1 fun j hj => ?_, fun k hk => by have : g = k := Option.some.inj hk; omega⟩
   obtain ⟨q1, q2, q3⟩ := h6 j hj
   have q3 : E j = [.int .i64 (xs.getD j 0)] := q3.1
   have := q2 0 (by simp [nc])
   rw [q3] at this
   simpa [nc] using this
 ·rintro ⟨ho, hb⟩
  have hl := Own.len ho
  rcases own_form (n := n) (vs := xs.map (Value.int .i64)) (by rw [hl]; rw [hl] at ho; exact ho) with ⟨rfl, h1, rfl, _⟩ | ⟨g, cur, rfl, hlo, hr, h1, h2, h3, _, h5⟩
  ·subst h1
   exact ⟨[], ⟨none, 0, 0, rfl, hl.symm, .inl ⟨rfl, rfl, rfl, rfl⟩⟩, List.nodup_nil, fun k hk => by cases hk⟩
  ·have hg := hb g rfl
   refine ⟨[g], ⟨some ⟨g, 0, none⟩, n, c, rfl, hl.symm, .inr ⟨g, cur, fun j => [.int .i64 (xs.getD j 0)], fun _ => [], rfl, hr, h1, h3, by simp [nc, h2], ?_, fun j hj => ⟨rfl, fun i hi => ?_, rfl, rfl⟩⟩⟩, by simp, fun k hk => ?_⟩
   ·have : ∀ l : List Nat, l.flatMap (fun _ => ([] : List Nat)) = [] := fun l => by induction l <;> simp_all
    rw [this]
   ·have hi : i = 0 := by simpa [nc] using hi
    subst hi
    have := h5 j hj
    simp only [nc, Nat.mul_one, Nat.add_zero]
    rw [this]
    have hj' : j < xs.length := by omega
    simp [List.getD, hj']
   ·rw [List.mem_singleton.1 hk]; exact ⟨hlo, hg⟩
end
def sz : (s : Sh) → Dat s → Nat
 | .num, _ => 0
 | .bit, _ => 0
 | .row _ s, (d : List (Dat s)) => d.length + (d.map (sz s)).sum
 | .cat a b, d => sz a d.1 + sz b d.2
def szs (s : Sh) (d : List (Dat s)) (k : Nat) : Nat := ((d.take k).map (sz s)).sum
theorem szs_succ {s : Sh} {d : List (Dat s)} {k : Nat} (h : k < d.length) : szs s d (k + 1) = szs s d k + sz s (d.getD k (dft s)) := by
 unfold szs
 rw [List.take_succ_eq_append_getElem h, List.map_append, List.sum_append]
 simp [List.getD, h]
theorem szs_mono {s : Sh} {d : List (Dat s)} : ∀ {k m : Nat}, k ≤ m → m ≤ d.length → szs s d k ≤ szs s d m
 | k, 0, h, _ => by rw [show k = 0 by omega]; exact Nat.le_refl _
 | k, m + 1, h, hm => by
  by_cases e : k = m + 1
  ·rw [e]; exact Nat.le_refl _
  ·have := szs_mono (d := d) (show k ≤ m by omega) (by omega)
   rw [szs_succ (by omega)]
   omega
theorem szs_all {s : Sh} {d : List (Dat s)} {n : Nat} (h : d.length = n) : szs s d n = (d.map (sz s)).sum := by unfold szs; rw [List.take_of_length_le (by omega)]
theorem sz_row {e : TypeId} {s : Sh} {d : List (Dat s)} : sz (.row e s) d = d.length + szs s d d.length := by rw [szs_all rfl]; rfl
theorem sz_each {e : TypeId} {s : Sh} {d : List (Dat s)} {L : Nat} (h : sz (.row e s) d ≤ L) {j : Nat} (hj : j < d.length) : sz s (d.getD j (dft s)) ≤ L := by
 have h1 := szs_succ hj
 have h2 := szs_mono (d := d) (show j + 1 ≤ d.length by omega) (Nat.le_refl _)
 rw [sz_row] at h
 omega
theorem sz_len {e : TypeId} {s : Sh} {d : List (Dat s)} {L : Nat} (h : sz (.row e s) d ≤ L) : d.length ≤ L := by rw [sz_row] at h; omega
theorem sz_ints (xs : List Int) : sz sI xs = xs.length := by
 have : ∀ l : List Int, (l.map (sz .num)).sum = 0 := fun l => by induction l <;> simp_all [sz]
 show xs.length + (xs.map (sz .num)).sum = _
 rw [this]; rfl
def cnt : (s : Sh) → Dat s → Nat
 | .num, _ => 1
 | .bit, _ => 1
 | .row _ s, (d : List (Dat s)) => (d.map (cnt s)).sum
 | .cat a b, d => cnt a d.1 + cnt b d.2
def cnts (s : Sh) (d : List (Dat s)) (k : Nat) : Nat := ((d.take k).map (cnt s)).sum
def mkc : (s : Sh) → Int → Dat s → Dat s
 | .num, k, _ => k
 | .bit, k, _ => decide (k % 3 = 0)
 | .row _ s, k, (d : List (Dat s)) => (List.range d.length).map fun j => mkc s (k + (cnts s d j : Int)) (d.getD j (dft s))
 | .cat a b, k, d => (mkc a k d.1, mkc b (k + (cnt a d.1 : Int)) d.2)
def wd : Sh → Nat
 | .num => 1
 | .bit => 1
 | .row _ s => wd s
 | .cat a b => wd a + wd b
end shape
end
section
namespace shape
open Go.RowKit base ints sig cursor marks app sym appAt segs segsHelp segsMark kinds
structure Only (F : List Nat) (w w' : World) : Prop where
 os : w'.os = w.os
 tape : w'.tape = w.tape
 output : w'.output = w.output
 size : w.heap.size ≤ w'.heap.size
 block : ∀ k, k < w.heap.size → k ∉ F → w'.heap[k]? = w.heap[k]?
section
variable {w w' w2 : World} {B : Nat} {s : Sh} {e : TypeId} {v : Value} {F G : List Nat}
theorem Only.wider (h : Only F w w') (hF : ∀ k ∈ F, k ∈ G) : Only G w w' := ⟨h.os, h.tape, h.output, h.size, fun k hk ho => h.block k hk fun hk2 => ho (hF k hk2)⟩
theorem Ow.only {cs : List Value} {d : Dat s} (h : Ow w s cs d F) (ho : Only G w w') (hd : ∀ k ∈ F, k ∉ G) : Ow w' s cs d F := h.keep fun k hk => ho.block k (h.lt k hk) (hd k hk)
theorem Rd.elem {D : List (Dat s)} {j : Nat} (h : Rd w B (.row e s) [v] D) (hj : j < D.length) : ∃ b off n c es, v = .slice (some ⟨b, off, none⟩) n c ∧ D.length = n ∧ n ≤ c ∧ b < B ∧ es.length = nc s ∧ Piece w b (off + j * nc s) es ∧ Rd w B s es (D.getD j (dft s)) := by
 obtain ⟨A, n, c, e1, hc, hl, h1⟩ := h
 injection e1 with e1
 subst hl
 obtain ⟨b, off, e2, hb, h2⟩ := h1 (by omega)
 obtain ⟨es, he, hp, hr⟩ := h2 j hj
 exact ⟨b, off, _, c, es, by rw [e1, e2], rfl, hc.1, hb, he, hp, hr⟩
theorem Rd.slice {D : List (Dat s)} (h : Rd w B (.row e s) [v] D) : ∃ A c, v = .slice A D.length c ∧ Cap A D.length c := by
 obtain ⟨A, n, c, e1, hc, hl, h1⟩ := h
 injection e1 with e1
 subst hl
 exact ⟨A, c, e1, hc⟩
theorem ow_cat {a b : Sh} {cs : List Value} {d : Dat (.cat a b)} (h : Ow w (.cat a b) cs d F) : ∃ ca cb Fa Fb, cs = ca ++ cb ∧ F = Fa ++ Fb ∧ ca.length = nc a ∧ cb.length = nc b ∧ Ow w a ca d.1 Fa ∧ Ow w b cb d.2 Fb := by
 obtain ⟨ca, cb, Fa, Fb, e, e2, h1, h2⟩ := h
 exact ⟨ca, cb, Fa, Fb, e, e2, h1.len, h2.len, h1, h2⟩
theorem nodup_flat {G : Nat → List Nat} {n : Nat} (h : ((List.range n).flatMap G).Nodup) {i j : Nat} (hi : i < n) (hj : j < n) (hne : i ≠ j) {k : Nat} (hk : k ∈ G i) : k ∉ G j := by
 induction n with
 | zero => omega
 | succ n ih =>
  rw [List.range_succ, List.flatMap_append, List.nodup_append] at h
  obtain ⟨h1, _, h3⟩ := h
  intro hk2
  by_cases e1 : i = n
  ·subst e1
   exact h3 k (List.mem_flatMap.2 ⟨j, List.mem_range.2 (by omega), hk2⟩) k (by simpa using hk) rfl
  ·by_cases e2 : j = n
   ·subst e2
    exact h3 k (List.mem_flatMap.2 ⟨i, List.mem_range.2 (by omega), hk⟩) k (by simpa using hk2) rfl
   ·exact ih h1 (by omega) (by omega) hk2
theorem nodup_part {G : Nat → List Nat} {n : Nat} (h : ((List.range n).flatMap G).Nodup) {j : Nat} (hj : j < n) : (G j).Nodup := by
 induction n with
 | zero => omega
 | succ n ih =>
  rw [List.range_succ, List.flatMap_append, List.nodup_append] at h
  obtain ⟨h1, h2, h3⟩ := h
  by_cases e : j = n
  ·subst e; simpa using h2
  ·exact ih h1 (by omega)
theorem Ow.elem {D : List (Dat s)} {j : Nat} (h : Ow w (.row e s) [v] D F) (hF : F.Nodup) (hj : j < D.length) :
  ∃ g n c es Gj, v = .slice (some ⟨g, 0, none⟩) n c ∧ D.length = n ∧ es.length = nc s ∧ Piece w g (j * nc s) es ∧ (∀ i, w.frozen? ⟨g, i, none⟩ = false) ∧ Ow w s es (D.getD j (dft s)) Gj ∧ g ∈ F ∧ Gj.Nodup ∧ g ∉ Gj ∧ (∀ k ∈ Gj, k ∈ F) ∧
   ∀ (w2 : World) (es2 : List Value) (d2 : Dat s), es2.length = nc s → Piece w2 g (j * nc s) es2 → Ow w2 s es2 d2 Gj → Only (g :: Gj) w w2 →
    (∀ cur, Row w g e cur → ∃ cur2, Row w2 g e cur2 ∧ cur2.size = cur.size ∧ ∀ q, (q < j * nc s ∨ j * nc s + nc s ≤ q) → cur2[q]? = cur[q]?) → Ow w2 (.row e s) [v] (D.set j d2) F := by
 obtain ⟨A, n, c, e1, hl, h1⟩ := h
 injection e1 with e1
 rcases h1 with ⟨_, e2, _⟩ | ⟨g, cur, E, G, e2, hr, h2, h3, h4, h5, h6⟩
 ·omega
 subst e1 e2 h5
 rw [List.nodup_cons] at hF
 obtain ⟨q1, q2, q3⟩ := h6 j (by omega)
 refine ⟨g, n, c, E j, G j, rfl, hl, q1, fun i hi => by rw [hr.cell]; exact q2 i (by omega), fun i => hr.free i, q3, List.mem_cons_self .., nodup_part hF.2 (by omega), fun hg => hF.1 (List.mem_flatMap.2 ⟨j, List.mem_range.2 (by omega), hg⟩),
  fun k hk => List.mem_cons_of_mem _ (List.mem_flatMap.2 ⟨j, List.mem_range.2 (by omega), hk⟩), fun w2 es2 d2 hl2 hp2 ho2 hon hcur => ?_⟩
 obtain ⟨cur2, hr2, hs2, hc2⟩ := hcur cur hr
 refine ⟨_, n, c, rfl, by simpa using hl, .inr ⟨g, cur2, fun i => if i = j then es2 else E i, G, rfl, hr2, h2, h3, by rw [hs2]; exact h4, rfl, fun i hi => ?_⟩⟩
 by_cases ei : i = j
 ·subst ei
  dsimp only
  rw [if_pos rfl]
  refine ⟨hl2, fun q hq => by rw [← hr2.cell, hp2 q (by omega)], ?_⟩
  have : (D.set i d2).getD i (dft s) = d2 := by simp [List.getD, hj]
  rw [this]; exact ho2
 ·dsimp only
  rw [if_neg ei]
  obtain ⟨p1, p2, p3⟩ := h6 i hi
  refine ⟨p1, fun q hq => ?_, ?_⟩
  ·have : i * nc s + q < j * nc s ∨ j * nc s + nc s ≤ i * nc s + q := by
    rcases Nat.lt_or_ge i j with h | h
    ·left
     have := Nat.mul_le_mul_right (nc s) (show i + 1 ≤ j by omega)
     rw [Nat.add_mul] at this
     omega
    ·right
     have := Nat.mul_le_mul_right (nc s) (show j + 1 ≤ i by omega)
     rw [Nat.add_mul] at this
     omega
   rw [hc2 _ this]
   exact p2 q hq
  ·have : (D.set j d2).getD i (dft s) = D.getD i (dft s) := by simp [List.getD, List.getElem?_set_ne (show j ≠ i by omega)]
   rw [this]
   refine p3.only hon fun k hk hk2 => ?_
   rcases List.mem_cons.1 hk2 with hk2 | hk2
   ·subst hk2
    exact hF.1 (List.mem_flatMap.2 ⟨i, List.mem_range.2 hi, hk⟩)
   ·exact nodup_flat hF.2 hi (by omega) ei hk hk2
theorem Ow.elem' {D : List (Dat s)} {j : Nat} (h : Ow w (.row e s) [v] D F) (hF : F.Nodup) (hj : j < D.length) :
  ∃ g n c es Gj, v = .slice (some ⟨g, 0, none⟩) n c ∧ D.length = n ∧ es.length = nc s ∧ Piece w g (j * nc s) es ∧ g < w.heap.size ∧ Ow w s es (D.getD j (dft s)) Gj ∧ Gj.Nodup ∧ g ∉ Gj ∧ (∀ k ∈ Gj, k ∈ F) ∧
   ∀ (w2 : World) (d2 : Dat s), Ow w2 s es d2 Gj → Only Gj w w2 → Ow w2 (.row e s) [v] (D.set j d2) F := by
 obtain ⟨g, n, c, es, Gj, h1, h2, h3, h4, h5, h6, h7, h8, h9, h10, h11⟩ := h.elem hF hj
 have hg := h.lt g h7
 refine ⟨g, n, c, es, Gj, h1, h2, h3, h4, hg, h6, h8, h9, h10, fun w2 d2 ho hon => h11 w2 es d2 h3 (h4.keep fun p hp => ?_) ho (hon.wider fun k hk => List.mem_cons_of_mem _ hk) fun cur hr => ⟨cur, (hon.block g hg h9).trans hr, rfl, fun _ _ => rfl⟩⟩
 exact World.cell?_of_block (by rw [hp]; exact hon.block g hg h9)
def Yes (w : World) (e : Ending) (w' : World) : Prop := e = .returned (.bool true) ∧ Below w.heap.size w w'
end
section
variable {s : Sh} {e : TypeId}
def mixed (s : Sh) (k : Int) (D : List (Dat s)) (j : Nat) : List (Dat s) := (List.range D.length).map fun q => if q < j then mkc s (k + (cnts s D q : Int)) (D.getD q (dft s)) else D.getD q (dft s)
end
theorem Rd.split {w : World} {B : Nat} {a b : Sh} {ca cb : List Value} {d : Dat (.cat a b)} (h : Rd w B (.cat a b) (ca ++ cb) d) (hl : ca.length = nc a) : Rd w B a ca d.1 ∧ Rd w B b cb d.2 := by
 obtain ⟨ca', cb', e, h1, h2⟩ := h
 obtain ⟨rfl, rfl⟩ := List.append_inj e (by rw [hl, h1.len])
 exact ⟨h1, h2⟩
theorem Ow.split {w : World} {a b : Sh} {ca cb : List Value} {d : Dat (.cat a b)} {F : List Nat} (h : Ow w (.cat a b) (ca ++ cb) d F) (hl : ca.length = nc a) : ∃ Fa Fb, F = Fa ++ Fb ∧ Ow w a ca d.1 Fa ∧ Ow w b cb d.2 Fb := by
 obtain ⟨ca', cb', Fa, Fb, e, e2, h1, h2⟩ := h
 obtain ⟨rfl, rfl⟩ := List.append_inj e (by rw [hl, h1.len])
 exact ⟨Fa, Fb, e2, h1, h2⟩
theorem Row.only {w w' : World} {g : Nat} {t : TypeId} {cs : Array Value} {F : List Nat} (h : Row w g t cs) (ho : Only F w w') (hg : g ∉ F) : Row w' g t cs := (ho.block g h.lt hg).trans h
section
variable {s : Sh} {e : TypeId}
end
structure CpS (w : World) (tL tI : TypeId) (cs zs part : Array Value) (wr : World) : Prop where
 box : Row wr w.heap.size tL cs
 res : Row wr (w.heap.size + 1) tI zs
 cur : Row wr (w.heap.size + 1 + 1) tI part
 bel : Below w.heap.size w wr
 size : w.heap.size + 1 + 1 + 1 ≤ wr.heap.size
section
variable {w wr w1 : World} {tL tI : TypeId} {cs zs part : Array Value}
theorem CpS.zero (w : World) (tL tI : TypeId) (cs zs : Array Value) : CpS w tL tI cs zs zs (((w.alloc (.cells cs tL)).alloc (.cells zs tI)).alloc (.cells zs tI)) where
 box := by have := ((Row.new w tL cs).alloc (.cells zs tI)).alloc (.cells zs tI); simpa using this
 res := by have := (Row.new (w.alloc (.cells cs tL)) tI zs).alloc (.cells zs tI); simpa using this
 cur := by have := Row.new ((w.alloc (.cells cs tL)).alloc (.cells zs tI)) tI zs; simpa using this
 bel := (((Below.refl _ _).alloc (Nat.le_refl _) _).alloc (by simp) _).alloc (by simp; omega) _
 size := by simp
theorem CpS.next (h : CpS w tL tI cs zs part wr) (bb : Below wr.heap.size wr w1) : CpS w tL tI cs zs part w1 :=
 ⟨h.box.next bb, h.res.next bb, h.cur.next bb, h.bel.trans (bb.mono h.bel.size), Nat.le_trans h.size bb.size⟩
end
end shape
end
section
open Go.Lib (hid)
namespace drawAny
open Go.RowKit base ints sig term cursor termOk marks app sym dice drawSig drawTerm
set_option maxRecDepth 100000
def AnsR (w : World) (p : Nat) (A : Option Addr) (n c L : Nat) (e : Ending) (w' : World) : Prop :=
 ∃ O on oc xs, e = .returned (.slice O on oc) ∧ Rd w' p w'.heap.size O on xs ∧ on ≤ oc ∧ oc ≤ 9223372036854775807 ∧ (O = none → oc = 0) ∧ on ≤ L ∧ Dice w' p A n c ∧ w.grownBy w' (some p)
theorem Own.cap {w : World} {base : Nat} {O : Option Addr} {on oc : Nat} {xs : List Int} (h : Own w base (.slice O on oc) xs) : on ≤ oc ∧ oc ≤ 9223372036854775807 := by
 rcases h.2 with ⟨e, _⟩ | ⟨g, cap, cur, e, _, _, h1, h2, _⟩
 ·injection e with _ e1 e2; omega
 ·injection e with _ e1 e2
  have := Own.len h
  unfold maxLen at h2
  omega
theorem ansR_own {w w' : World} {p : Nat} {A : Option Addr} {n c L : Nat} {O : Option Addr} {on oc base : Nat} {xs : List Int} (h : Own w' base (.slice O on oc) xs) (hp : p < base) (hL : on ≤ L) (d : Dice w' p A n c) (g : w.grownBy w' (some p)) : AnsR w p A n c L (.returned (.slice O on oc)) w' :=
 ⟨O, on, oc, xs, rfl, Rd.of_own h hp, (Own.cap h).1, (Own.cap h).2, Own.none_cap h, hL, d, g⟩
def AnsRN (w : World) (p : Nat) (A : Option Addr) (n c L : Nat) (e : Ending) (w' : World) : Prop :=
 ∃ O on oc xs, e = .returned (.slice O on oc) ∧ Rd w' p w'.heap.size O on xs ∧ on ≤ oc ∧ oc ≤ 9223372036854775807 ∧ (O = none → oc = 0) ∧ on ≤ L ∧ Dice w' p A n c ∧ w.grownBy w' (some p) ∧ ∀ k, blk O = some k → w.heap.size ≤ k
theorem ansRN_own {w w' : World} {p : Nat} {A : Option Addr} {n c L : Nat} {O : Option Addr} {on oc base : Nat} {xs : List Int} (h : Own w' base (.slice O on oc) xs) (hp : p < base) (hb : w.heap.size ≤ base) (hL : on ≤ L) (d : Dice w' p A n c) (g : w.grownBy w' (some p)) : AnsRN w p A n c L (.returned (.slice O on oc)) w' :=
 ⟨O, on, oc, xs, rfl, Rd.of_own h hp, (Own.cap h).1, (Own.cap h).2, Own.none_cap h, hL, d, g, fun k hk => Nat.le_trans hb (Own.ge h k hk)⟩
theorem Own.some_ {w : World} {base : Nat} {O : Option Addr} {on oc : Nat} {xs : List Int} (h : Own w base (.slice O on oc) xs) (h1 : 1 ≤ on) : ∃ g, O = some ⟨g, 0, none⟩ := by
 rcases h.2 with ⟨e, _⟩ | ⟨g, cap, cur, e, _⟩
 ·injection e with _ e1 e2; omega
 ·injection e with e _ _; exact ⟨g, e⟩
theorem Own.cellAt {w : World} {base g on oc : Nat} {xs : List Int} (h : Own w base (.slice (some ⟨g, 0, none⟩) on oc) xs) {k : Nat} (hk : k < on) : ∃ u, w.cell? ⟨g, k, none⟩ = some u := by
 have hl := Own.len h
 subst hl
 have := World.ownsRow.cellAt h k (by omega)
 exact ⟨_, this.trans (List.getElem?_eq_getElem (by simpa using hk))⟩
theorem Own.frozenAt {w : World} {base g on oc : Nat} {xs : List Int} (h : Own w base (.slice (some ⟨g, 0, none⟩) on oc) xs) (k : Nat) : w.frozen? ⟨g, k, none⟩ = false := by
 have hl := Own.len h
 subst hl
 exact World.ownsRow.frozenAt h k
theorem Own.put {w : World} {base g on oc : Nat} {xs : List Int} (h : Own w base (.slice (some ⟨g, 0, none⟩) on oc) xs) (k : Nat) (y : Int) : Own (w.setCell ⟨g, k, none⟩ (.int .i64 y)) base (.slice (some ⟨g, 0, none⟩) on oc) (xs.set k y) := by
 have hl := Own.len h
 subst hl
 have := World.ownsRow.stored h k (.int .i64 y)
 unfold Own
 rw [List.length_set, List.map_set]
 exact this.1
theorem Rd.tail {w : World} {p B b off n : Nat} {xs : List Int} (h : Rd w p B (some ⟨b, off, none⟩) n xs) (h1 : 1 ≤ n) : Rd w p B (some ⟨b, off + 1, none⟩) (n - 1) (xs.drop 1) := by
 refine ⟨by have := h.1; simp; omega, fun hn => ?_⟩
 obtain ⟨b', off', e, hb, hne, hc⟩ := h.2 (by omega)
 injection e with e
 injection e with e1 e2
 subst e1 e2
 refine ⟨_, _, rfl, hb, hne, fun j hj => ?_⟩
 rw [Nat.add_assoc, hc (1 + j) (by omega)]
 simp [List.getD, Nat.add_comm]
theorem Rd.none_ {w : World} {p B : Nat} {O : Option Addr} : Rd w p B O 0 [] := ⟨rfl, fun h => absurd h (by omega)⟩
set_option maxHeartbeats 4000000 in
theorem drawAnyN (p : Nat) (A : Option Addr) (n c : Nat) (S : Option Addr) (sn sc : Nat) (sg : List Int) (w : World) (hd : Dice w p A n c) (hr : Rd w p w.heap.size S sn sg) (hsn : sn ≤ 1048576) :
  Calls Tryz.prog 53 #[.pointer (some ⟨p, 0, none⟩), .agg #[.slice S sn sc]] w (AnsRN w p A n c 65) := by
 have T0 := DT.start (sc := sc) hd hr
 obtain ⟨W, hW⟩ : ∃ W, W = w.alloc (.cells #[.slice S sn sc] 26) := ⟨_, rfl⟩
 rw [← hW] at T0
 have HW := hid hW
 clear hd hr hW
 have hN := T0.hp
 by_cases hs0 : sn = 0
 ·subst hs0
  go_enter Tryz.func53, Tryz.ntmps53
  go_wp2_with fail
  rw [← HW.out]
  refine (fromTo p A n c (-2) 2 _ T0.d (by omega) (by omega) (by omega) (by omega)).mono ?_
  rintro e u1 ⟨x, rfl, x0, x1, d1, g1⟩
  obtain ⟨O, on, oc, xs, he, o1, h1, h2, d2, g2⟩ := leaf (L := 1) (T0.dice d1 g1) (Nat.le_refl _) x
  have F : AnsRN w p A n c 65 _ _ := ansRN_own o1 hN (Nat.le_refl _) (by omega) d2 g2
  rw [← he] at F
  have HF := hid F
  clear F he o1 d2 g2 T0 d1 g1
  go_wp2
  go_ret
  exact HF.out
 ·have e0 : ((sn : Int) == 0) = false := by simp; omega
  have L := hid (specSigOk S sn sc sg W (T0.s.seg.more T0.g.size) hsn)
  cases hok : sigOkB sg with
  | false =>
   have HS := hid hok
   clear hok
   go_enter Tryz.func53, Tryz.ntmps53
   go_wp2_with fail
   rw [← HW.out]
   refine L.out.mono ?_
   rintro e u0 ⟨he, bb⟩
   rw [HS.out] at he
   subst he
   have T1 := T0.below (bb.mono (by have := T0.r.lt; omega))
   clear T0 bb L
   go_wp2_with fail
   refine (fromTo p A n c (-2) 2 _ T1.d (by omega) (by omega) (by omega) (by omega)).mono ?_
   rintro e u1 ⟨x, rfl, x0, x1, d1, g1⟩
   obtain ⟨O, on, oc, xs, he, o1, h1, h2, d2, g2⟩ := leaf (L := 1) (T1.dice d1 g1) (Nat.le_refl _) x
   have F : AnsRN w p A n c 65 _ _ := ansRN_own o1 hN (Nat.le_refl _) (by omega) d2 g2
   rw [← he] at F
   have HF := hid F
   clear F he o1 d2 g2 T1 d1 g1
   go_wp2
   go_ret
   exact HF.out
  | true =>
   have HS := hid hok
   have hars := (sig_arities hok).1
   have hl8 := (sig_arities hok).2.2
   have hsl := T0.s.1
   have hs8 : sn ≤ 8 := by omega
   clear hok hsl hl8
   go_enter Tryz.func53, Tryz.ntmps53
   go_wp2_with fail
   rw [← HW.out]
   refine L.out.mono ?_
   rintro e u0 ⟨he, bb⟩
   rw [HS.out] at he
   subst he
   have T1 := (T0.below (bb.mono (by have := T0.r.lt; omega))).drew
   have cS : u0.cell? ⟨w.heap.size, 0, none⟩ = some (.slice S sn sc) := T1.r.cell 0
   clear T0 bb L
   go_wp2_with fail
   go_region_held3 (fun w' => w'.cell? ⟨w.heap.size, 0, none⟩ = some (.slice S sn sc))
    (go_keep)
    (first
     | (go_at_call 104; refine (below p A n c 4 _ T1.d (by omega) (by omega)).mono ?_; rintro e u1 ⟨x, rfl, x0, x1, d1, g1⟩; have T2 := T1.dice d1 g1; have cS2 : u1.cell? ⟨w.heap.size, 0, none⟩ = some (.slice S sn sc) := T2.r.cell 0; have hw : IntKind.i64.wrap (1 + x) = 1 + x := by rw [IntKind.wrap_i64]; omega)
     | (go_at_call 109; refine (drawTerm p A n c S sn sc sg 3 hars (by omega) (by omega) (by omega) (by omega) 3 (1 + x) u1 T2.d (T2.s.more T2.g.size) (by omega) (by clear hw; omega) (by clear hw; omega)).mono ?_; rintro e u2 ⟨O, on, oc, xs, rfl, o2, h1, h2, d2, g2⟩; have T3 := T2.dice d2 g2; have cS3 : u2.cell? ⟨w.heap.size, 0, none⟩ = some (.slice S sn sc) := T3.r.cell 0))
   have o3 : Own u2 (w.heap.size + 1) (.slice O on oc) xs := Own.lower o2 (by have := T2.r.lt; omega)
   obtain ⟨gg, rfl⟩ := Own.some_ o3 h1
   have hgg : w.heap.size + 1 ≤ gg := Own.ge o3 gg rfl
   have hL : on ≤ 64 := h2
   clear hw o2 T2 T1 d1 g1 d2 g2 cS cS2 cS3 h2 x0 x1
   have hp1 : p < w.heap.size + 1 := by omega
   go_wp2_with fail
   refine (once p A n c 12 _ T3.d (by omega) (by omega)).mono ?_
   rintro e u3 ⟨b, rfl, d1, g1⟩
   have T4 := T3.dice d1 g1
   have o4 := Own.far o3 g1 (fun k hk => by injection hk; omega)
   clear T3 o3 d1 g1
   cases b with
   | false =>
    have F : AnsRN w p A n c 65 (.returned (.slice (some ⟨gg, 0, none⟩) on oc)) u3 := ansRN_own o4 hp1 (by omega) (by omega) T4.d T4.g
    have HF := hid F
    clear F T4 o4
    go_wp2
    go_ret
    exact HF.out
   | true =>
    go_wp2_with fail
    refine (below p A n c 4 _ T4.d (by omega) (by omega)).mono ?_
    rintro e u4 ⟨x, rfl, x0, x1, d1, g1⟩
    have T5 := T4.dice d1 g1
    have o5 := Own.far o4 g1 (fun k hk => by injection hk; omega)
    clear T4 o4 d1 g1
    by_cases hx0 : x = 0
    ·subst hx0
     go_wp2_with fail
     refine (fromTo p A n c (-2) 3 _ T5.d (by omega) (by omega) (by omega) (by omega)).mono ?_
     rintro e u5 ⟨y, rfl, y0, y1, d1, g1⟩
     have T6 := T5.dice d1 g1
     have o6 := Own.far o5 g1 (fun k hk => by injection hk; omega)
     have z6 := T6.r.lt
     clear T5 o5 d1 g1 x0 x1
     go_wp2_with (at_builtin; refine app1 rfl _ _ rfl (w.heap.size + 1) (some ⟨gg, 0, none⟩) on oc xs rfl (Own.alloc o6 _) u5.heap.size 1 y rfl ((Row.new _ _ _).cell 0) (by omega) (by simp; omega) ?_; intro O' oc' u6 o7 b7)
     have T7 := (T6.below ((Below.refl _ _).alloc (by omega) (.cells #[.int .i64 y] 2))).below b7
     have F : AnsRN w p A n c 65 (.returned (.slice O' (on + 1) oc')) u6 := ansRN_own o7 hp1 (by omega) (by omega) T7.d T7.g
     have HF := hid F
     clear F T7 T6 o6 o7 b7
     go_wp2
     go_ret
     exact HF.out
    ·by_cases hx1 : x = 1
     ·subst hx1
      go_wp2_with fail
      refine (below p A n c (on : Int) _ T5.d (by omega) (by omega)).mono ?_
      rintro e u5 ⟨y, rfl, y0, y1, d1, g1⟩
      obtain ⟨k, rfl⟩ := Int.eq_ofNat_of_zero_le y0
      have T6 := T5.dice d1 g1
      have o6 := Own.far o5 g1 (fun k hk => by injection hk; omega)
      clear T5 o5 d1 g1 x0 x1 hx0
      go_wp2_with fail
      refine (fromTo p A n c (-3) 4 _ T6.d (by omega) (by omega) (by omega) (by omega)).mono ?_
      rintro e u6 ⟨z, rfl, z0, z1, d1, g1⟩
      have T7 := T6.dice d1 g1
      have o7 := Own.far o6 g1 (fun k hk => by injection hk; omega)
      have hk : k < on := by omega
      have i1 : (k : Int) < (on : Int) := by omega
      obtain ⟨u, hu⟩ := Own.cellAt o7 hk
      have hf := Own.frozenAt o7 k
      have o8 := Own.put o7 k z
      have T8 := T7.below ((Below.refl (w.heap.size + 1) u6).setCell (p := ⟨gg, k, none⟩) hgg (.int .i64 z))
      have F : AnsRN w p A n c 65 (.returned (.slice (some ⟨gg, 0, none⟩) on oc)) (u6.setCell ⟨gg, k, none⟩ (.int .i64 z)) := ansRN_own o8 hp1 (by omega) (by omega) T8.d T8.g
      have HF := hid F
      clear F T8 T7 T6 o8 o7 o6 d1 g1
      go_wp2
      go_ret
      exact HF.out
     ·by_cases hx2 : x = 2
      ·subst hx2
       have hcap := Own.cap o5
       have hrd := Rd.of_own o5 hp1
       by_cases hc1 : oc = 1
       ·subst hc1
        have e1 : on = 1 := by omega
        subst e1
        have F : AnsRN w p A n c 65 (.returned (.slice (some ⟨gg, 0, none⟩) 0 0)) u4 := ⟨_, 0, 0, [], rfl, Rd.none_, Nat.le_refl _, by omega, fun e => rfl, by omega, T5.d, T5.g, fun k hk => by (injection hk with e); have e2 : gg = k := e; omega⟩
        have HF := hid F
        clear F T5 o5 hrd x0 x1 hx0 hx1
        go_wp2
        go_ret
        exact HF.out
       ·have F : AnsRN w p A n c 65 (.returned (.slice (some ⟨gg, 0 + 1, none⟩) (on - 1) (oc - 1))) u4 := ⟨_, _, _, _, rfl, Rd.tail hrd h1, by omega, by omega, (fun e => by cases e), by omega, T5.d, T5.g, fun k hk => by (injection hk with e); have e2 : gg = k := e; omega⟩
        have HF := hid F
        have hc2 : ¬ oc = 1 := hc1
        have i1 : (1 : Int) ≤ (on : Int) := by omega
        have i2 : (1 : Int) ≤ (oc : Int) := by omega
        have i3 : (on : Int) ≤ (oc : Int) := by omega
        have i4 : 1 ≤ on := h1
        have i5 : on ≤ oc := hcap.1
        clear F T5 o5 hrd x0 x1 hx0 hx1 hc1 hcap
        go_wp2
        go_ret
        exact HF.out
      ·have e3 : x = 3 := by omega
       subst e3
       clear x0 x1 hx0 hx1 hx2
       go_wp2_with fail
       refine (odd p A n c _ T5.d).mono ?_
       rintro e u5 ⟨y, rfl, d1, g1⟩
       have T6 := T5.dice d1 g1
       have o6 := Own.far o5 g1 (fun k hk => by injection hk; omega)
       have z6 := T6.r.lt
       clear T5 o5 d1 g1
       go_wp2_with (at_builtin; refine app1 rfl _ _ rfl (w.heap.size + 1) (some ⟨gg, 0, none⟩) on oc xs rfl (Own.alloc o6 _) u5.heap.size 1 y rfl ((Row.new _ _ _).cell 0) (by omega) (by simp; omega) ?_; intro O' oc' u6 o7 b7)
       have T7 := (T6.below ((Below.refl _ _).alloc (by omega) (.cells #[.int .i64 y] 2))).below b7
       have F : AnsRN w p A n c 65 (.returned (.slice O' (on + 1) oc')) u6 := ansRN_own o7 hp1 (by omega) (by omega) T7.d T7.g
       have HF := hid F
       clear F T7 T6 o6 o7 b7
       go_wp2
       go_ret
       exact HF.out
theorem drawAny (p : Nat) (A : Option Addr) (n c : Nat) (S : Option Addr) (sn sc : Nat) (sg : List Int) (w : World) (hd : Dice w p A n c) (hr : Rd w p w.heap.size S sn sg) (hsn : sn ≤ 1048576) :
  Calls Tryz.prog 53 #[.pointer (some ⟨p, 0, none⟩), .agg #[.slice S sn sc]] w (AnsR w p A n c 65) :=
 (drawAnyN p A n c S sn sc sg w hd hr hsn).mono fun _ _ ⟨O, on, oc, xs, h1, h2, h3, h4, h5, h6, h7, h8, _⟩ => ⟨O, on, oc, xs, h1, h2, h3, h4, h5, h6, h7, h8⟩
end drawAny
end
section
namespace drawX
open Go.RowKit base ints sig cursor marks app appAt sym segs shape dice
def RdQ (w : World) (Q : Nat → Prop) : (s : Sh) → List Value → Dat s → Prop
 | .num, cs, (x : Int) => cs = [.int .i64 x]
 | .bit, cs, (x : Bool) => cs = [.bool x]
 | .row _ s, cs, (d : List (Dat s)) => ∃ A n c, cs = [.slice A n c] ∧ Cap A n c ∧ d.length = n ∧
   (0 < n → ∃ b off, A = some ⟨b, off, none⟩ ∧ Q b ∧ ∀ j, j < n → ∃ es, es.length = nc s ∧ Piece w b (off + j * nc s) es ∧ RdQ w Q s es (d.getD j (dft s)))
 | .cat a b, cs, d => ∃ ca cb, cs = ca ++ cb ∧ RdQ w Q a ca d.1 ∧ RdQ w Q b cb d.2
section
variable {w w' : World} {Q Q' : Nat → Prop} {B : Nat}
theorem RdQ.keep (hk : ∀ b, Q b → w'.heap[b]? = w.heap[b]?) : ∀ {s : Sh} {cs : List Value} {d : Dat s}, RdQ w Q s cs d → RdQ w' Q s cs d
 | .num, _, _, h => h
 | .bit, _, _, h => h
 | .row _ s, _, _, h => by
  obtain ⟨A, n, c, e, hc, hl, h1⟩ := h
  refine ⟨A, n, c, e, hc, hl, fun hn => ?_⟩
  obtain ⟨b, off, e2, hb, h2⟩ := h1 hn
  refine ⟨b, off, e2, hb, fun j hj => ?_⟩
  obtain ⟨es, he, hp, hr⟩ := h2 j hj
  exact ⟨es, he, hp.keep (fun p hp => World.cell?_of_block (by rw [hp]; exact hk b hb)), hr.keep hk⟩
 | .cat a b, _, _, h => by
  obtain ⟨ca, cb, e, h1, h2⟩ := h
  exact ⟨ca, cb, e, h1.keep hk, h2.keep hk⟩
theorem RdQ.mono (hk : ∀ b, Q b → Q' b) : ∀ {s : Sh} {cs : List Value} {d : Dat s}, RdQ w Q s cs d → RdQ w Q' s cs d
 | .num, _, _, h => h
 | .bit, _, _, h => h
 | .row _ s, _, _, h => by
  obtain ⟨A, n, c, e, hc, hl, h1⟩ := h
  refine ⟨A, n, c, e, hc, hl, fun hn => ?_⟩
  obtain ⟨b, off, e2, hb, h2⟩ := h1 hn
  refine ⟨b, off, e2, hk b hb, fun j hj => ?_⟩
  obtain ⟨es, he, hp, hr⟩ := h2 j hj
  exact ⟨es, he, hp, hr.mono hk⟩
 | .cat a b, _, _, h => by
  obtain ⟨ca, cb, e, h1, h2⟩ := h
  exact ⟨ca, cb, e, h1.mono hk, h2.mono hk⟩
theorem RdQ.rd (hk : ∀ b, Q b → b < B) : ∀ {s : Sh} {cs : List Value} {d : Dat s}, RdQ w Q s cs d → Rd w B s cs d
 | .num, _, _, h => h
 | .bit, _, _, h => h
 | .row _ s, _, _, h => by
  obtain ⟨A, n, c, e, hc, hl, h1⟩ := h
  refine ⟨A, n, c, e, hc, hl, fun hn => ?_⟩
  obtain ⟨b, off, e2, hb, h2⟩ := h1 hn
  refine ⟨b, off, e2, hk b hb, fun j hj => ?_⟩
  obtain ⟨es, he, hp, hr⟩ := h2 j hj
  exact ⟨es, he, hp, hr.rd hk⟩
 | .cat a b, _, _, h => by
  obtain ⟨ca, cb, e, h1, h2⟩ := h
  exact ⟨ca, cb, e, h1.rd hk, h2.rd hk⟩
theorem RdQ.len : ∀ {s : Sh} {cs : List Value} {d : Dat s}, RdQ w Q s cs d → cs.length = nc s
 | .num, _, _, h => by have h : _ = _ := h; rw [h]; rfl
 | .bit, _, _, h => by have h : _ = _ := h; rw [h]; rfl
 | .row _ _, _, _, h => by obtain ⟨A, n, c, e, _⟩ := h; rw [e]; rfl
 | .cat a b, _, _, h => by
  obtain ⟨ca, cb, e, h1, h2⟩ := h
  rw [e, List.length_append, h1.len, h2.len]; rfl
theorem RdQ.cat {a b : Sh} {ca cb : List Value} {x : Dat a} {y : Dat b} (h1 : RdQ w Q a ca x) (h2 : RdQ w Q b cb y) : RdQ w Q (.cat a b) (ca ++ cb) (x, y) := ⟨ca, cb, rfl, h1, h2⟩
theorem RdQ.one : ∀ {s : Sh} {cs : List Value} {d : Dat s}, RdQ w Q s cs d → ∀ u ∈ cs, u.oneCell' = true
 | .num, _, _, h, u, hu => by have h : _ = _ := h; rw [h] at hu; rw [List.mem_singleton.1 hu]; rfl
 | .bit, _, _, h, u, hu => by have h : _ = _ := h; rw [h] at hu; rw [List.mem_singleton.1 hu]; rfl
 | .row _ _, _, _, h, u, hu => by obtain ⟨A, n, c, e, _⟩ := h; rw [e] at hu; rw [List.mem_singleton.1 hu]; rfl
 | .cat a b, _, _, h, u, hu => by
  obtain ⟨ca, cb, e, h1, h2⟩ := h
  rw [e] at hu
  rcases List.mem_append.1 hu with hu | hu
  ·exact h1.one u hu
  ·exact h2.one u hu
theorem rdq_seg {A : Option Addr} {n c : Nat} {xs : List Int} (hl : xs.length = n) (hc : Cap A n c) (h : 0 < n → ∃ b off, A = some ⟨b, off, none⟩ ∧ Q b ∧ ∀ j, j < n → w.cell? ⟨b, off + j, none⟩ = some (.int .i64 (xs.getD j 0))) : RdQ w Q sI [.slice A n c] xs := by
 refine ⟨A, n, c, rfl, hc, hl, fun hn => ?_⟩
 obtain ⟨b, off, e2, hb, h2⟩ := h hn
 refine ⟨b, off, e2, hb, fun j hj => ⟨[.int .i64 (xs.getD j 0)], rfl, fun i hi => ?_, rfl⟩⟩
 have hi : i = 0 := by simpa using hi
 subst hi
 show w.cell? ⟨b, off + j * 1 + 0, none⟩ = some (.int .i64 (xs.getD j 0))
 rw [Nat.mul_one, Nat.add_zero]
 exact h2 j hj
theorem rdq_own {lo : Nat} {A : Option Addr} {n c : Nat} {xs : List Int} (h : Own w lo (.slice A n c) xs) (hQ : ∀ b, lo ≤ b → b < w.heap.size → blk A = some b → Q b) : RdQ w Q sI [.slice A n c] xs := by
 have hl := Own.len h
 refine rdq_seg hl.symm (Go.Proofs.YtmoidijngeijkaaGreat.kinds.Ownd.cap (Go.Proofs.YtmoidijngeijkaaGreat.kinds.Ownd.of_own h)) fun hn => ?_
 obtain ⟨b, off, e, hb, hc⟩ := (Own.seg h).2 hn
 have hk : blk A = some b := by rw [e]; rfl
 exact ⟨b, off, e, hQ b (World.ownsRow.lt h b (by rw [blk_own]; exact hk)).1 hb hk, hc⟩
end
def Out (w : World) (p : Nat) (b : Nat) : Prop := b < w.heap.size ∧ b ≠ p
def OutR (w : World) (p : Nat) (r : Option Nat) (b : Nat) : Prop := b < w.heap.size ∧ b ≠ p ∧ some b ≠ r
section
variable {w w' : World} {p : Nat} {r : Option Nat} {s : Sh} {cs : List Value} {d : Dat s}
theorem out_dice (h : RdQ w (Out w p) s cs d) (hg : w.grownBy w' (some p)) : RdQ w' (Out w' p) s cs d :=
 (h.keep fun b hb => hg.block b hb.1 (fun e => hb.2 (by injection e))).mono fun b hb => ⟨Nat.lt_of_lt_of_le hb.1 hg.size, hb.2⟩
theorem out_below (h : RdQ w (Out w p) s cs d) (hb : Below w.heap.size w w') : RdQ w' (Out w' p) s cs d :=
 (h.keep fun b h => hb.block b h.1).mono fun b h => ⟨Nat.lt_of_lt_of_le h.1 hb.size, h.2⟩
theorem outR_dice (h : RdQ w (OutR w p r) s cs d) (hg : w.grownBy w' (some p)) : RdQ w' (OutR w' p r) s cs d :=
 (h.keep fun b hb => hg.block b hb.1 (fun e => hb.2.1 (by injection e))).mono fun b hb => ⟨Nat.lt_of_lt_of_le hb.1 hg.size, hb.2⟩
theorem outR_below (h : RdQ w (OutR w p r) s cs d) (hb : Below w.heap.size w w') : RdQ w' (OutR w' p r) s cs d :=
 (h.keep fun b h => hb.block b h.1).mono fun b h => ⟨Nat.lt_of_lt_of_le h.1 hb.size, h.2⟩
theorem out_rd (h : RdQ w (Out w p) s cs d) : Rd w w.heap.size s cs d := h.rd fun _ h => h.1
end
def cellsOf (k : Nat) (vs : List Value) (j : Nat) : List Value := (vs.drop (j * k)).take k
def OwnQ (w : World) (p lo : Nat) (e : TypeId) (s : Sh) (A : Option Addr) (n c : Nat) (D : List (Dat s)) : Prop :=
 D.length = n ∧ ∃ vs : List Value, w.ownsRow lo e (nc s) (.slice A n c) n vs ∧ ∀ j, j < n → RdQ w (OutR w p (blk A)) s (cellsOf (nc s) vs j) (D.getD j (dft s))
section
variable {w w' : World} {p lo n c : Nat} {e : TypeId} {s : Sh} {A : Option Addr} {D : List (Dat s)}
theorem OwnQ.nil (w : World) (p lo : Nat) (e : TypeId) (s : Sh) : OwnQ w p lo e s none 0 0 [] := ⟨rfl, [], ⟨by simp, .inl ⟨rfl, rfl⟩⟩, fun j hj => absurd hj (Nat.not_lt_zero _)⟩
theorem OwnQ.below (h : OwnQ w p lo e s A n c D) (hb : Below w.heap.size w w') : OwnQ w' p lo e s A n c D := by
 obtain ⟨h1, vs, h2, h3⟩ := h
 exact ⟨h1, vs, World.ownsRow.kept h2 ⟨hb.os, hb.tape, hb.output, hb.size, fun k hk _ => hb.block k hk⟩ (row := none) (by cases (Value.slice A n c).ownBlock <;> simp), fun j hj => outR_below (h3 j hj) hb⟩
theorem OwnQ.dice (h : OwnQ w p lo e s A n c D) (hg : w.grownBy w' (some p)) (hp : p < lo) : OwnQ w' p lo e s A n c D := by
 obtain ⟨h1, vs, h2, h3⟩ := h
 refine ⟨h1, vs, World.ownsRow.kept h2 hg ?_, fun j hj => outR_dice (h3 j hj) hg⟩
 cases e : (Value.slice A n c).ownBlock with
 | none => exact .inl rfl
 | some k =>
  refine .inr (fun e2 => ?_)
  have := (World.ownsRow.lt h2 k e).1
  injection e2 with e2
  omega
theorem OwnQ.lower {lo' : Nat} (h : OwnQ w p lo e s A n c D) (h1 : lo' ≤ lo) : OwnQ w p lo' e s A n c D := by
 obtain ⟨h3, vs, ho, h4⟩ := h
 refine ⟨h3, vs, ⟨ho.1, ?_⟩, h4⟩
 rcases ho.2 with q2 | ⟨g, cap, cur, hv, hg, q⟩
 ·exact .inl q2
 ·exact .inr ⟨g, cap, cur, hv, by omega, q⟩
theorem OwnQ.ge (h : OwnQ w p lo e s A n c D) : ∀ k, blk A = some k → lo ≤ k ∧ k < w.heap.size := fun k hk => by
 obtain ⟨_, vs, ho, _⟩ := h
 exact World.ownsRow.lt ho k (by rw [blk_own]; exact hk)
theorem OwnQ.rdq {e0 : TypeId} (h : OwnQ w p lo e s A n c D) (hp : p < lo) : RdQ w (Out w p) (.row e0 s) [.slice A n c] D := by
 obtain ⟨h1, vs, ho, h3⟩ := h
 rcases ho.2 with ⟨e1, h0⟩ | ⟨g, cap, cur, e1, hg, hrow, hn, hm, hs, ht⟩
 ·injection e1 with a1 a2 a3
  subst a1 a2 a3
  exact ⟨none, 0, 0, rfl, ⟨by omega, by omega, fun _ => rfl⟩, h1, fun h => absurd h (by omega)⟩
 ·injection e1 with a1 a2 a3
  subst a1 a3
  refine ⟨_, n, c, rfl, ⟨hn, by unfold maxLen at hm; omega, fun e => by cases e⟩, h1, fun h0 => ⟨g, 0, rfl, ⟨(Array.getElem?_eq_some_iff.1 hrow).1, by omega⟩, fun j hj => ⟨cellsOf (nc s) vs j, ?_, fun i hi => ?_, (h3 j hj).mono fun b h => ⟨h.1, h.2.1⟩⟩⟩⟩
  ·exact (h3 j hj).len
  ·have hl := (h3 j hj).len
   have hi : i < nc s := by omega
   have hjn : j * nc s + nc s ≤ n * nc s := by
    have := Nat.mul_le_mul_right (nc s) (show j + 1 ≤ n by omega)
    rw [Nat.add_mul] at this
    omega
   rw [Nat.zero_add, Row.cell (t := e) (cs := cur) hrow]
   have h5 : cur.toList[j * nc s + i]? = vs[j * nc s + i]? := by
    rw [← ht, List.getElem?_take, if_pos (by omega)]
   rw [← Array.getElem?_toList, h5]
   unfold cellsOf
   rw [List.getElem?_take, if_pos hi, List.getElem?_drop]
theorem ownQ_app {vs es : List Value} {x : Dat s} {A' : Option Addr} {c' : Nat} (hl : D.length = n) (hr : w.ownsRow lo e (nc s) (.slice A n c) n vs) (hin : ∀ j, j < n → RdQ w (OutR w p (blk A)) s (cellsOf (nc s) vs j) (D.getD j (dft s))) (hv : RdQ w (OutR w p (blk A)) s es x)
  (hown' : w'.ownsRow lo e (nc s) (.slice A' (n + 1) c') (n + 1) (vs ++ es)) (hg : w.grownBy w' (blk A)) (hat : blk A' = blk A ∨ blk A' = some w.heap.size) : OwnQ w' p lo e s A' (n + 1) c' (D ++ [x]) := by
 have hvl : vs.length = n * nc s := hr.1
 have hel := hv.len
 have keep : ∀ {us : List Value} {y : Dat s}, RdQ w (OutR w p (blk A)) s us y → RdQ w' (OutR w' p (blk A')) s us y := fun {us y} hu =>
  (hu.keep fun b hb => hg.block b hb.1 (fun e => hb.2.2 e)).mono fun b hb => ⟨Nat.lt_of_lt_of_le hb.1 hg.size, hb.2.1, by
   rcases hat with e2 | e2
   ·rw [e2]; exact hb.2.2
   ·rw [e2]; intro e3; injection e3 with e3; have := hb.1; omega⟩
 refine ⟨by simp [hl], vs ++ es, hown', fun j hj => ?_⟩
 by_cases ej : j = n
 ·subst ej
  rw [show (D ++ [x]).getD j (dft s) = x by simp [List.getD, ← hl]]
  have : cellsOf (nc s) (vs ++ es) j = es := by
   unfold cellsOf
   rw [List.drop_append_of_le_length (by omega), List.drop_of_length_le (by omega), List.nil_append, List.take_of_length_le (by omega)]
  rw [this]
  exact keep hv
 ·rw [show (D ++ [x]).getD j (dft s) = D.getD j (dft s) by simp [List.getD, List.getElem?_append_left (show j < D.length by omega)]]
  have hjn : j * nc s + nc s ≤ n * nc s := by
   have := Nat.mul_le_mul_right (nc s) (show j + 1 ≤ n by omega)
   rw [Nat.add_mul] at this
   omega
  have : cellsOf (nc s) (vs ++ es) j = cellsOf (nc s) vs j := by
   unfold cellsOf
   rw [List.drop_append_of_le_length (by omega), List.take_append_of_le_length (by rw [List.length_drop]; omega)]
  rw [this]
  exact keep (hin j (by omega))
end
theorem appQ1 {w : World} {ops : Array Oper} {rest : List Oper} {o : Oper} {a : Act} {Q : Exit → Act → World → Prop} (hgd : o.guard = none) (sx x : Operand) (T e : TypeId) (s : Sh) (z : Value) (bytes : Nat) (hT : Tryz.prog.underlying T = some (.slice e))
  (hI : (Tryz.prog.info? e).map (fun i => (i.zero, i.size, i.bytes)) = some (some z, nc s, bytes)) (hzc : z.cells.size = nc s) (hby : bytes ≤ 4096)
  (ho : o.op = .call { callee := .builtin .append, args := #[sx, x], argTypes := #[T, T] })
  (p lo : Nat) (A : Option Addr) (n c : Nat) (D : List (Dat s)) (hs : a.eval sx = .slice A n c) (hown : OwnQ w p lo e s A n c D)
  (g c2 : Nat) (es : List Value) (y : Dat s) (hx : a.eval x = .slice (some ⟨g, 0, none⟩) 1 c2) (hy : ∀ i, i < es.length → w.cell? ⟨g, i, none⟩ = es[i]?) (hv : RdQ w (OutR w p (blk A)) s es y) (hn : n ≤ 1048576) (hlo : lo ≤ w.heap.size)
  (h : ∀ A' c' w', OwnQ w' p lo e s A' (n + 1) c' (D ++ [y]) → w.grownBy w' (blk A) → (blk A' = blk A ∨ blk A' = some w.heap.size) → Below lo w w' → wpList Tryz.prog ops Q rest (a.put o.dst (.slice A' (n + 1) c')) w') : wpList Tryz.prog ops Q (o :: rest) a w := by
 obtain ⟨i0, hi, hz0, hz1, hz2⟩ := info_parts hI
 obtain ⟨hlen, vs, hr, hin⟩ := hown
 have hel := hv.len
 refine wpList_append_own_at w hgd sx x T ho lo e i0 z (nc s) bytes hT hi hz0 hz1 hz2 hzc (nc_pos s) (.slice A n c) n vs hs hr
  ⟨g, 0, none⟩ 1 c2 es hx (by rw [hel]; simp) (fun j u hj => ?_) hv.one (by unfold maxLen; omega) (by have h1 : (n + 1) * bytes ≤ 1048577 * 4096 := Nat.mul_le_mul (by omega) hby; omega) hlo ?_
 ·have hj2 : j < es.length := (List.getElem?_eq_some_iff.1 hj).1
  have := hy j hj2
  rw [hj] at this
  have e2 : (⟨g, 0, none⟩ : Addr).add j = ⟨g, j, none⟩ := by unfold Addr.add; split <;> simp_all
  rw [e2]; exact this
 ·intro v' w' hown' hg _ hat
  have hform : ∃ A' c', v' = .slice A' (n + 1) c' := by
   rcases hown'.2 with ⟨_, h0⟩ | ⟨g', cap, cur, e, _⟩
   ·omega
   ·exact ⟨_, _, e⟩
  obtain ⟨A', c', rfl⟩ := hform
  rw [blk_own] at hg
  rw [blk_own, blk_own] at hat
  exact h A' c' w' (ownQ_app hlen hr hin hv hown' hg hat) hg hat ((Below.refl lo w).grown hg hlo (fun k hk => (World.ownsRow.lt hr k (by rw [blk_own]; exact hk)).1))
theorem stepQ1 {w : World} {ops : Array Oper} {o : Oper} {a : Act} {K : Act → World → Prop} {Q : Exit → Act → World → Prop} {E : Prop} (hgd : o.guard = none) (sx x : Operand) (T e : TypeId) (s : Sh) (z : Value) (bytes : Nat) (hT : Tryz.prog.underlying T = some (.slice e))
  (hI : (Tryz.prog.info? e).map (fun i => (i.zero, i.size, i.bytes)) = some (some z, nc s, bytes)) (hzc : z.cells.size = nc s) (hby : bytes ≤ 4096)
  (ho : o.op = .call { callee := .builtin .append, args := #[sx, x], argTypes := #[T, T] })
  (p lo : Nat) (A : Option Addr) (n c : Nat) (D : List (Dat s)) (hs : a.eval sx = .slice A n c) (hown : OwnQ w p lo e s A n c D)
  (g c2 : Nat) (es : List Value) (y : Dat s) (hx : a.eval x = .slice (some ⟨g, 0, none⟩) 1 c2) (hy : ∀ i, i < es.length → w.cell? ⟨g, i, none⟩ = es[i]?) (hv : RdQ w (OutR w p (blk A)) s es y) (hn : n ≤ 1048576) (hlo : lo ≤ w.heap.size)
  (h : ∀ g' c' w', OwnQ w' p lo e s (some ⟨g', 0, none⟩) (n + 1) c' (D ++ [y]) → w.grownBy w' (blk A) → (blk A = some g' ∨ g' = w.heap.size) → g' < w'.heap.size → K (a.put o.dst (.slice (some ⟨g', 0, none⟩) (n + 1) c')) w') :
  if Region.wanted o (yielded ops a.tmps) = true then Oper.wp Tryz.prog o a w K Q else E := by
 obtain ⟨i0, hi, hz0, hz1, hz2⟩ := info_parts hI
 obtain ⟨hlen, vs, hr, hin⟩ := hown
 have hel := hv.len
 refine step_append_lies w hgd sx x T ho lo e i0 z (nc s) bytes hT hi hz0 hz1 hz2 hzc (nc_pos s) (.slice A n c) n vs hs hr
  ⟨g, 0, none⟩ 1 c2 es hx (by rw [hel]; simp) (fun j u hj => ?_) hv.one (by omega) (by unfold maxLen; omega) (by have h1 : (n + 1) * bytes ≤ 1048577 * 4096 := Nat.mul_le_mul (by omega) hby; omega) hlo w.heap.size rfl ?_
 ·have hj2 : j < es.length := (List.getElem?_eq_some_iff.1 hj).1
  have := hy j hj2
  rw [hj] at this
  have e2 : (⟨g, 0, none⟩ : Addr).add j = ⟨g, j, none⟩ := by unfold Addr.add; split <;> simp_all
  rw [e2]; exact this
 ·intro g' c' w' hown' hg hat hlt
  rw [blk_own] at hg hat
  exact h g' c' w' (ownQ_app hlen hr hin hv hown' hg (hat.imp (fun e => e.symm) (fun e => by rw [← e]; rfl))) hg hat hlt
end drawX
end
section
namespace kindsR
open Go.RowKit base ints sig cursor marks app sym appAt segs segsHelp segsMark kinds shape
set_option maxRecDepth 100000
abbrev sSig : Sh := sI
abbrev sRule : Sh := .cat sI sI
theorem parts_Rule {w : World} {B : Nat} {v0 v1 : Value} {d : Dat sRule} (h : Rd w B sRule [v0, v1] d) : Rd w B sI [v0] d.1 ∧ Rd w B sI [v1] d.2 := by
 obtain ⟨p0, q0⟩ := Rd.split (ca := [v0]) (cb := [v1]) h rfl
 exact ⟨p0, q0⟩
theorem cells_Rule {w : World} {B : Nat} {es : List Value} {d : Dat sRule} (h : Rd w B sRule es d) : ∃ (v0 : Value) (v1 : Value), es = [v0, v1] := by
 obtain ⟨ca0, cb0, e0, p0, q0⟩ := h
 obtain ⟨A0, n0, c0, z0, -⟩ := p0
 obtain ⟨A1, n1, c1, z1, -⟩ := q0
 exact ⟨.slice A0 n0 c0, .slice A1 n1 c1, by rw [e0, z0, z1] <;> rfl⟩
abbrev sRuleS : Sh := .row 126 sRule
theorem info_RuleS : (Tryz.prog.info? 126).map (fun i => (i.zero, i.size, i.bytes)) = some (some (.agg #[.slice none 0 0, .slice none 0 0]), 2, 48) := by kernel_rfl
abbrev sSystem : Sh := .cat sSig sRuleS
theorem parts_System {w : World} {B : Nat} {v0 v1 : Value} {d : Dat sSystem} (h : Rd w B sSystem [v0, v1] d) : Rd w B sSig [v0] d.1 ∧ Rd w B sRuleS [v1] d.2 := by
 obtain ⟨p0, q0⟩ := Rd.split (ca := [v0]) (cb := [v1]) h rfl
 exact ⟨p0, q0⟩
end kindsR
end
section
namespace sub
open Go.RowKit base ints marks app sym
theorem Seg.cut {w : World} {B b off m a j : Nat} {t : List Int} (h : Seg w B (some ⟨b, off, none⟩) m t) (hj : a + j ≤ m) : Seg w B (some ⟨b, off + a, none⟩) j ((t.drop a).take j) := by
 refine ⟨by have := h.1; simp; omega, fun hn => ?_⟩
 obtain ⟨b', off', e, hb, hc⟩ := h.2 (by omega)
 injection e with e
 injection e with e1 e2
 subst e1 e2
 refine ⟨_, _, rfl, hb, fun q hq => ?_⟩
 rw [Nat.add_assoc, hc (a + q) (by omega)]
 simp [List.getD, List.getElem?_take, hq]
set_option maxHeartbeats 400000 in
theorem copyInts (S : Option Addr) (m c : Nat) (ys : List Int) (w : World) (h : Seg w w.heap.size S m ys) (hnone : S = none → c = 0) (hm : m ≤ 1048576) :
  Calls Tryz.prog 39 #[.slice S m c] w (AnsList w ys) := by
 have ho := own_empty w w.heap.size (Nat.le_refl _)
 have bb : Below w.heap.size w (w.alloc (.cells #[] 2)) := (Below.refl _ _).alloc (Nat.le_refl _) _
 have hs := h.alloc (Nat.le_refl _) (.cells #[] 2)
 have HN := Lib.hid hnone
 clear hnone h
 go_enter Tryz.func39, Tryz.ntmps39
 go_wp2_with (at_builtin; refine appAll rfl _ _ rfl w.heap.size (some ⟨w.heap.size, 0, none⟩) 0 0 [] rfl ho S m c w.heap.size ys rfl hs HN.out (by omega) (by omega) (by simp) ?_; intro A' c' w' ho' b')
 simp only [Nat.zero_add, List.nil_append] at ho'
 have F : AnsList w ys (.returned (.slice A' m c')) w' := ⟨A', m, c', rfl, ho', bb.trans b'⟩
 have HF := Lib.hid F
 clear F ho' b' bb hs ho
 go_wp2
 go_ret
 exact HF.out
set_option maxHeartbeats 400000 in
theorem cloneInts (b off m c : Nat) (ys : List Int) (w : World) (h : Seg w w.heap.size (some ⟨b, off, none⟩) m ys) (hm : m ≤ 1048576) :
  Calls Tryz.prog 48 #[.slice (some ⟨b, off, none⟩) m c] w (AnsList w ys) := by
 have ho := own_empty w w.heap.size (Nat.le_refl _)
 have bb : Below w.heap.size w (w.alloc (.cells #[] 2)) := (Below.refl _ _).alloc (Nat.le_refl _) _
 have hs := h.alloc (Nat.le_refl _) (.cells #[] 2)
 clear h
 have hnil : ∀ (w : World) (a : Option Addr) (n c n' c' : Nat), (binOp .eql 24 (.slice a n c) (.slice none n' c')).run Tryz.prog w = .ok (.bool a.isNone) w := fun w a n c n' c' => Lib.run_eql_slice_nil w _ _ a n c n' c' Tryz.underlying24
 go_enter Tryz.func48, Tryz.ntmps48
 go_wp2_with (at_builtin; refine appAll rfl _ _ rfl w.heap.size (some ⟨w.heap.size, 0, none⟩) 0 0 [] rfl ho (some ⟨b, off, none⟩) m c w.heap.size ys rfl hs (fun e => by cases e) (by omega) (by omega) (by simp) ?_; intro A' c' w' ho' b')
 simp only [Nat.zero_add, List.nil_append] at ho'
 have F : AnsList w ys (.returned (.slice A' m c')) w' := ⟨A', m, c', rfl, ho', bb.trans b'⟩
 have HF := Lib.hid F
 clear F ho' b' bb hs ho hnil
 go_wp2
 go_ret
 exact HF.out
end sub
end
section
namespace varsOf
open Go.RowKit base ints sig term termOk marks app sym sub segs varsMath termFacts
set_option maxRecDepth 100000
theorem Seg.pre {w : World} {B n k : Nat} {A : Option Addr} {xs : List Int} (h : Seg w B A n xs) (hk : k ≤ n) : Seg w B A k (xs.take k) := by
 refine ⟨by have := h.1; simp; omega, fun h0 => ?_⟩
 obtain ⟨b, off, e, hb, hc⟩ := h.2 (by omega)
 refine ⟨b, off, e, hb, fun j hj => ?_⟩
 rw [hc j (by omega)]
 simp [List.getD, List.getElem?_take, hj]
end varsOf
end
section
namespace varsOf
open Go.RowKit base
def AnsB (w : World) (b : Bool) (e : Ending) (w' : World) : Prop := e = .returned (.bool b) ∧ Below w.heap.size w w'
theorem ansB {w w' : World} {a b : Bool} (h : a = b) (hb : Below w.heap.size w w') : AnsB w b (.returned (.bool a)) w' := ⟨by rw [h], hb⟩
end varsOf
end
section
namespace varsOf
open Go.RowKit base ints sig term termOk marks app sym sub segs varsMath termFacts
set_option maxRecDepth 100000
def AnsSeg (w : World) (ys : List Int) (e : Ending) (w' : World) : Prop := ∃ A n c, e = .returned (.slice A n c) ∧ Seg w' w'.heap.size A n ys ∧ Below w.heap.size w w'
end varsOf
end
section
namespace count
open Go.RowKit base ints sig term termOk
def cnt (t : List Int) (x : Int) (k : Nat) : Nat := (t.take k).count x
end count
end
section
namespace linear
open Go.RowKit base ints sig term termOk marks sym count varsMath termFacts varsOf
set_option maxRecDepth 100000
def many (t : List Int) (x : Int) : Nat := cnt t x t.length
end linear
end
section
namespace renMath
open sig term termOk termFacts varsMath fillMath
def idx : List Int → Int → Nat
 | [], _ => 0
 | y :: r, x => if y = x then 0 else idx r x + 1
theorem idx_first : ∀ {o : List Int} {x : Int} {k : Nat}, k < o.length → (∀ j, j < k → o.getD j 0 ≠ x) → o.getD k 0 = x → idx o x = k
 | y :: r, x, 0, _, _, h => by
  have h : y = x := by simpa using h
  rw [idx, if_pos h]
 | y :: r, x, k + 1, hk, hl, h => by
  have h0 : ¬ y = x := by simpa using hl 0 (by omega)
  rw [idx, if_neg h0, idx_first (k := k) (by simpa using hk) (fun j hj => by simpa using hl (j + 1) (by omega)) (by simpa using h)]
def ext (o : List Int) (x : Int) : List Int := if x ∈ o then o else o ++ [x]
def extV (o : List Int) (x : Int) : List Int := if x < 0 then ext o x else o
def orderL (t : List Int) : List Int := t.foldl extV []
theorem order_take {t : List Int} {k : Nat} {x : Int} (hk : k < t.length) (hx : t.getD k 0 = x) : orderL (t.take (k + 1)) = extV (orderL (t.take k)) x := by
 unfold orderL
 rw [take_snoc hk hx, List.foldl_append]
 rfl
theorem ext_mem {o : List Int} {x y : Int} : y ∈ ext o x ↔ y = x ∨ y ∈ o := by
 unfold ext
 split
 ·rename_i h
  exact ⟨fun e => .inr e, fun e => by rcases e with e | e; exact e ▸ h; exact e⟩
 ·rw [List.mem_append, List.mem_singleton, or_comm]
theorem extV_mem {o : List Int} {x y : Int} : y ∈ extV o x ↔ (y = x ∧ x < 0) ∨ y ∈ o := by
 unfold extV
 split
 ·rename_i h
  rw [ext_mem]
  exact ⟨fun e => by rcases e with e | e; exact .inl ⟨e, h⟩; exact .inr e, fun e => by rcases e with e | e; exact .inl e.1; exact .inr e⟩
 ·rename_i h
  exact ⟨fun e => .inr e, fun e => by rcases e with e | e; exact absurd e.2 h; exact e⟩
theorem fold_ext_mem {y : Int} : ∀ {l o : List Int}, y ∈ l.foldl extV o ↔ (y ∈ l ∧ y < 0) ∨ y ∈ o
 | [], o => by simp
 | x :: l, o => by
  rw [List.foldl_cons, fold_ext_mem, extV_mem, List.mem_cons]
  constructor
  ·rintro (⟨h, h0⟩ | ⟨rfl, h0⟩ | h)
   ·exact .inl ⟨.inr h, h0⟩
   ·exact .inl ⟨.inl rfl, h0⟩
   ·exact .inr h
  ·rintro (⟨rfl | h, h0⟩ | h)
   ·exact .inr (.inl ⟨rfl, h0⟩)
   ·exact .inl ⟨h, h0⟩
   ·exact .inr (.inr h)
theorem ext_len (o : List Int) (x : Int) : (ext o x).length ≤ o.length + 1 := by unfold ext; split <;> simp
theorem fold_ext_len : ∀ (l o : List Int), (l.foldl extV o).length ≤ o.length + l.length
 | [], _ => by simp
 | x :: l, o => by
  have h1 := fold_ext_len l (extV o x)
  have h2 : (extV o x).length ≤ o.length + 1 := by unfold extV; split; exact ext_len o x; simp
  simp
  omega
theorem order_len (t : List Int) : (orderL t).length ≤ t.length := by have := fold_ext_len t []; simpa [orderL] using this
end renMath
end
section
namespace ruleMath
open sig term termOk termFacts varsMath count linear renMath
abbrev Rl := List Int × List Int
def hd (t : List Int) : Int := t.getD 0 0
def newB (l : List Int) (x : Int) : Bool := decide (x < 0 ∧ x ∉ l)
def ruleOkB (sg : List Int) (r : Rl) : Bool := termOkB sg r.1 && (termOkB sg r.2 && (!decide (hd r.1 < 0) && !r.2.any (newB r.1)))
def sysOkB (sg : List Int) (rs : List Rl) : Bool := sigOkB sg && (decide (rs.length ≤ 12) && rs.all (ruleOkB sg))
theorem rule_parts {sg : List Int} {r : Rl} (h : ruleOkB sg r = true) : termOkB sg r.1 = true ∧ termOkB sg r.2 = true ∧ 0 ≤ hd r.1 ∧ ∀ x, x ∈ r.2 → x < 0 → x ∈ r.1 := by
 unfold ruleOkB at h
 simp only [Bool.and_eq_true, Bool.not_eq_true', decide_eq_false_iff_not] at h
 refine ⟨h.1, h.2.1, by omega, fun x hx h0 => ?_⟩
 have h1 := h.2.2.2
 rw [List.any_eq_false] at h1
 have h2 := h1 x hx
 unfold newB at h2
 simp only [decide_eq_true_eq] at h2
 exact Classical.byContradiction fun hn => h2 ⟨h0, hn⟩
theorem sys_parts {sg : List Int} {rs : List Rl} (h : sysOkB sg rs = true) : sigOkB sg = true ∧ rs.length ≤ 12 ∧ ∀ r ∈ rs, ruleOkB sg r = true := by
 unfold sysOkB at h
 simp only [Bool.and_eq_true, decide_eq_true_eq, List.all_eq_true] at h
 exact ⟨h.1, h.2.1, h.2.2⟩
theorem sys_mk {sg : List Int} {rs : List Rl} (h1 : sigOkB sg = true) (h2 : rs.length ≤ 12) (h3 : ∀ r ∈ rs, ruleOkB sg r = true) : sysOkB sg rs = true := by
 unfold sysOkB
 simp only [Bool.and_eq_true, decide_eq_true_eq, List.all_eq_true]
 exact ⟨h1, h2, h3⟩
theorem sys_sig {sg : List Int} {rs : List Rl} (h : sigOkB sg = false) : sysOkB sg rs = false := by unfold sysOkB; rw [h]; rfl
theorem sys_long {sg : List Int} {rs : List Rl} {n : Nat} (hl : rs.length = n) (h : ¬ n ≤ 12) : sysOkB sg rs = false := by
 unfold sysOkB; rw [hl, decide_eq_false h]; simp
theorem rl_mem {rs : List Rl} {k : Nat} (hk : k < rs.length) : rs.getD k ([], []) ∈ rs := by
 have : rs.getD k ([], []) = rs[k] := by simp [List.getD, hk]
 rw [this]; exact List.getElem_mem hk
theorem sys_bad {sg : List Int} {rs : List Rl} {k : Nat} (hk : k < rs.length) (h : ruleOkB sg (rs.getD k ([], [])) = false) : sysOkB sg rs = false := by
 cases hs : sysOkB sg rs with
 | false => rfl
 | true => have := (sys_parts hs).2.2 _ (rl_mem hk); rw [h] at this; cases this
theorem all_rounds {rs : List Rl} {P : Rl → Prop} (h : ∀ j, j < rs.length → P (rs.getD j ([], []))) : ∀ r ∈ rs, P r := by
 intro r hr
 obtain ⟨i, hi, rfl⟩ := List.getElem_of_mem hr
 have := h i hi
 simpa [List.getD, hi] using this
theorem sys_good {sg : List Int} {rs : List Rl} (h1 : sigOkB sg = true) (h2 : rs.length ≤ 12) (h3 : ∀ j, j < rs.length → ruleOkB sg (rs.getD j ([], [])) = true) : sysOkB sg rs = true :=
 sys_mk h1 h2 (all_rounds h3)
theorem lists_eq {rs rs' : List Rl} (hl : rs.length = rs'.length) (h : ∀ j, j < rs.length → rs.getD j ([], []) = rs'.getD j ([], [])) : rs = rs' :=
 List.ext_getElem hl fun j h1 h2 => by
  have := h j h1
  simpa [List.getD, h1, h2] using this
end ruleMath
end
section
open Go.Lib (hid)
namespace rename
open Go.RowKit base ints sig term termOk marks app sym segs termFacts varsMath varsOf renMath
set_option maxRecDepth 100000
theorem mem_of_get {t : List Int} {k : Nat} {x : Int} (hk : k < t.length) (hx : t.getD k 0 = x) : x ∈ t := by
 rw [← hx]
 simp [List.getD, hk]
theorem not_mem_of {t : List Int} {x : Int} (h : ∀ j, j < t.length → t.getD j 0 ≠ x) : x ∉ t := fun hx => by
 obtain ⟨j, hj, e⟩ := List.getElem_of_mem hx
 exact h j hj (by simp [List.getD, hj, e])
def HeadNo (n : Nat) (xs : List Int) (x : Int) (i : Value) : Prop := ∃ k : Nat, k ≤ n ∧ i = .int .i64 k ∧ ∀ j, j < k → xs.getD j 0 ≠ x
theorem headNo_step {n k : Nat} {xs : List Int} {x y : Int} (hk : k < n) (h : ∀ j, j < k → xs.getD j 0 ≠ x) (hy : Hid (xs.getD k 0 = y)) (hne : ¬ y = x) : HeadNo n xs x (.int .i64 ((k : Int) + 1)) :=
 ⟨k + 1, hk, by simp, fun j hj => by
  by_cases e : j = k
  ·subst e; rw [hy.out]; exact hne
  ·exact h j (by omega)⟩
set_option maxHeartbeats 1000000 in
theorem l1Has (A : Option Addr) (n c : Nat) (xs : List Int) (x : Int) (w : World) (h : Seg w w.heap.size A n xs) (hn : n ≤ 1048576) :
  Calls Tryz.prog 162 #[.slice A n c, .int .i64 x] w fun e w' => w = w' ∧ e = .returned (.bool (decide (x ∈ xs))) := by
 have HX := hid h.1
 go_enter Tryz.func162, Tryz.ntmps162
 go_wp2
 go_loop [5] (fun i => HeadNo n xs x i) (fun i => n - (intOf i).toNat)
 case atStart => exact ⟨0, Nat.zero_le _, rfl, fun j hj => absurd hj (Nat.not_lt_zero _)⟩
 case round =>
  obtain ⟨k, hk, rfl, hlow⟩ := hrel
  by_cases hlt : k < n
  ·obtain ⟨b, off, y, rfl, -, hy, ey⟩ := h.spot hlt
   by_cases he : y = x
   ·subst he
    have F := hid (show y ∈ xs from mem_of_get (by rw [HX.out]; exact hlt) ey.out)
    have e1 : (y == y) = true := by simp
    clear h ey hlow
    go_wp2
    go_ret
    exact ⟨rfl, by rw [decide_eq_true F.out]; rfl⟩
   ·have S := hid (headNo_step hlt hlow ey he)
    have e1 : (y == x) = false := by simp [he]
    clear h ey hlow
    go_wp2
    go_round
    case rel => exact S.out
    case measure => simp [intOf]; omega
  ·have F := hid (not_mem_of (t := xs) (x := x) (fun j hj => hlow j (by rw [HX.out] at hj; omega)))
   clear h hlow
   go_wp2
   go_ret
   exact ⟨rfl, by rw [decide_eq_false F.out]; rfl⟩
def indexI (xs : List Int) (x : Int) : Int := if x ∈ xs then (idx xs x : Int) else -1
set_option maxHeartbeats 1000000 in
theorem indexOf (A : Option Addr) (n c : Nat) (xs : List Int) (x : Int) (w : World) (h : Seg w w.heap.size A n xs) (hn : n ≤ 1048576) :
  Calls Tryz.prog 158 #[.slice A n c, .int .i64 x] w fun e w' => w = w' ∧ e = .returned (.int .i64 (indexI xs x)) := by
 have HX := hid h.1
 go_enter Tryz.func158, Tryz.ntmps158
 go_wp2
 go_loop [8] (fun i => HeadNo n xs x i) (fun i => n - (intOf i).toNat)
 case atStart => exact ⟨0, Nat.zero_le _, rfl, fun j hj => absurd hj (Nat.not_lt_zero _)⟩
 case round =>
  obtain ⟨k, hk, rfl, hlow⟩ := hrel
  by_cases hlt : k < n
  ·obtain ⟨b, off, y, rfl, -, hy, ey⟩ := h.spot hlt
   by_cases he : y = x
   ·subst he
    have F := hid (show indexI xs y = (k : Int) by
     have hkl : k < xs.length := by rw [HX.out]; exact hlt
     unfold indexI
     rw [if_pos (mem_of_get hkl ey.out), idx_first hkl hlow ey.out])
    have e1 : (y == y) = true := by simp
    clear h ey hlow
    go_wp2
    go_ret
    exact ⟨rfl, by rw [F.out]; rfl⟩
   ·have S := hid (headNo_step hlt hlow ey he)
    have e1 : (x == y) = false := by simp; exact fun e => he e.symm
    clear h ey hlow
    go_wp2
    go_round
    case rel => exact S.out
    case measure => simp [intOf]; omega
  ·have F := hid (show indexI xs x = -1 by unfold indexI; rw [if_neg (not_mem_of (fun j hj => hlow j (by rw [HX.out] at hj; omega)))])
   clear h hlow
   go_wp2
   go_ret
   exact ⟨rfl, by rw [F.out]; rfl⟩
def HeadOrd (w : World) (m : Nat) (t : List Int) (out i : Value) (wr : World) : Prop :=
 ∃ (k : Nat) (O : Option Addr) (on oc : Nat), k ≤ m ∧ i = .int .i64 k ∧ out = .slice O on oc ∧ Own wr w.heap.size (.slice O on oc) (orderL (t.take k)) ∧ Below w.heap.size w wr
set_option maxHeartbeats 2000000 in
theorem l2Order (A : Option Addr) (m c : Nat) (t : List Int) (w : World) (h : Seg w w.heap.size A m t) (hm : m ≤ 1048576) :
  Calls Tryz.prog 163 #[.slice A m c] w (AnsList w (orderL t)) := by
 have HL := hid h.1
 have S0 : HeadOrd w m t (.slice (some ⟨w.heap.size, 0, none⟩) 0 0) (.int .i64 0) (w.alloc (.cells #[] 2)) :=
  ⟨0, _, _, _, Nat.zero_le _, rfl, rfl, by simpa [orderL] using own_empty w w.heap.size (Nat.le_refl _), (Below.refl _ _).alloc (Nat.le_refl _) _⟩
 have HS0 := hid S0
 clear S0
 go_enter Tryz.func163, Tryz.ntmps163
 go_wp2_with fail
 go_loopw [3, 4] (fun out i wr => HeadOrd w m t out i wr) (fun _ i _ => m - (intOf i).toNat)
 case atStart => exact HS0.out
 case round =>
  obtain ⟨k, O, on, oc, hk, rfl, rfl, ho, hb⟩ := hrel
  clear HS0
  have hon : on ≤ m := by have h1 := Own.len ho; have h2 := order_len (t.take k); simp at h2; have h3 := HL.out; omega
  by_cases hlt : k < m
  ·obtain ⟨b, off, x, rfl, hbb, hx, ex⟩ := h.spot hlt
   have hx1 : wr.cell? ⟨b, off + k, none⟩ = some (.int .i64 x) := (hb.cell (p := ⟨b, off + k, none⟩) hbb).trans hx
   have E := hid (order_take (t := t) (k := k) (by rw [HL.out]; exact hlt) ex.out)
   have hsz := hb.size
   clear hx h ex
   by_cases hneg : x < 0
   ·have L := hid (l1Has O on oc _ x wr (Own.seg ho) (by omega))
    by_cases hin : x ∈ orderL (t.take k)
    ·have R := hid (show extV (orderL (t.take k)) x = orderL (t.take k) by unfold extV ext; rw [if_pos hneg, if_pos hin])
     rw [decide_eq_true hin] at L
     have S : HeadOrd w m t (.slice O on oc) (.int .i64 ((k : Int) + 1)) wr := ⟨k + 1, O, on, oc, hlt, by simp, rfl, by rw [E.out, R.out]; exact ho, hb⟩
     replace S := hid S
     clear ho hb hin R E
     go_wp2_with fail
     refine L.out.mono ?_
     rintro e w' ⟨rfl, rfl⟩
     clear L
     go_wp2
     go_roundw
     case rel => exact S.out
     case measure => simp [intOf]; omega
    ·have R := hid (show extV (orderL (t.take k)) x = orderL (t.take k) ++ [x] by unfold extV ext; rw [if_pos hneg, if_neg hin])
     rw [decide_eq_false hin] at L
     clear hin
     go_wp2_with fail
     refine L.out.mono ?_
     rintro e w' ⟨rfl, rfl⟩
     clear L
     go_wp2_with (at_builtin; refine app1 rfl _ _ rfl w.heap.size O on oc (orderL (t.take k)) rfl (Own.alloc ho _) wr.heap.size 1 x rfl ((Row.new _ _ _).cell 0) (by omega) (by simp; omega) ?_; intro O' oc' w2 ho2 b2)
     have S : HeadOrd w m t (.slice O' (on + 1) oc') (.int .i64 ((k : Int) + 1)) w2 := ⟨k + 1, O', on + 1, oc', hlt, by simp, rfl, by rw [E.out, R.out]; exact ho2, (hb.alloc hsz _).trans b2⟩
     replace S := hid S
     clear ho2 b2 ho hb R E
     go_wp2
     go_roundw
     case rel => exact S.out
     case measure => simp [intOf]; omega
   ·have R := hid (show extV (orderL (t.take k)) x = orderL (t.take k) by unfold extV; rw [if_neg hneg])
    have S : HeadOrd w m t (.slice O on oc) (.int .i64 ((k : Int) + 1)) wr := ⟨k + 1, O, on, oc, hlt, by simp, rfl, by rw [E.out, R.out]; exact ho, hb⟩
    replace S := hid S
    have d1 : decide (x < 0) = false := by simp; omega
    clear ho hb R E
    go_wp2
    go_roundw
    case rel => exact S.out
    case measure => simp [intOf]; omega
  ·have F : AnsList w (orderL t) (.returned (.slice O on oc)) wr := by
    rw [List.take_of_length_le (by rw [HL.out]; omega)] at ho
    exact ⟨O, on, oc, rfl, ho, hb⟩
   have HF := hid F
   clear F ho hb h
   go_wp2
   go_ret
   exact HF.out
end rename
end
section
open Go.Lib (hid)
namespace same
open Go.RowKit base ints
set_option maxHeartbeats 400000 in
theorem specSame (A A' : Option Addr) (n m c c' : Nat) (xs ys : List Int) (w : World) (h : Seg w w.heap.size A n xs) (h' : Seg w w.heap.size A' m ys) (hn : n ≤ 1048576) (hm : m ≤ 1048576) :
  Calls Tryz.prog 63 #[.slice A n c, .slice A' m c'] w (AnsSame w xs ys) := by
 by_cases hnm : n = m
 ·subst hnm
  go_enter Tryz.func63, Tryz.ntmps63
  go_wp2
  go_loopw [5] (fun i wr => HeadSame w n xs ys i wr) (fun i _ => n - (intOf i).toNat)
  case atStart => exact ⟨0, 0, Nat.zero_le _, rfl, rfl, fun j h => absurd h (Nat.not_lt_zero _)⟩
  case round =>
   obtain ⟨k, d, hk, rfl, rfl, hc⟩ := hrel
   by_cases hlt : k < n
   ·obtain ⟨b, off, x, rfl, -, hx, ex⟩ := h.spot hlt
    obtain ⟨b', off', y, rfl, -, hx', ey⟩ := h'.spot hlt
    by_cases he : x = y
    ·subst he
     have S := hid (alike_step (w := w) hlt hc ex ey)
     clear hc h h' ex ey
     go_wp2
     go_quiet (fail)
     go_wp2
     go_roundw
     case rel => exact S.out _
     case measure => simp [intOf]; omega
    ·have S := hid (same_not (w := w) ex ey he)
     have hne : (x != y) = true := by simp [he]
     clear hc h h' ex ey he
     go_wp2
     go_quiet (fail)
     go_wp2
     go_ret
     rw [World.drewN_drewN]
     exact S.out _
   ·have S := hid (same_yes (w := w) h.1 h'.1 hlt hc)
    clear hc h h'
    go_wp2
    go_ret
    exact S.out _
 ·have S := hid (same_len (w := w) h.1 h'.1 hnm)
  have hne : ((n : Int) != (m : Int)) = true := by simp; omega
  clear h h'
  go_enter Tryz.func63, Tryz.ntmps63
  go_wp2
  go_ret
  exact S.out
set_option maxHeartbeats 400000 in
theorem libEqual (A A' : Option Addr) (n m c c' : Nat) (xs ys : List Int) (w : World) (h : Seg w w.heap.size A n xs) (h' : Seg w w.heap.size A' m ys) (hn : n ≤ 1048576) (hm : m ≤ 1048576) :
  Calls Tryz.prog 50 #[.slice A n c, .slice A' m c'] w (AnsSame w xs ys) := by
 by_cases hnm : n = m
 ·subst hnm
  go_enter Tryz.func50, Tryz.ntmps50
  go_wp2
  go_loopw [13] (fun i wr => HeadSame w n xs ys i wr) (fun i _ => n - (intOf i).toNat)
  case atStart => exact ⟨0, 0, Nat.zero_le _, rfl, rfl, fun j h => absurd h (Nat.not_lt_zero _)⟩
  case round =>
   obtain ⟨k, d, hk, rfl, rfl, hc⟩ := hrel
   by_cases hlt : k < n
   ·obtain ⟨b, off, x, rfl, -, hx, ex⟩ := h.spot hlt
    obtain ⟨b', off', y, rfl, -, hx', ey⟩ := h'.spot hlt
    by_cases he : x = y
    ·subst he
     have S := hid (alike_step (w := w) hlt hc ex ey)
     clear hc h h' ex ey
     go_wp2
     go_quiet (fail)
     go_wp2
     go_roundw
     case rel => exact S.out _
     case measure => simp [intOf]; omega
    ·have S := hid (same_not (w := w) ex ey he)
     have hne : (x != y) = true := by simp [he]
     clear hc h h' ex ey he
     go_wp2
     go_quiet (fail)
     go_wp2
     go_ret
     rw [World.drewN_drewN]
     exact S.out _
   ·have S := hid (same_yes (w := w) h.1 h'.1 hlt hc)
    clear hc h h'
    go_wp2
    go_ret
    exact S.out _
 ·have S := hid (same_len (w := w) h.1 h'.1 hnm)
  have hne : ((n : Int) != (m : Int)) = true := by simp; omega
  clear h h'
  go_enter Tryz.func50, Tryz.ntmps50
  go_wp2
  go_ret
  exact S.out
theorem implSame (A A' : Option Addr) (n m c c' : Nat) (xs ys : List Int) (w : World) (h : Seg w w.heap.size A n xs) (h' : Seg w w.heap.size A' m ys) (hn : n ≤ 1048576) (hm : m ≤ 1048576) :
  Calls Tryz.prog 17 #[.slice A n c, .slice A' m c'] w (AnsSame w xs ys) := by
 have L := hid (libEqual A A' n m c c' xs ys w h h' hn hm)
 clear h h'
 go_enter Tryz.func17, Tryz.ntmps17
 go_wp2_with fail
 refine L.out.mono ?_
 rintro e w' ⟨rfl, d, rfl⟩
 go_wp2
 go_ret
 exact ⟨rfl, d, rfl⟩
end same
end
section
open Go.Lib (hid)
namespace ruleSpec
open Go.RowKit renMath base ints sig term termOk marks app sym segs termFacts varsMath varsOf rename same count linear shape kindsR ruleMath
set_option maxRecDepth 100000
theorem box1 (w : World) (t : TypeId) (cs : Array Value) : ∃ W, W = w.alloc (.cells cs t) ∧ Row W w.heap.size t cs ∧ Below w.heap.size w W :=
 ⟨_, rfl, Row.new _ _ _, (Below.refl _ _).alloc (Nat.le_refl _) _⟩
theorem box2 (w : World) (t t' : TypeId) (cs cs' : Array Value) : ∃ W, W = (w.alloc (.cells cs t)).alloc (.cells cs' t') ∧ Row W w.heap.size t cs ∧ Row W (w.heap.size + 1) t' cs' ∧ Below w.heap.size w W := by
 refine ⟨_, rfl, ?_, ?_, ?_⟩
 ·have := (Row.new w t cs).alloc (.cells cs' t'); simpa using this
 ·have := Row.new (w.alloc (.cells cs t)) t' cs'; simpa using this
 ·exact ((Below.refl _ _).alloc (Nat.le_refl _) _).alloc (by simp) _
theorem len_ints {xs : List Int} {n : Nat} (hl : xs.length = n) (h : sz sI xs ≤ 1048576) : n ≤ 1048576 := by rw [sz_ints, hl] at h; exact h
theorem rule_szs {d : Dat sRule} (h : sz sRule d ≤ 1048576) : sz sI d.1 ≤ 1048576 ∧ sz sI d.2 ≤ 1048576 := by
 simp only [sz] at h ⊢
 omega
theorem sys_szs {d : Dat sSystem} (h : sz sSystem d ≤ 1048576) : sz sI d.1 ≤ 1048576 ∧ sz sRuleS d.2 ≤ 1048576 := by
 have h : sz sI d.1 + sz sRuleS d.2 ≤ 1048576 := h
 omega
theorem rd_rule {w : World} {B : Nat} {l r : Value} {d : Dat sRule} (h : Rd w B sRule [l, r] d) (hz : sz sRule d ≤ 1048576) : ∃ A n c A' n' c', l = .slice A n c ∧ r = .slice A' n' c' ∧ Seg w B A n d.1 ∧ Cap A n c ∧ Seg w B A' n' d.2 ∧ Cap A' n' c' ∧ n ≤ 1048576 ∧ n' ≤ 1048576 := by
 obtain ⟨g0, g1⟩ := parts_Rule h
 obtain ⟨z0, z1⟩ := rule_szs hz
 obtain ⟨A, n, c, e, h1, h2⟩ := rd_ints.1 g0
 obtain ⟨A', n', c', e', h3, h4⟩ := rd_ints.1 g1
 exact ⟨A, n, c, A', n', c', e, e', h1, h2, h3, h4, len_ints h1.1 z0, len_ints h3.1 z1⟩
theorem rule_noL {sg : List Int} {d : Rl} (h : termOkB sg d.1 = false) : ruleOkB sg d = false := by unfold ruleOkB; rw [h]; rfl
theorem rule_noR {sg : List Int} {d : Rl} (h : termOkB sg d.2 = false) : ruleOkB sg d = false := by unfold ruleOkB; rw [h]; simp
theorem rule_var {sg : List Int} {d : Rl} (h : hd d.1 < 0) : ruleOkB sg d = false := by unfold ruleOkB; rw [decide_eq_true h]; simp
theorem rule_new {sg : List Int} {d : Rl} {x : Int} (hx : x ∈ d.2) (h0 : x < 0) (hn : x ∉ d.1) : ruleOkB sg d = false := by
 unfold ruleOkB
 have : d.2.any (newB d.1) = true := List.any_eq_true.2 ⟨x, hx, by unfold newB; exact decide_eq_true ⟨h0, hn⟩⟩
 rw [this]; simp
theorem rule_yes {sg : List Int} {d : Rl} {n : Nat} (h1 : termOkB sg d.1 = true) (h2 : termOkB sg d.2 = true) (h0 : ¬ hd d.1 < 0) (hl : d.2.length = n) (h : ∀ j, j < n → newB d.1 (d.2.getD j 0) = false) : ruleOkB sg d = true := by
 unfold ruleOkB
 have : d.2.any (newB d.1) = false := by
  rw [List.any_eq_false]
  intro x hx
  obtain ⟨i, hi, rfl⟩ := List.getElem_of_mem hx
  have := h i (by omega)
  have e : d.2.getD i 0 = d.2[i] := by simp [List.getD, hi]
  rw [e] at this; simp [this]
 rw [this, h1, h2, decide_eq_false h0]; rfl
def HeadRu (w : World) (T : TypeId) (cs : Array Value) (n : Nat) (d : Rl) (i : Value) (wr : World) : Prop :=
 ∃ k : Nat, k ≤ n ∧ i = .int .i64 k ∧ (∀ j, j < k → newB d.1 (d.2.getD j 0) = false) ∧ Row wr (w.heap.size + 1) T cs ∧ Below w.heap.size w wr
theorem headRu_step {w wr : World} {T : TypeId} {cs : Array Value} {n k : Nat} {d : Rl} {x : Int} (hk : k < n) (hlow : ∀ j, j < k → newB d.1 (d.2.getD j 0) = false) (ex : Hid (d.2.getD k 0 = x)) (h : ¬ x < 0 ∨ x ∈ d.1) (hr : Row wr (w.heap.size + 1) T cs) (hb : Below w.heap.size w wr) : HeadRu w T cs n d (.int .i64 ((k : Int) + 1)) wr :=
 ⟨k + 1, hk, by simp, fun j hj => by
  by_cases e : j = k
  ·subst e
   rw [ex.out]; unfold newB
   exact decide_eq_false fun hh => by rcases h with h | h; exact h hh.1; exact hh.2 h
  ·exact hlow j (by omega), hr, hb⟩
set_option maxHeartbeats 4000000 in
theorem specRuleOk (a l r : Value) (sg : List Int) (d : Dat sRule) (w : World) (h : Rd w w.heap.size sI [a] sg) (h' : Rd w w.heap.size sRule [l, r] d) (hz : sz sI sg ≤ 1048576) (hz' : sz sRule d ≤ 1048576) :
  Calls Tryz.prog 148 #[.agg #[a], .agg #[l, r]] w (AnsB w (ruleOkB sg d)) := by
 obtain ⟨A, n, c, rfl, hs, hc⟩ := rd_ints.1 h
 have hn := len_ints hs.1 hz
 obtain ⟨A1, n1, c1, A2, n2, c2, rfl, rfl, s1, k1, s2, k2, hn1, hn2⟩ := rd_rule h' hz'
 obtain ⟨W, hW, rA, rR, bel⟩ := box2 w 26 126 #[.slice A n c] #[.slice A1 n1 c1, .slice A2 n2 c2]
 have HW := hid hW
 have HL1 := hid s1.1
 have HL2 := hid s2.1
 have L1 := hid (specTermOk A A1 n c n1 c1 sg d.1 W (hs.next bel) (s1.next bel) hn hn1)
 have L2 := hid (fun (w1 : World) (bb : Below w.heap.size w w1) => specTermOk A A2 n c n2 c2 sg d.2 w1 (hs.next bb) (s2.next bb) hn hn2)
 clear hW h h' hz hz' hs hc k1 k2
 cases ok1 : termOkB sg d.1 with
 | false =>
  have HS := hid ok1
  clear ok1 s1 s2
  go_enter Tryz.func148, Tryz.ntmps148
  go_wp2_with fail
  rw [← HW.out]
  refine L1.out.mono ?_
  rintro e w1 ⟨he, bb⟩
  rw [HS.out] at he
  subst he
  have F := hid (ansB (b := ruleOkB sg d) (a := false) (by rw [rule_noL HS.out]) (next_trans bel bb))
  clear bb bel rA rR
  go_wp2
  go_ret
  exact F.out
 | true =>
  have hp1 := (term_len ok1).1
  rw [s1.1] at hp1
  obtain ⟨b, off, x, rfl, hbB, hx, ex⟩ := s1.spot (k := 0) (by omega)
  have HS := hid ok1
  have EX := hid (show hd d.1 = x from ex.out)
  have i0 : (0 : Int) < (n1 : Int) := by omega
  clear ok1 ex
  go_enter Tryz.func148, Tryz.ntmps148
  go_wp2_with fail
  rw [← HW.out]
  refine L1.out.mono ?_
  rintro e w1 ⟨he, bb⟩
  rw [HS.out] at he
  subst he
  replace rA := rA.next bb
  replace rR := rR.next bb
  replace bel := next_trans bel bb
  have cA : w1.cell? ⟨w.heap.size, 0, none⟩ = some (.slice A n c) := rA.cell 0
  have cR : w1.cell? ⟨w.heap.size + 1, 1, none⟩ = some (.slice A2 n2 c2) := rR.cell 1
  clear bb L1
  go_wp2_with fail
  refine (L2.out w1 bel).mono ?_
  cases ok2 : termOkB sg d.2 with
  | false =>
   have HS2 := hid ok2
   clear ok2
   rintro e w2 ⟨he, bb⟩
   rw [HS2.out] at he
   subst he
   have F := hid (ansB (b := ruleOkB sg d) (a := false) (by rw [rule_noR HS2.out]) (next_trans bel bb))
   clear bb bel rA rR cA cR s1 s2
   go_wp2
   go_ret
   exact F.out
  | true =>
   have HS2 := hid ok2
   clear ok2
   rintro e w2 ⟨he, bb⟩
   rw [HS2.out] at he
   subst he
   replace rR := rR.next bb
   replace bel := next_trans bel bb
   have cR0 : w2.cell? ⟨w.heap.size + 1, 0, none⟩ = some (.slice (some ⟨b, off, none⟩) n1 c1) := rR.cell 0
   have cX : w2.cell? ⟨b, off, none⟩ = some (.int .i64 x) := by have := (bel.cell (p := ⟨b, off + 0, none⟩) hbB).trans hx; simpa using this
   clear bb rA cA cR L2
   by_cases hneg : x < 0
   ·have F := hid (ansB (b := ruleOkB sg d) (a := false) (by rw [rule_var (by rw [EX.out]; exact hneg)]) bel)
    have hdx : decide (x < 0) = true := decide_eq_true hneg
    clear bel rR s1 s2
    go_wp2
    go_ret
    exact F.out
   ·have hdx : decide (x < 0) = false := decide_eq_false hneg
    have H0 : Hid (HeadRu w 126 #[.slice (some ⟨b, off, none⟩) n1 c1, .slice A2 n2 c2] n2 d (.int .i64 0) w2) := hid ⟨0, Nat.zero_le _, rfl, fun j hj => absurd hj (Nat.not_lt_zero _), rR, bel⟩
    clear bel rR
    go_wp2_with fail
    go_loopw [5] (fun i wr => HeadRu w 126 #[.slice (some ⟨b, off, none⟩) n1 c1, .slice A2 n2 c2] n2 d i wr) (fun i _ => n2 - (intOf i).toNat)
    case atStart => exact H0.out
    case round =>
     obtain ⟨k, hk, rfl, hlow, rr, hb⟩ := hrel
     have HLOW := hid hlow
     clear hlow H0
     have cR0 : wr.cell? ⟨w.heap.size + 1, 0, none⟩ = some (.slice (some ⟨b, off, none⟩) n1 c1) := rr.cell 0
     have cR1 : wr.cell? ⟨w.heap.size + 1, 1, none⟩ = some (.slice A2 n2 c2) := rr.cell 1
     by_cases hlt : k < n2
     ·obtain ⟨b2, off2, y, rfl, hbB2, hy, ey⟩ := s2.spot hlt
      have hy1 : wr.cell? ⟨b2, off2 + k, none⟩ = some (.int .i64 y) := (hb.cell (p := ⟨b2, off2 + k, none⟩) hbB2).trans hy
      have hmem := mem_of_get (by rw [HL2.out]; exact hlt) ey.out
      have j0 : (0 : Int) ≤ (k : Int) := by omega
      have j1 : (k : Int) < (n2 : Int) := by omega
      have LH := hid (fun d' : Nat => l1Has (some ⟨b, off, none⟩) n1 c1 d.1 y (wr.drewN d') (((s1.next hb).drewN d')) hn1)
      by_cases hyn : y < 0
      ·have hdy : decide (y < 0) = true := decide_eq_true hyn
       by_cases hin : y ∈ d.1
       ·have E := hid (decide_eq_true hin)
        have S := hid (fun d' : Nat => headRu_step (w := w) (wr := wr.drewN d') hlt HLOW.out ey (.inr hin) (rr.drewN d') (below_drewN hb d'))
        clear s1 s2 rr hb hmem hin hy ey
        go_wp2_with fail
        go_quiet ((go_at_call 162; exact Calls.quiet_of_same (v := .bool true) ((LH.out _).mono fun _ _ ⟨h1, h2⟩ => ⟨by rw [h2, E.out], h1.symm⟩)))
        go_wp2
        go_roundw
        case rel => exact S.out _
        case measure => simp [intOf]; omega
       ·have E := hid (decide_eq_false hin)
        have F := hid (fun d' : Nat => ansB (w' := wr.drewN d') (b := ruleOkB sg d) (a := false) (by rw [rule_new hmem hyn hin]) (below_drewN hb d'))
        clear s1 s2 rr hb hmem hin hy ey
        go_wp2_with fail
        go_quiet ((go_at_call 162; exact Calls.quiet_of_same (v := .bool false) ((LH.out _).mono fun _ _ ⟨h1, h2⟩ => ⟨by rw [h2, E.out], h1.symm⟩)))
        go_wp2
        go_ret
        exact F.out _
      ·have S := hid (fun d' : Nat => headRu_step (w := w) (wr := wr.drewN d') hlt HLOW.out ey (.inl hyn) (rr.drewN d') (below_drewN hb d'))
       have hdy : decide (y < 0) = false := decide_eq_false hyn
       clear s1 s2 rr hb hmem hy ey
       go_wp2_with fail
       go_quiet (fail)
       go_wp2
       go_roundw
       case rel => exact S.out _
       case measure => simp [intOf]; omega
     ·have F := hid (ansB (b := ruleOkB sg d) (a := true) (by rw [rule_yes HS.out HS2.out (by rw [EX.out]; omega) HL2.out (fun j hj => HLOW.out j (by omega))]) hb)
      clear s1 s2 rr hb
      go_wp2
      go_ret
      exact F.out
def HeadSy (w : World) (T : TypeId) (cs : Array Value) (n : Nat) (f : Rl → Bool) (rs : List Rl) (i : Value) (wr : World) : Prop :=
 ∃ k : Nat, k ≤ n ∧ i = .int .i64 k ∧ (∀ j, j < k → f (rs.getD j ([], [])) = true) ∧ Row wr w.heap.size T cs ∧ Below w.heap.size w wr
theorem headSy_step {w wr : World} {T : TypeId} {cs : Array Value} {n k : Nat} {f : Rl → Bool} {rs : List Rl} {x : Rl} (hk : k < n) (hlow : ∀ j, j < k → f (rs.getD j ([], [])) = true) (ex : Hid (rs.getD k ([], []) = x)) (h : f x = true) (hr : Row wr w.heap.size T cs) (hb : Below w.heap.size w wr) : HeadSy w T cs n f rs (.int .i64 ((k : Int) + 1)) wr :=
 ⟨k + 1, hk, by simp, fun j hj => by
  by_cases e : j = k
  ·subst e; rw [ex.out]; exact h
  ·exact hlow j (by omega), hr, hb⟩
theorem rd_sys {w : World} {B : Nat} {a v : Value} {d : Dat sSystem} (h : Rd w B sSystem [a, v] d) (hz : sz sSystem d ≤ 1048576) : ∃ A n c A' n' c', a = .slice A n c ∧ v = .slice A' n' c' ∧ Seg w B A n d.1 ∧ Cap A n c ∧ Cap A' n' c' ∧ d.2.length = n' ∧ n ≤ 1048576 ∧ n' ≤ 1048576 ∧ Rd w B sRuleS [.slice A' n' c'] d.2 ∧ Rd w B sI [.slice A n c] d.1 ∧ (∀ j, j < n' → sz sRule (d.2.getD j ([], [])) ≤ 1048576) := by
 obtain ⟨g0, g1⟩ := parts_System h
 obtain ⟨z0, z1⟩ := sys_szs hz
 obtain ⟨A, n, c, e, h1, h2⟩ := rd_ints.1 g0
 obtain ⟨A', c', e', h3⟩ := g1.slice
 subst e e'
 exact ⟨A, n, c, A', d.2.length, c', rfl, rfl, h1, h2, h3, rfl, len_ints h1.1 z0, sz_len z1, g1, g0, fun j hj => sz_each z1 hj⟩
theorem rd_at {w wr : World} {B : Nat} {A : Option Addr} {n c : Nat} {rs : List Rl} {k : Nat} (h : Rd w B sRuleS [.slice A n c] rs) (hb : Below B w wr) (hl : rs.length = n) (hk : k < n) : ∃ b off l r x, A = some ⟨b, off, none⟩ ∧ b < B ∧ Hid (rs.getD k ([], []) = x) ∧ wr.cell? ⟨b, off + k * 2, none⟩ = some l ∧ wr.cell? ⟨b, off + k * 2 + 1, none⟩ = some r ∧ Rd wr B sRule [l, r] x := by
 obtain ⟨b, off, n2, c2, es, ev, -, -, hbB, hel, hp, hr⟩ := h.elem (j := k) (by omega)
 injection ev with e1 e2 e3
 subst e1 e2 e3
 obtain ⟨v0, v1, rfl⟩ := cells_Rule hr
 have hpw := hp.keep (w' := wr) (fun p hp => hb.cell (p := p) (by rw [hp]; exact hbB))
 exact ⟨b, off, v0, v1, _, rfl, hbB, hid rfl, hpw 0 (by simp), hpw 1 (by simp), hr.below hb⟩
set_option maxHeartbeats 4000000 in
theorem specSystemOk (a v : Value) (d : Dat sSystem) (w : World) (h : Rd w w.heap.size sSystem [a, v] d) (hz : sz sSystem d ≤ 1048576) :
  Calls Tryz.prog 114 #[.agg #[a, v]] w (AnsB w (sysOkB d.1 d.2)) := by
 have hzs := hid (sys_szs hz)
 obtain ⟨A, n, c, A', m, c', rfl, rfl, hs, hc, hc', hm, hn, hm1, hrs, hsg, hE⟩ := rd_sys h hz
 obtain ⟨W, hW, rA, bel⟩ := box1 w 29 #[.slice A n c, .slice A' m c']
 have HW := hid hW
 have HM := hid hm
 have HE := hid hE
 have HR := hid hrs
 have L1 := hid (specSigOk A n c d.1 W (hs.next bel) hn)
 have LR := hid (fun (w1 : World) (l r : Value) (x : Dat sRule) (bb : Below w.heap.size w w1) (hx : Rd w1 w1.heap.size sRule [l, r] x) (hzx : sz sRule x ≤ 1048576) => specRuleOk (.slice A n c) l r d.1 x w1 (hsg.next bb) hx hzs.out.1 hzx)
 clear hW h hz hs hc hc' hm hE hrs hsg
 cases ok1 : sigOkB d.1 with
 | false =>
  have HS := hid ok1
  clear ok1
  go_enter Tryz.func114, Tryz.ntmps114
  go_wp2_with fail
  rw [← HW.out]
  refine L1.out.mono ?_
  rintro e w1 ⟨he, bb⟩
  rw [HS.out] at he
  subst he
  have F := hid (ansB (b := sysOkB d.1 d.2) (a := false) (by rw [sys_sig HS.out]) (next_trans bel bb))
  clear bb bel rA
  go_wp2
  go_ret
  exact F.out
 | true =>
  have HS := hid ok1
  clear ok1
  go_enter Tryz.func114, Tryz.ntmps114
  go_wp2_with fail
  rw [← HW.out]
  refine L1.out.mono ?_
  rintro e w1 ⟨he, bb⟩
  rw [HS.out] at he
  subst he
  replace rA := rA.next bb
  replace bel := next_trans bel bb
  have cR : w1.cell? ⟨w.heap.size, 1, none⟩ = some (.slice A' m c') := rA.cell 1
  clear bb L1
  by_cases h12 : m ≤ 12
  ·have H0 : Hid (HeadSy w 29 #[.slice A n c, .slice A' m c'] m (ruleOkB d.1) d.2 (.int .i64 0) w1) := hid ⟨0, Nat.zero_le _, rfl, fun j hj => absurd hj (Nat.not_lt_zero _), rA, bel⟩
   clear rA bel
   go_wp2_with fail
   go_loopw [3] (fun i wr => HeadSy w 29 #[.slice A n c, .slice A' m c'] m (ruleOkB d.1) d.2 i wr) (fun i _ => m - (intOf i).toNat)
   case atStart => exact H0.out
   case round =>
    obtain ⟨k, hk, rfl, hlow, rr, hb⟩ := hrel
    have HLOW := hid hlow
    clear hlow H0 cR
    by_cases hlt : k < m
    ·obtain ⟨b, off, l, r, x, rfl, hbB, ex, hc0, hc1, hx⟩ := rd_at HR.out hb HM.out hlt
     have cA : wr.cell? ⟨w.heap.size, 0, none⟩ = some (.slice A n c) := rr.cell 0
     have cR : wr.cell? ⟨w.heap.size, 1, none⟩ = some (.slice (some ⟨b, off, none⟩) m c') := rr.cell 1
     have hzx : sz sRule x ≤ 1048576 := by have := HE.out k hlt; rw [ex.out] at this; exact this
     have L := hid (LR.out wr.drew l r x hb.drew ((hx.more hb.size).keep (fun _ _ => rfl)) hzx)
     have i0 : (0 : Int) ≤ (k : Int) := by omega
     have i1 : (k : Int) < (m : Int) := by omega
     have hbr : b < wr.drew.heap.size := Nat.lt_of_lt_of_le hbB hb.size
     have rd := rr.drew
     have hbd := hb.drew
     clear hx rr hb hzx
     cases ok : ruleOkB d.1 x with
     | false =>
      have HO := hid ok
      clear ok
      have BAD := hid (show sysOkB d.1 d.2 = false from sys_bad (k := k) (by rw [HM.out]; exact hlt) (by rw [ex.out]; exact HO.out))
      have bA := rd.lt
      go_wp2_with fail
      go_region_held3 (fun w' => w'.cell? ⟨w.heap.size, 0, none⟩ = some (.slice A n c) ∧ w'.cell? ⟨w.heap.size, 1, none⟩ = some (.slice (some ⟨b, off, none⟩) m c') ∧ w'.cell? ⟨b, off + k * 2, none⟩ = some l ∧ w'.cell? ⟨b, off + k * 2 + 1, none⟩ = some r)
       (go_keep)
       (first
        | (go_at_call 148; refine L.out.mono ?_; rintro e w2 ⟨he, bb⟩; rw [HO.out] at he; subst he; have c1 : w2.cell? ⟨w.heap.size, 0, none⟩ = some (.slice A n c) := (rd.next bb).cell 0; have c2 : w2.cell? ⟨w.heap.size, 1, none⟩ = some (.slice (some ⟨b, off, none⟩) m c') := (rd.next bb).cell 1; have c3 := (bb.cell (p := ⟨b, off + k * 2, none⟩) hbr).trans hc0; have c4 := (bb.cell (p := ⟨b, off + k * 2 + 1, none⟩) hbr).trans hc1))
      have F := hid (ansB (b := sysOkB d.1 d.2) (a := false) BAD.out.symm (next_trans hbd bb))
      clear bb rd hbd L c1 c2 c3 c4 cA cR hc0 hc1
      go_wp2
      go_ret
      exact F.out
     | true =>
      have HO := hid ok
      clear ok
      have bA := rd.lt
      go_wp2_with fail
      go_region_held3 (fun w' => w'.cell? ⟨w.heap.size, 0, none⟩ = some (.slice A n c) ∧ w'.cell? ⟨w.heap.size, 1, none⟩ = some (.slice (some ⟨b, off, none⟩) m c') ∧ w'.cell? ⟨b, off + k * 2, none⟩ = some l ∧ w'.cell? ⟨b, off + k * 2 + 1, none⟩ = some r)
       (go_keep)
       (first
        | (go_at_call 148; refine L.out.mono ?_; rintro e w2 ⟨he, bb⟩; rw [HO.out] at he; subst he; have c1 : w2.cell? ⟨w.heap.size, 0, none⟩ = some (.slice A n c) := (rd.next bb).cell 0; have c2 : w2.cell? ⟨w.heap.size, 1, none⟩ = some (.slice (some ⟨b, off, none⟩) m c') := (rd.next bb).cell 1; have c3 := (bb.cell (p := ⟨b, off + k * 2, none⟩) hbr).trans hc0; have c4 := (bb.cell (p := ⟨b, off + k * 2 + 1, none⟩) hbr).trans hc1))
      have F := hid (headSy_step (f := ruleOkB d.1) (w := w) hlt HLOW.out ex HO.out (rd.next bb) (next_trans hbd bb))
      clear bb rd hbd L c1 c2 c3 c4 cA cR hc0 hc1
      go_wp2
      go_roundw
      case rel => exact F.out
      case measure => simp [intOf]; omega
    ·have cR : wr.cell? ⟨w.heap.size, 1, none⟩ = some (.slice A' m c') := rr.cell 1
     have F := hid (ansB (b := sysOkB d.1 d.2) (a := true) (by rw [sys_good HS.out (by rw [HM.out]; exact h12) (fun j hj => HLOW.out j (by rw [HM.out] at hj; omega))]) hb)
     clear rr hb
     go_wp2
     go_ret
     exact F.out
  ·have i1 : (12 : Int) < (m : Int) := by omega
   have F := hid (ansB (b := sysOkB d.1 d.2) (a := false) (by rw [sys_long HM.out h12]) bel)
   clear bel rA
   go_wp2
   go_ret
   exact F.out
end ruleSpec
end
end Go.Proofs.YtmoidijngeijkaaGreat
