/-
  CONTRACTS: laws.roll and its below. Conditions: at most 4096 bytes; a bound from 1 to 256. By an AI agent.
-/
import Derived.Test.YtadajlchoongcaaDice
namespace Go.Proofs.Ytadajlchoongcaa.rolls
open Go.RowKit Go.Proofs.Ytadajlchoongcaa.base Go.Proofs.Ytadajlchoongcaa.ints Go.Proofs.Ytadajlchoongcaa.cursor Go.Proofs.Ytadajlchoongcaa.dice

structure RollAt (w : World) (p : Nat) (A : Option Addr) (n c i : Nat) (h : Int) : Prop where
  row : Row w p 66 #[.slice A n c, .int .i64 i, .int .u64 h]
  le : i ≤ n
  s : SegB w p A n
  hn : n ≤ 4096
section
variable {w w' : World} {p : Nat} {A : Option Addr} {n c i : Nat} {h : Int}
theorem RollAt.drewN (d : RollAt w p A n c i h) (k : Nat) : RollAt (w.drewN k) p A n c i h := ⟨d.row, d.le, d.s, d.hn⟩
theorem RollAt.drew (d : RollAt w p A n c i h) : RollAt w.drew p A n c i h := ⟨d.row, d.le, d.s, d.hn⟩
theorem RollAt.setH (d : RollAt w p A n c i h) (h' : Int) : RollAt (w.setCell ⟨p, 2, none⟩ (.int .u64 h')) p A n c i h' :=
  ⟨d.row.put 2 _, d.le, d.s.keep fun q hq => World.cell?_setCell_other w _ q _ (fun e => by subst e; exact Nat.lt_irrefl _ hq), d.hn⟩
end
theorem and24 (n : Int) : 0 ≤ bits .and .u64 n 16777215 ∧ bits .and .u64 n 16777215 ≤ 16777215 := by
  have h255 : (BitVec.ofInt 64 16777215).toNat = 2 ^ 24 - 1 := by decide
  have key : (BitVec.ofInt 64 n &&& BitVec.ofInt 64 16777215).toNat = (n % ((2 ^ 64 : Nat) : Int)).toNat % 2 ^ 24 := by
    rw [BitVec.toNat_and, BitVec.toNat_ofInt, h255, Nat.and_two_pow_sub_one_eq_mod]
  have e : bits .and .u64 n 16777215 = IntKind.u64.wrap ((BitVec.ofInt 64 n &&& BitVec.ofInt 64 16777215).toNat : Nat) := rfl
  rw [e, key, IntKind.wrap_u64]
  omega

def AnsRoll (w : World) (A : Option Addr) (n c : Nat) (e : Ending) (w' : World) : Prop := ∃ p h, e = .returned (.pointer (some ⟨p, 0, none⟩)) ∧ w.heap.size ≤ p ∧ RollAt w' p A n c 0 h ∧ Below w.heap.size w w'

set_option maxHeartbeats 2000000 in
theorem roll (A : Option Addr) (n c : Nat) (w : World) (hs : SegB w w.heap.size A n) (hn : n ≤ 4096) :
    Calls Try.prog 22 #[.slice A n c, .int .u64 701] w (AnsRoll w A n c) := by
  go_enter Try.func22, Try.ntmps22
  go_wp2_with fail
  go_loopw [6] (fun i wr => ∃ (k : Nat) (h : Int), k ≤ n ∧ i = .int .i64 k ∧ RollAt wr w.heap.size A n c 0 h ∧ Below w.heap.size w wr) (fun i _ => n - (intOf i).toNat)
  case atStart => exact ⟨0, _, Nat.zero_le _, rfl, ⟨Row.new _ _ _, Nat.zero_le _, hs.keep (fun q hq => World.cell?_alloc_lt w _ q hq), hn⟩, (Below.refl _ _).alloc (Nat.le_refl _) _⟩
  case round =>
    obtain ⟨k, h, hk, rfl, R, B⟩ := hrel
    have c0 : wr.cell? ⟨w.heap.size, 0, none⟩ = some (.slice A n c) := R.row.cell 0
    have c1 : wr.cell? ⟨w.heap.size, 1, none⟩ = some (.int .i64 0) := R.row.cell 1
    have c2 : wr.cell? ⟨w.heap.size, 2, none⟩ = some (.int .u64 h) := R.row.cell 2
    have f2 : wr.frozen? ⟨w.heap.size, 2, none⟩ = false := R.row.free 2
    by_cases hlt : k < n
    · obtain ⟨b, off, rfl, hb, hc⟩ := R.s (by omega)
      obtain ⟨y, hy0, hy1, hy⟩ := hc k hlt
      have hne : b ≠ w.heap.size := by omega
      have i0 : (0 : Int) ≤ (k : Int) := by omega
      have i1 : (k : Int) < (n : Int) := by omega
      have HR := Lib.hid R
      have HB := Lib.hid B
      clear hc R B
      go_wp2_with fail
      go_region
      all_goals
        go_wp2
        go_roundw
        case rel =>
          first
            | exact ⟨k + 1, _, hlt, by go_num, (HR.out.setH _).drew, (HB.out.setCell (p := ⟨w.heap.size, 2, none⟩) (Nat.le_refl _) _).drew⟩
            | exact ⟨k + 1, _, hlt, by go_num, HR.out.drew.setH _, HB.out.drew.setCell (p := ⟨w.heap.size, 2, none⟩) (Nat.le_refl _) _⟩
        case measure => simp [intOf]; omega
    · have F : AnsRoll w A n c (.returned (.pointer (some ⟨w.heap.size, 0, none⟩))) wr := ⟨_, h, rfl, Nat.le_refl _, R, B⟩
      have HF := Lib.hid F
      clear F R B c0 c1 c2 f2
      go_wp2
      go_ret
      exact HF.out

/-- a number below N -/
def AnsBelow (w : World) (p : Nat) (N : Int) (e : Ending) (w' : World) : Prop := ∃ x : Int, e = .returned (.int .i64 x) ∧ 0 ≤ x ∧ x < N ∧ w.grownBy w' (some p)

set_option maxHeartbeats 2000000 in
theorem rollBelow (p : Nat) (A : Option Addr) (n c : Nat) (h N : Int) (w : World) (R : RollAt w p A n c 0 h) (h1 : 1 ≤ N) (h2 : N ≤ 256) :
    Calls Try.prog 23 #[.pointer (some ⟨p, 0, none⟩), .int .i64 N] w (AnsBelow w p N) := by
  have c0 : w.cell? ⟨p, 0, none⟩ = some (.slice A n c) := R.row.cell 0
  have c1 : w.cell? ⟨p, 1, none⟩ = some (.int .i64 0) := R.row.cell 1
  have c2 : w.cell? ⟨p, 2, none⟩ = some (.int .u64 h) := R.row.cell 2
  have f1 : w.frozen? ⟨p, 1, none⟩ = false := R.row.free 1
  have f2 : w.frozen? ⟨p, 2, none⟩ = false := R.row.free 2
  have HG := Lib.hid (World.grownBy.refl w (some p))
  by_cases hlt : 0 < n
  · obtain ⟨b, off, rfl, hb, hc⟩ := R.s (by omega)
    obtain ⟨y, hy0, hy1, hy⟩ := hc 0 hlt
    rw [Nat.add_zero] at hy
    have hne : b ≠ p := by omega
    have i1 : (0 : Int) < (n : Int) := by omega
    clear hc R
    go_enter Try.func23, Try.ntmps23
    go_wp2_with fail
    have hz := and24 (IntKind.u64.wrap (IntKind.u64.wrap (h * 6364136223846793005) + 1442695040888963407) / 8589934592)
    generalize bits .and .u64 (IntKind.u64.wrap (IntKind.u64.wrap (h * 6364136223846793005) + 1442695040888963407) / 8589934592) 16777215 = Z at *
    rw [IntWalk.wrap64_in Z (by omega)]
    have hz0 := hz.1
    have hz1 := hz.2
    have HM := Lib.hid (fun d : Int => (show 0 ≤ d % N ∧ d % N < N from ⟨Int.emod_nonneg _ (by omega), Int.emod_lt_of_pos _ (by omega)⟩))
    clear hz
    go_quiet (fail)
    go_wp2_with fail
    go_quiet (fail)
    go_wp2
    go_ret
    exact ⟨_, rfl, (HM.out _).1, (HM.out _).2, grown_put (grown_drewN (grown_put HG.out _ _) _) _ _⟩
  · have e0 : n = 0 := by omega
    subst e0
    clear R
    go_enter Try.func23, Try.ntmps23
    go_wp2_with fail
    have hz := and24 (IntKind.u64.wrap (IntKind.u64.wrap (h * 6364136223846793005) + 1442695040888963407) / 8589934592)
    generalize bits .and .u64 (IntKind.u64.wrap (IntKind.u64.wrap (h * 6364136223846793005) + 1442695040888963407) / 8589934592) 16777215 = Z at *
    rw [IntWalk.wrap64_in Z (by omega)]
    have hz0 := hz.1
    have hz1 := hz.2
    have HM := Lib.hid (fun d : Int => (show 0 ≤ d % N ∧ d % N < N from ⟨Int.emod_nonneg _ (by omega), Int.emod_lt_of_pos _ (by omega)⟩))
    clear hz
    go_quiet (fail)
    go_wp2
    go_ret
    exact ⟨_, rfl, (HM.out _).1, (HM.out _).2, grown_drewN (grown_put HG.out _ _) _⟩
end Go.Proofs.Ytadajlchoongcaa.rolls
