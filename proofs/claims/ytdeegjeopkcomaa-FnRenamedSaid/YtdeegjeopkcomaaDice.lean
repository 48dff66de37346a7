/-
  CONTRACTS of the drawing helpers: spec.l1Byte, l1Below, l1Once, l1From, l1Odd; laws.big. Conditions: a cursor over at most 4096 bytes. By an AI agent.
-/
import Derived.Test.YtdeegjeopkcomaaCursor
namespace Go.Proofs.Ytdeegjeopkcomaa.dice
open Go.RowKit Go.Proofs.Ytdeegjeopkcomaa.base Go.Proofs.Ytdeegjeopkcomaa.ints Go.Proofs.Ytdeegjeopkcomaa.cursor

/-- The slice value '.slice A n c' holds n bytes, in a block below B. -/
def SegB (w : World) (B : Nat) (A : Option Addr) (n : Nat) : Prop :=
  0 < n → ∃ b off, A = some ⟨b, off, none⟩ ∧ b < B ∧ ∀ j, j < n → ∃ x : Int, 0 ≤ x ∧ x ≤ 255 ∧ w.cell? ⟨b, off + j, none⟩ = some (.int .u8 x)
theorem SegB.keep {w w' : World} {B : Nat} {A : Option Addr} {n : Nat} (h : SegB w B A n) (hk : ∀ p : Addr, p.block < B → w'.cell? p = w.cell? p) : SegB w' B A n := fun hn => by
  obtain ⟨b, off, e, hb, hc⟩ := h hn
  refine ⟨b, off, e, hb, fun j hj => ?_⟩
  obtain ⟨x, h0, h1, h2⟩ := hc j hj
  exact ⟨x, h0, h1, (hk ⟨b, off + j, none⟩ hb).trans h2⟩

/-- a drawing cursor in block p, at byte i, its number h -/
structure DiceAt (w : World) (p : Nat) (A : Option Addr) (n c i : Nat) (h : Int) : Prop where
  row : Row w p 94 #[.slice A n c, .int .i64 i, .int .i64 h]
  le : i ≤ n
  s : SegB w p A n
  hn : n ≤ 4096
def Dice (w : World) (p : Nat) (A : Option Addr) (n c : Nat) : Prop := ∃ i h, DiceAt w p A n c i h

section
variable {w w' : World} {p : Nat} {A : Option Addr} {n c i : Nat} {h : Int}
theorem DiceAt.drewN (d : DiceAt w p A n c i h) (k : Nat) : DiceAt (w.drewN k) p A n c i h := ⟨d.row, d.le, d.s, d.hn⟩
theorem DiceAt.setH (d : DiceAt w p A n c i h) (h' : Int) : DiceAt (w.setCell ⟨p, 2, none⟩ (.int .i64 h')) p A n c i h' :=
  ⟨d.row.put 2 _, d.le, d.s.keep fun q hq => World.cell?_setCell_other w _ q _ (fun e => by subst e; exact Nat.lt_irrefl _ hq), d.hn⟩
theorem DiceAt.setI (d : DiceAt w p A n c i h) (hi : i < n) : DiceAt (w.setCell ⟨p, 1, none⟩ (.int .i64 ((i : Int) + 1))) p A n c (i + 1) h := by
  refine ⟨?_, hi, d.s.keep fun q hq => World.cell?_setCell_other w _ q _ (fun e => by subst e; exact Nat.lt_irrefl _ hq), d.hn⟩
  have e : (.int .i64 ((i : Int) + 1) : Value) = .int .i64 ((i + 1 : Nat) : Int) := by simp
  rw [← e]
  exact d.row.put 1 _
theorem Dice.next (d : Dice w p A n c) (hb : Below w.heap.size w w') : Dice w' p A n c := by
  obtain ⟨i, h, d⟩ := d
  have hp := d.row.lt
  exact ⟨i, h, d.row.next hb, d.le, d.s.keep fun q hq => hb.cell (Nat.lt_trans hq hp), d.hn⟩
theorem Dice.drewN (d : Dice w p A n c) (k : Nat) : Dice (w.drewN k) p A n c := by
  obtain ⟨i, h, d⟩ := d
  exact ⟨i, h, d.drewN k⟩
theorem Dice.lt (d : Dice w p A n c) : p < w.heap.size := by
  obtain ⟨i, h, d⟩ := d
  exact d.row.lt
/-- the cursor stays where blocks from p + 1 on are written -/
theorem Dice.keep (d : Dice w p A n c) (hb : Below (p + 1) w w') : Dice w' p A n c := by
  obtain ⟨i, h, d⟩ := d
  exact ⟨i, h, d.row.below hb (Nat.lt_succ_self _), d.le, d.s.keep fun q hq => hb.cell (Nat.lt_succ_of_lt hq), d.hn⟩
end

theorem i64_and255 (n : Int) : bits .and .i64 n 255 = n % 256 := by
  have h255 : (BitVec.ofInt 64 255).toNat = 2 ^ 8 - 1 := by decide
  have key : (BitVec.ofInt 64 n &&& BitVec.ofInt 64 255).toNat = (n % ((2 ^ 64 : Nat) : Int)).toNat % 2 ^ 8 := by
    rw [BitVec.toNat_and, BitVec.toNat_ofInt, h255, Nat.and_two_pow_sub_one_eq_mod]
  show IntKind.i64.wrap ((BitVec.ofInt 64 n &&& BitVec.ofInt 64 255).toNat : Nat) = n % 256
  rw [key, IntKind.wrap_i64]
  omega
theorem and255 (n : Int) : 0 ≤ bits .and .i64 n 255 ∧ bits .and .i64 n 255 ≤ 255 := by rw [i64_and255]; omega

/-- what a draw gives -/
def AnsDraw (w : World) (p : Nat) (A : Option Addr) (n c : Nat) (lo hi : Int) (e : Ending) (w' : World) : Prop :=
  ∃ x : Int, e = .returned (.int .i64 x) ∧ lo ≤ x ∧ x ≤ hi ∧ Dice w' p A n c ∧ w.grownBy w' (some p)
theorem draw_and {w w' : World} {p : Nat} {A : Option Addr} {n c i : Nat} {h y : Int} (hd : DiceAt w' p A n c i h) (hg : w.grownBy w' (some p)) : AnsDraw w p A n c 0 255 (.returned (.int .i64 (bits .and .i64 y 255))) w' :=
  ⟨_, rfl, (and255 y).1, (and255 y).2, ⟨i, h, hd⟩, hg⟩

set_option maxHeartbeats 1000000 in
theorem byte (p : Nat) (A : Option Addr) (n c : Nat) (w : World) (hd : Dice w p A n c) :
    Calls Try.prog 109 #[.pointer (some ⟨p, 0, none⟩)] w (AnsDraw w p A n c 0 255) := by
  obtain ⟨i, h, hd⟩ := hd
  have hr := hd.row
  have hn := hd.hn
  have c0 : w.cell? ⟨p, 0, none⟩ = some (.slice A n c) := hr.cell 0
  have c1 : w.cell? ⟨p, 1, none⟩ = some (.int .i64 i) := hr.cell 1
  have c2 : w.cell? ⟨p, 2, none⟩ = some (.int .i64 h) := hr.cell 2
  have f1 : w.frozen? ⟨p, 1, none⟩ = false := hr.free 1
  have f2 : w.frozen? ⟨p, 2, none⟩ = false := hr.free 2
  have HG := Lib.hid (World.grownBy.refl w (some p))
  by_cases hlt : i < n
  · obtain ⟨b, off, rfl, hb, hc⟩ := hd.s (by omega)
    obtain ⟨y, hy0, hy1, hy⟩ := hc i hlt
    have hne : b ≠ p := by omega
    have i0 : (0 : Int) ≤ (i : Int) := by omega
    have i1 : (i : Int) < (n : Int) := by omega
    have HD := Lib.hid hd
    clear hc hr hd
    go_enter Try.func109, Try.ntmps109
    go_wp2_with fail
    go_quiet (fail)
    go_wp2_with fail
    go_quiet (fail)
    go_wp2_with fail
    go_quiet (fail)
    go_wp2_with fail
    go_ret
    exact draw_and (((HD.out.setH _).drewN _).setI hlt) (grown_put (grown_drewN (grown_put HG.out _ _) _) _ _)
  · have i2 : decide (i < n) = false := by simp; omega
    have HD := Lib.hid hd
    clear hr hd
    go_enter Try.func109, Try.ntmps109
    go_wp2_with fail
    go_quiet (fail)
    go_wp2_with fail
    go_quiet (fail)
    go_wp2_with fail
    go_ret
    exact draw_and (((HD.out.setH _).drewN _).drewN _) (grown_drewN (grown_drewN (grown_put HG.out _ _) _) _)

/-- a number from 0 to N - 1 -/
theorem below (p : Nat) (A : Option Addr) (n c : Nat) (N : Int) (w : World) (hd : Dice w p A n c) (h1 : 1 ≤ N) (h2 : N ≤ 256) :
    Calls Try.prog 78 #[.pointer (some ⟨p, 0, none⟩), .int .i64 N] w (AnsDraw w p A n c 0 (N - 1)) := by
  have L := Lib.hid (byte p A n c w hd)
  clear hd
  go_enter Try.func78, Try.ntmps78
  go_wp2_with fail
  refine L.out.mono ?_
  rintro e w' ⟨x, rfl, h3, h4, hd, hg⟩
  have F : AnsDraw w p A n c 0 (N - 1) (.returned (.int .i64 (x % N))) w' := ⟨_, rfl, Int.emod_nonneg _ (by omega), by have := Int.emod_lt_of_pos x (show 0 < N by omega); omega, hd, hg⟩
  have HF := Lib.hid F
  clear F hd hg L
  go_wp2
  go_ret
  exact HF.out

/-- a bool -/
def AnsFlip (w : World) (p : Nat) (A : Option Addr) (n c : Nat) (e : Ending) (w' : World) : Prop := ∃ b : Bool, e = .returned (.bool b) ∧ Dice w' p A n c ∧ w.grownBy w' (some p)
theorem once (p : Nat) (A : Option Addr) (n c : Nat) (N : Int) (w : World) (hd : Dice w p A n c) (h1 : 1 ≤ N) (h2 : N ≤ 256) :
    Calls Try.prog 73 #[.pointer (some ⟨p, 0, none⟩), .int .i64 N] w (AnsFlip w p A n c) := by
  have L := Lib.hid (below p A n c N w hd h1 h2)
  clear hd
  go_enter Try.func73, Try.ntmps73
  go_wp2_with fail
  refine L.out.mono ?_
  rintro e w' ⟨x, rfl, h3, h4, hd, hg⟩
  have F : AnsFlip w p A n c (.returned (.bool (x == 0))) w' := ⟨_, rfl, hd, hg⟩
  have HF := Lib.hid F
  clear F hd hg L
  by_cases h0 : x = 0
  · subst h0
    go_wp2
    go_ret
    exact HF.out
  · have e1 : (x == 0) = false := by simp [h0]
    rw [e1] at HF
    go_wp2
    go_ret
    exact HF.out

/-- a number from lo to hi -/
theorem fromTo (p : Nat) (A : Option Addr) (n c : Nat) (lo hi : Int) (w : World) (hd : Dice w p A n c) (h1 : lo ≤ hi) (h2 : hi - lo ≤ 255) (h3 : -1000 ≤ lo) (h4 : hi ≤ 1000) :
    Calls Try.prog 100 #[.pointer (some ⟨p, 0, none⟩), .int .i64 lo, .int .i64 hi] w (AnsDraw w p A n c lo hi) := by
  have L := Lib.hid (below p A n c (hi - lo + 1) w hd (by omega) (by omega))
  clear hd
  go_enter Try.func100, Try.ntmps100
  go_wp2_with fail
  refine L.out.mono ?_
  rintro e w' ⟨x, rfl, h5, h6, hd, hg⟩
  have F : AnsDraw w p A n c lo hi (.returned (.int .i64 (lo + x))) w' := ⟨_, rfl, by omega, by omega, hd, hg⟩
  have HF := Lib.hid F
  clear F hd hg L
  go_wp2
  go_ret
  exact HF.out

/-- some number -/
def AnsAny (w : World) (p : Nat) (A : Option Addr) (n c : Nat) (e : Ending) (w' : World) : Prop := ∃ x : Int, e = .returned (.int .i64 x) ∧ Dice w' p A n c ∧ w.grownBy w' (some p)
theorem Dice.alloc {w : World} {p : Nat} {A : Option Addr} {n c : Nat} (d : Dice w p A n c) (o : Obj) : Dice (w.alloc o) p A n c := d.next ((Below.refl _ _).alloc (Nat.le_refl _) _)

def oddCells : Array Value := #[.int .i64 (-1), .int .i64 0, .int .i64 1, .int .i64 2147483648, .int .i64 (-2147483648), .int .i64 1099511627776, .int .i64 4611686018427387904, .int .i64 (-4611686018427387904), .int .i64 9223372036854775807, .int .i64 (-9223372036854775808)]
theorem oddCells_at (k : Nat) (h : k < 10) : ∃ y : Int, oddCells[k]? = some (.int .i64 y) := by
  match k, h with
  | 0, _ => exact ⟨_, rfl⟩
  | 1, _ => exact ⟨_, rfl⟩
  | 2, _ => exact ⟨_, rfl⟩
  | 3, _ => exact ⟨_, rfl⟩
  | 4, _ => exact ⟨_, rfl⟩
  | 5, _ => exact ⟨_, rfl⟩
  | 6, _ => exact ⟨_, rfl⟩
  | 7, _ => exact ⟨_, rfl⟩
  | 8, _ => exact ⟨_, rfl⟩
  | 9, _ => exact ⟨_, rfl⟩
set_option maxHeartbeats 1000000 in
theorem odd (p : Nat) (A : Option Addr) (n c : Nat) (w : World) (hd : Dice w p A n c) :
    Calls Try.prog 102 #[.pointer (some ⟨p, 0, none⟩)] w (AnsAny w p A n c) := by
  have hp := hd.lt
  have D := Lib.hid (fun o => below p A n c 10 (w.alloc o) (Dice.alloc hd o) (by omega) (by omega))
  clear hd
  go_enter Try.func102, Try.ntmps102
  go_wp2_with fail
  refine (D.out _).mono ?_
  rintro e w' ⟨x, rfl, h5, h6, hd, hg⟩
  obtain ⟨k, rfl⟩ := Int.eq_ofNat_of_zero_le h5
  obtain ⟨y, hy⟩ := oddCells_at k (by omega)
  have r0 : Row (w.alloc (.cells oddCells 2)) w.heap.size 2 oddCells := Row.new _ _ _
  have r1 : Row w' w.heap.size 2 oddCells := (hg.block w.heap.size r0.lt (fun e => by injection e; omega)).trans r0
  have c1 : w'.cell? ⟨w.heap.size, k, none⟩ = some (.int .i64 y) := (r1.cell k).trans hy
  have F : AnsAny w p A n c (.returned (.int .i64 y)) w' := ⟨y, rfl, hd, grown_trans (World.grownBy_alloc w _ _) hg⟩
  have HF := Lib.hid F
  have i1 : (k : Int) < 10 := by omega
  clear F hd hg r0 r1 hy D
  go_wp2
  go_ret
  exact HF.out
end Go.Proofs.Ytdeegjeopkcomaa.dice
