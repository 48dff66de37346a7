/-
  CONTRACTS: spec.LessTerm, slices.Compare at []int64 and impl.LessTerm compare two slices by length, then number by number. Conditions: the slices read as lists ('Seg'), at most 1048576 elements. By an AI agent.
-/
import Derived.Test.YtadajlchoongcaaInts
namespace Go.Proofs.Ytadajlchoongcaa.less
open Go.RowKit Go.Proofs.Ytadajlchoongcaa.base Go.Proofs.Ytadajlchoongcaa.ints

/-- of two lists of one length: the smaller number at the first difference -/
def lex : List Int → List Int → Bool
  | x :: xs, y :: ys => if x = y then lex xs ys else decide (x < y)
  | _, _ => false
def lessB (xs ys : List Int) : Bool := if xs.length = ys.length then lex xs ys else decide (xs.length < ys.length)

theorem lex_drop {n : Nat} : ∀ {xs ys : List Int} {k : Nat}, xs.length = n → ys.length = n → k ≤ n → (∀ j, j < k → xs.getD j 0 = ys.getD j 0) → lex xs ys = lex (xs.drop k) (ys.drop k) := by
  induction n with
  | zero => intro xs ys k hx hy hk _; obtain rfl : k = 0 := by omega
            rfl
  | succ n ih =>
    intro xs ys k hx hy hk h
    match xs, ys, k with
    | x :: xs, y :: ys, 0 => rfl
    | x :: xs, y :: ys, k + 1 =>
      have h0 : x = y := by simpa using h 0 (by omega)
      subst h0
      have := ih (xs := xs) (ys := ys) (k := k) (by simpa using hx) (by simpa using hy) (by omega) (fun j hj => by simpa using h (j + 1) (by omega))
      simp only [lex, if_true, List.drop_succ_cons]
      exact this
theorem drop_get {xs : List Int} {k n : Nat} (hx : xs.length = n) (hk : k < n) : xs.drop k = xs.getD k 0 :: xs.drop (k + 1) := by
  subst hx
  rw [List.drop_eq_getElem_cons hk]
  simp [List.getD, hk]
theorem lex_at {xs ys : List Int} {n k : Nat} {x y : Int} (hx : xs.length = n) (hy : ys.length = n) (hk : k < n) (h : ∀ j, j < k → xs.getD j 0 = ys.getD j 0) (ex : Hid (xs.getD k 0 = x)) (ey : Hid (ys.getD k 0 = y)) (hne : ¬ x = y) :
    lex xs ys = decide (x < y) := by
  rw [lex_drop hx hy (by omega) h, drop_get hx hk, drop_get hy hk, ex.out, ey.out, lex, if_neg hne]
theorem lex_end {xs ys : List Int} {n k : Nat} (hx : xs.length = n) (hy : ys.length = n) (hk : k ≤ n) (hn : ¬ k < n) (h : ∀ j, j < k → xs.getD j 0 = ys.getD j 0) : lex xs ys = false := by
  rw [lex_drop hx hy hk h, List.drop_eq_nil_of_le (by omega), List.drop_eq_nil_of_le (by omega)]
  rfl

def AnsLess (w : World) (xs ys : List Int) (e : Ending) (w' : World) : Prop := e = .returned (.bool (lessB xs ys)) ∧ ∃ d, w' = w.drewN d
theorem less_len {w : World} {xs ys : List Int} {n m : Nat} (hx : xs.length = n) (hy : ys.length = m) (h : ¬ n = m) : AnsLess w xs ys (.returned (.bool (decide (n < m)))) w :=
  ⟨by unfold lessB; rw [hx, hy, if_neg h], 0, rfl⟩
theorem less_at {w : World} {xs ys : List Int} {n k : Nat} {x y : Int} (hx : xs.length = n) (hy : ys.length = n) (hk : k < n) (h : ∀ j, j < k → xs.getD j 0 = ys.getD j 0) (ex : Hid (xs.getD k 0 = x)) (ey : Hid (ys.getD k 0 = y)) (hne : ¬ x = y) (d : Nat) :
    AnsLess w xs ys (.returned (.bool (decide (x < y)))) (w.drewN d) :=
  ⟨by unfold lessB; rw [hx, hy, if_pos rfl, lex_at hx hy hk h ex ey hne], d, rfl⟩
theorem less_end {w : World} {xs ys : List Int} {n k : Nat} (hx : xs.length = n) (hy : ys.length = n) (hk : k ≤ n) (hn : ¬ k < n) (h : ∀ j, j < k → xs.getD j 0 = ys.getD j 0) (d : Nat) : AnsLess w xs ys (.returned (.bool false)) (w.drewN d) :=
  ⟨by unfold lessB; rw [hx, hy, if_pos rfl, lex_end hx hy hk hn h], d, rfl⟩

set_option maxHeartbeats 400000 in
theorem specLess (A A' : Option Addr) (n m c c' : Nat) (xs ys : List Int) (w : World) (h : Seg w w.heap.size A n xs) (h' : Seg w w.heap.size A' m ys) (hn : n ≤ 1048576) (hm : m ≤ 1048576) :
    Calls Try.prog 30 #[.slice A n c, .slice A' m c'] w (AnsLess w xs ys) := by
  by_cases hnm : n = m
  · subst hnm
    go_enter Try.func30, Try.ntmps30
    go_wp2
    go_loopw [5] (fun i wr => HeadSame w n xs ys i wr) (fun i _ => n - (intOf i).toNat)
    case atStart => exact ⟨0, 0, Nat.zero_le _, rfl, rfl, fun j h => absurd h (Nat.not_lt_zero _)⟩
    case round =>
      obtain ⟨k, d, hk, rfl, rfl, hc⟩ := hrel
      by_cases hlt : k < n
      · obtain ⟨b, off, x, rfl, -, hx, ex⟩ := h.spot hlt
        obtain ⟨b', off', y, rfl, -, hx', ey⟩ := h'.spot hlt
        by_cases he : x = y
        · subst he
          have S := Lib.hid (alike_step (w := w) hlt hc ex ey)
          clear hc h h' ex ey
          go_wp2
          go_quiet (fail)
          go_wp2
          go_roundw
          case rel => exact S.out _
          case measure => simp [intOf]; omega
        · have S := Lib.hid (less_at (w := w) h.1 h'.1 hlt hc ex ey he)
          have hne : (x != y) = true := by simp [he]
          clear hc h h' ex ey he
          go_wp2
          go_quiet (fail)
          go_wp2
          go_quiet (fail)
          go_wp2
          go_ret
          simp only [World.drewN_drewN]
          exact S.out _
      · have S := Lib.hid (less_end (w := w) h.1 h'.1 hk hlt hc)
        clear hc h h'
        go_wp2
        go_ret
        exact S.out _
  · have S := Lib.hid (less_len (w := w) h.1 h'.1 hnm)
    have hne : ((n : Int) != (m : Int)) = true := by simp; omega
    clear h h'
    go_enter Try.func30, Try.ntmps30
    go_wp2
    go_ret
    exact S.out

/-- cmp.Compare -/
theorem cmp_any (x y : Int) (w : World) : Calls Try.prog 78 #[.int .i64 x, .int .i64 y] w fun e w' => w = w' ∧ e = .returned (.int .i64 (if x < y then -1 else if y < x then 1 else 0)) := by
  have h1 : (x != x) = false := by simp
  have h2 : (y != y) = false := by simp
  by_cases hlt : x < y
  · go_enter Try.func78, Try.ntmps78
    go_wp2
    go_ret
    exact ⟨rfl, by simp [hlt]⟩
  · by_cases hgt : y < x
    · go_enter Try.func78, Try.ntmps78
      go_wp2
      go_ret
      exact ⟨rfl, by simp [hlt, hgt]⟩
    · go_enter Try.func78, Try.ntmps78
      go_wp2
      go_ret
      exact ⟨rfl, by simp [hlt, hgt]⟩

/-- what slices.Compare answers for two slices of one length -/
def AnsCmp (w : World) (xs ys : List Int) (e : Ending) (w' : World) : Prop := w = w' ∧ ∃ c : Int, e = .returned (.int .i64 c) ∧ decide (c < 0) = lex xs ys ∧ -1 ≤ c ∧ c ≤ 1
theorem cmp_at {w : World} {xs ys : List Int} {n k : Nat} {x y c : Int} (hx : xs.length = n) (hy : ys.length = n) (hk : k < n) (h : ∀ j, j < k → xs.getD j 0 = ys.getD j 0) (ex : Hid (xs.getD k 0 = x)) (ey : Hid (ys.getD k 0 = y)) (hne : ¬ x = y)
    (hc : (x < y ∧ c = -1) ∨ (y < x ∧ c = 1)) : AnsCmp w xs ys (.returned (.int .i64 c)) w :=
  ⟨rfl, c, rfl, by rw [lex_at hx hy hk h ex ey hne]; rcases hc with ⟨h1, rfl⟩ | ⟨h1, rfl⟩ <;> simp <;> omega, by omega, by omega⟩
theorem cmp_end {w : World} {xs ys : List Int} {n k : Nat} (hx : xs.length = n) (hy : ys.length = n) (hk : k ≤ n) (hn : ¬ k < n) (h : ∀ j, j < k → xs.getD j 0 = ys.getD j 0) : AnsCmp w xs ys (.returned (.int .i64 0)) w :=
  ⟨rfl, 0, rfl, by rw [lex_end hx hy hk hn h]; rfl, by omega, by omega⟩

theorem head_step {n k : Nat} {xs ys : List Int} {x : Int} (h : ∀ j, j < k → xs.getD j 0 = ys.getD j 0) (hx : Hid (xs.getD k 0 = x)) (hy : Hid (ys.getD k 0 = x)) : ∀ j, j < k + 1 → xs.getD j 0 = ys.getD j 0 := fun j hj => by
  by_cases e : j = k
  · subst e; rw [hx.out, hy.out]
  · exact h j (by omega)

def HeadCmp (n : Nat) (xs ys : List Int) (i : Value) : Prop := ∃ k : Nat, k ≤ n ∧ i = .int .i64 k ∧ ∀ j, j < k → xs.getD j 0 = ys.getD j 0
theorem headCmp_step {n k : Nat} {xs ys : List Int} {x : Int} (hk : k < n) (h : ∀ j, j < k → xs.getD j 0 = ys.getD j 0) (hx : Hid (xs.getD k 0 = x)) (hy : Hid (ys.getD k 0 = x)) : HeadCmp n xs ys (.int .i64 ((k : Int) + 1)) :=
  ⟨k + 1, hk, by simp, head_step (n := n) h hx hy⟩

set_option maxHeartbeats 400000 in
theorem libCompare (A A' : Option Addr) (n c c' : Nat) (xs ys : List Int) (w : World) (h : Seg w w.heap.size A n xs) (h' : Seg w w.heap.size A' n ys) (hn : n ≤ 1048576) :
    Calls Try.prog 63 #[.slice A n c, .slice A' n c'] w (AnsCmp w xs ys) := by
  go_enter Try.func63, Try.ntmps63
  go_wp2
  go_loop [11] (fun i => HeadCmp n xs ys i) (fun i => n - (intOf i).toNat)
  case atStart => exact ⟨0, Nat.zero_le _, rfl, fun j h => absurd h (Nat.not_lt_zero _)⟩
  case round =>
    obtain ⟨k, hk, rfl, hc⟩ := hrel
    by_cases hlt : k < n
    · obtain ⟨b, off, x, rfl, -, hx, ex⟩ := h.spot hlt
      obtain ⟨b', off', y, rfl, -, hx', ey⟩ := h'.spot hlt
      by_cases he : x = y
      · subst he
        have S := Lib.hid (headCmp_step (n := n) hlt hc ex ey)
        clear hc h h' ex ey
        go_wp2_with fail
        refine (cmp_any x x w).mono ?_
        rw [if_neg (Int.lt_irrefl x), if_neg (Int.lt_irrefl x)]
        rintro e w' ⟨rfl, rfl⟩
        go_wp2
        go_round
        case rel => exact S.out
        case measure => simp [intOf]; omega
      · by_cases hxy : x < y
        · have S := Lib.hid (cmp_at (w := w) h.1 h'.1 hlt hc ex ey he (.inl ⟨hxy, rfl⟩))
          clear hc h h' ex ey he
          go_wp2_with fail
          refine (cmp_any x y w).mono ?_
          rw [if_pos hxy]
          rintro e w' ⟨rfl, rfl⟩
          go_wp2
          go_ret
          exact S.out
        · have hyx : y < x := by omega
          have S := Lib.hid (cmp_at (w := w) h.1 h'.1 hlt hc ex ey he (.inr ⟨hyx, rfl⟩))
          clear hc h h' ex ey he
          go_wp2_with fail
          refine (cmp_any x y w).mono ?_
          rw [if_neg (by omega), if_pos hyx]
          rintro e w' ⟨rfl, rfl⟩
          go_wp2
          go_ret
          exact S.out
    · have S := Lib.hid (cmp_end (w := w) h.1 h'.1 hk hlt hc)
      clear hc h h'
      go_wp2
      go_ret
      exact S.out

theorem implLess (A A' : Option Addr) (n m c c' : Nat) (xs ys : List Int) (w : World) (h : Seg w w.heap.size A n xs) (h' : Seg w w.heap.size A' m ys) (hn : n ≤ 1048576) (hm : m ≤ 1048576) :
    Calls Try.prog 29 #[.slice A n c, .slice A' m c'] w (AnsLess w xs ys) := by
  by_cases hnm : n = m
  · subst hnm
    have L := Lib.hid (libCompare A A' n c c' xs ys w h h' hn)
    have hl : xs.length = ys.length := by rw [h.1, h'.1]
    have HL := Lib.hid hl
    clear h h' hl
    go_enter Try.func29, Try.ntmps29
    go_wp2_with fail
    refine L.out.mono ?_
    rintro e w' ⟨rfl, c, rfl, hc, h1, h2⟩
    have HC := Lib.hid hc
    clear hc
    go_wp2
    go_ret
    exact ⟨by unfold lessB; rw [if_pos HL.out, ← HC.out]; rfl, 0, rfl⟩
  · have S := Lib.hid (less_len (w := w) h.1 h'.1 hnm)
    have hne : ((n : Int) != (m : Int)) = true := by simp; omega
    clear h h'
    go_enter Try.func29, Try.ntmps29
    go_wp2
    go_ret
    exact S.out
end Go.Proofs.Ytadajlchoongcaa.less
