/-
  CONTRACTS on signatures: the laws' helpers szInt64S, szSig, toSig, eqSig. Conditions: the slice reads as a list ('Seg'). By an AI agent.
-/
import Derived.Test.YtdeegjeopkcomaaInts
namespace Go.Proofs.Ytdeegjeopkcomaa.sig
open Go.RowKit Go.Proofs.Ytdeegjeopkcomaa.base Go.Proofs.Ytdeegjeopkcomaa.ints

theorem szInts (A : Option Addr) (n c : Nat) (left : Int) (w : World) (hn : n ≤ 9223372036854775807) (h0 : 0 ≤ left) (h1 : left ≤ 1048576) :
    Calls Try.prog 89 #[.slice A n c, .int .i64 left] w fun e w' => w = w' ∧ e = .returned (.int .i64 (if left - n < 0 then -1 else left - n)) := by
  by_cases h : left - n < 0
  · rw [if_pos h]
    go_enter Try.func89, Try.ntmps89
    go_wp2
    go_ret
    exact ⟨rfl, rfl⟩
  · rw [if_neg h]
    go_enter Try.func89, Try.ntmps89
    go_wp2
    go_ret
    exact ⟨rfl, rfl⟩

theorem szSig (A : Option Addr) (n c : Nat) (left : Int) (w : World) (hn : n ≤ 9223372036854775807) (h0 : 0 ≤ left) (h1 : left ≤ 1048576) :
    Calls Try.prog 40 #[.agg #[.slice A n c], .int .i64 left] w fun e w' => e = .returned (.int .i64 (if left - n < 0 then -1 else left - n)) ∧ Below w.heap.size w w' := by
  have L := fun W => Lib.hid (szInts A n c left W hn h0 h1)
  have hb : Below w.heap.size w (w.alloc (.cells #[.slice A n c] 47)) := (Below.refl _ _).alloc (Nat.le_refl _) _
  by_cases h : left - n < 0
  · rw [if_pos h] at L ⊢
    go_enter Try.func40, Try.ntmps40
    go_wp2_with fail
    refine (L _).out.mono ?_
    rintro e w' ⟨rfl, rfl⟩
    go_wp2
    go_ret
    exact ⟨rfl, hb⟩
  · rw [if_neg h] at L ⊢
    go_enter Try.func40, Try.ntmps40
    go_wp2_with fail
    refine (L _).out.mono ?_
    rintro e w' ⟨rfl, rfl⟩
    go_wp2
    go_ret
    exact ⟨rfl, hb⟩

/-- a Sig's copy: a new slice of the same numbers -/
def CopySig (w : World) (n : Nat) (xs : List Int) (e : Ending) (w' : World) : Prop :=
  ∃ g cs, e = .returned (.agg #[.slice (some ⟨g, 0, none⟩) n n]) ∧ w.heap.size ≤ g ∧ Row w' g 2 cs ∧ cs.size = n ∧ (∀ j, j < n → cs[j]? = some (.int .i64 (xs.getD j 0))) ∧ Below w.heap.size w w'

set_option maxHeartbeats 400000 in
theorem toSig (A : Option Addr) (n c : Nat) (xs : List Int) (w : World) (h : Seg w w.heap.size A n xs) (hn : n ≤ 1048576) :
    Calls Try.prog 42 #[.agg #[.slice A n c]] w (CopySig w n xs) := by
  obtain ⟨W, hW⟩ : ∃ W, W = ((w.alloc (.cells #[.slice A n c] 47)).alloc (.cells #[.slice none 0 0] 26)).alloc (.cells #[.slice none 0 0] 26) := ⟨_, rfl⟩
  have hz : W.heap.size = w.heap.size + 1 + 1 + 1 := by rw [hW]; simp
  have r1 : Row W (w.heap.size + 1) 26 #[.slice none 0 0] := by
    rw [hW]; have := (Row.new (w.alloc (.cells #[.slice A n c] 47)) 26 #[.slice none 0 0]).alloc (.cells #[.slice none 0 0] 26); simpa using this
  have r2 : Row W (w.heap.size + 1 + 1) 26 #[.slice none 0 0] := by
    rw [hW]; have := Row.new ((w.alloc (.cells #[.slice A n c] 47)).alloc (.cells #[.slice none 0 0] 26)) 26 #[.slice none 0 0]; simpa using this
  have s : Seg W W.heap.size A n xs := by
    have : Seg W w.heap.size A n xs := by rw [hW]; exact ((h.alloc (Nat.le_refl _) _).alloc (by simp) _).alloc (by simp; omega) _
    exact this.more (by omega)
  have b : Below w.heap.size w W := by rw [hW]; exact (((Below.refl _ _).alloc (Nat.le_refl _) _).alloc (by simp) _).alloc (by simp; omega) _
  have L := Lib.hid (toInts A n c xs W s hn)
  have HW := Lib.hid hW
  clear hW s h
  go_enter Try.func42, Try.ntmps42
  go_wp2_with fail
  rw [← HW.out]
  refine L.out.mono ?_
  rintro e w' ⟨cs, rfl, hr, hs, hc, hz', hb⟩
  replace r1 := r1.next hb
  replace r2 := r2.next hb
  have c1 : w'.cell? ⟨w.heap.size + 1, 0, none⟩ = some (.slice none 0 0) := r1.cell 0
  have c2 : w'.cell? ⟨w.heap.size + 1 + 1, 0, none⟩ = some (.slice none 0 0) := r2.cell 0
  have f1 : w'.frozen? ⟨w.heap.size + 1, 0, none⟩ = false := r1.free 0
  have f2 : w'.frozen? ⟨w.heap.size + 1 + 1, 0, none⟩ = false := r2.free 0
  rw [hz] at hr ⊢
  have B : Below w.heap.size w w' := b.trans (hb.mono (by omega))
  have S : CopySig w n xs (.returned (.agg #[.slice (some ⟨w.heap.size + 1 + 1 + 1, 0, none⟩) n n]))
      ((w'.setCell ⟨w.heap.size + 1 + 1, 0, none⟩ (.slice (some ⟨w.heap.size + 1 + 1 + 1, 0, none⟩) n n)).setCell ⟨w.heap.size + 1, 0, none⟩ (.slice (some ⟨w.heap.size + 1 + 1 + 1, 0, none⟩) n n)) :=
    ⟨_, cs, rfl, by omega, (hr.far (by simp) _).far (by simp; omega) _, hs, hc, (B.setCell (by simp; omega) _).setCell (by simp) _⟩
  have HS := Lib.hid S
  clear S hc hr hs hz hz' hb b B r1 r2
  go_wp2
  exact bodyPost_ret (v := .agg #[.slice (some ⟨w.heap.size + 1 + 1 + 1, 0, none⟩) n n]) (by simp [results, Try.results42, go_sem, c1]) rfl HS.out

/-- two signatures of the same numbers are equal -/
theorem eqSigYes (A A' : Option Addr) (n c c' : Nat) (xs : List Int) (w : World) (h : Seg w w.heap.size A n xs) (h' : Seg w w.heap.size A' n xs) (hn : n ≤ 1048576) :
    Calls Try.prog 44 #[.agg #[.slice A n c], .agg #[.slice A' n c']] w fun e w' => e = .returned (.bool true) ∧ Below w.heap.size w w' := by
  obtain ⟨W, hW⟩ : ∃ W, W = (w.alloc (.cells #[.slice A n c] 26)).alloc (.cells #[.slice A' n c'] 26) := ⟨_, rfl⟩
  have s : Seg W W.heap.size A n xs := by
    have : Seg W w.heap.size A n xs := by rw [hW]; exact (h.alloc (Nat.le_refl _) _).alloc (by simp) _
    exact this.more (by rw [hW]; simp; omega)
  have s' : Seg W W.heap.size A' n xs := by
    have : Seg W w.heap.size A' n xs := by rw [hW]; exact (h'.alloc (Nat.le_refl _) _).alloc (by simp) _
    exact this.more (by rw [hW]; simp; omega)
  have b : Below w.heap.size w W := by rw [hW]; exact ((Below.refl _ _).alloc (Nat.le_refl _) _).alloc (by simp) _
  have L := Lib.hid (eqYes A A' n c c' xs W s s' hn)
  have HW := Lib.hid hW
  clear hW s s' h h'
  go_enter Try.func44, Try.ntmps44
  go_wp2_with fail
  rw [← HW.out]
  refine L.out.mono ?_
  rintro e w' ⟨rfl, d, rfl⟩
  replace b := below_drewN b d
  go_wp2
  go_ret
  exact ⟨rfl, b⟩

/-! ### a valid signature -/
def arityOk (a : Int) : Bool := decide (0 ≤ a ∧ a ≤ 3)
def sigOkB (xs : List Int) : Bool := decide (1 ≤ xs.length ∧ xs.length ≤ 8) && xs.all arityOk

/-- lo ≤ x ≤ hi -/
theorem inYes (x lo hi : Int) (w : World) (h : lo ≤ x ∧ x ≤ hi) : Calls Try.prog 83 #[.int .i64 x, .int .i64 lo, .int .i64 hi] w fun e w' => w = w' ∧ e = .returned (.bool true) := by
  obtain ⟨h1, h2⟩ := h
  go_enter Try.func83, Try.ntmps83
  go_wp2
  go_ret
  exact ⟨rfl, rfl⟩
theorem inNo (x lo hi : Int) (w : World) (h : ¬ (lo ≤ x ∧ x ≤ hi)) : Calls Try.prog 83 #[.int .i64 x, .int .i64 lo, .int .i64 hi] w fun e w' => w = w' ∧ e = .returned (.bool false) := by
  by_cases h1 : lo ≤ x
  · have h2 : decide (x ≤ hi) = false := by simp; omega
    go_enter Try.func83, Try.ntmps83
    go_wp2
    go_ret
    exact ⟨rfl, rfl⟩
  · go_enter Try.func83, Try.ntmps83
    go_wp2
    go_ret
    exact ⟨rfl, rfl⟩

def AnsSig (w : World) (xs : List Int) (e : Ending) (w' : World) : Prop := e = .returned (.bool (sigOkB xs)) ∧ Below w.heap.size w w'
theorem sig_len {w w' : World} {xs : List Int} {n : Nat} (hx : xs.length = n) (h : ¬ (1 ≤ n ∧ n ≤ 8)) (hb : Below w.heap.size w w') : AnsSig w xs (.returned (.bool false)) w' :=
  ⟨by unfold sigOkB; rw [decide_eq_false (by omega), Bool.false_and], hb⟩
theorem sig_bad {w w' : World} {xs : List Int} {n k : Nat} {x : Int} (hx : xs.length = n) (hk : k < n) (ex : Hid (xs.getD k 0 = x)) (h : ¬ (0 ≤ x ∧ x ≤ 3)) (hb : Below w.heap.size w w') : AnsSig w xs (.returned (.bool false)) w' := by
  refine ⟨?_, hb⟩
  have hm : x ∈ xs := by
    have := ex.out
    subst hx
    rw [← this]
    simp [List.getD, hk]
  have : xs.all arityOk = false := by
    rw [List.all_eq_false]
    exact ⟨x, hm, by simp [arityOk]; omega⟩
  unfold sigOkB
  rw [this, Bool.and_false]
theorem sig_good {w w' : World} {xs : List Int} {n k : Nat} (hx : xs.length = n) (h : 1 ≤ n ∧ n ≤ 8) (hn : ¬ k < n) (hc : ∀ j, j < k → 0 ≤ xs.getD j 0 ∧ xs.getD j 0 ≤ 3) (hb : Below w.heap.size w w') : AnsSig w xs (.returned (.bool true)) w' := by
  refine ⟨?_, hb⟩
  have : xs.all arityOk = true := by
    rw [List.all_eq_true]
    intro x hxm
    obtain ⟨j, hj, rfl⟩ := List.getElem_of_mem hxm
    have := hc j (by omega)
    simp [List.getD, hj] at this
    simp [arityOk, this]
  unfold sigOkB
  rw [this, Bool.and_true, decide_eq_true (by omega)]
/-- the head of a loop over the arities: the first k are fine -/
def HeadSig (n : Nat) (xs : List Int) (i : Value) : Prop := ∃ k : Nat, k ≤ n ∧ i = .int .i64 k ∧ ∀ j, j < k → 0 ≤ xs.getD j 0 ∧ xs.getD j 0 ≤ 3
theorem headSig_step {n k : Nat} {xs : List Int} {x : Int} (hk : k < n) (h : ∀ j, j < k → 0 ≤ xs.getD j 0 ∧ xs.getD j 0 ≤ 3) (hx : Hid (xs.getD k 0 = x)) (h0 : 0 ≤ x ∧ x ≤ 3) : HeadSig n xs (.int .i64 ((k : Int) + 1)) :=
  ⟨k + 1, hk, by simp, fun j hj => by
    by_cases e : j = k
    · subst e; rw [hx.out]; exact h0
    · exact h j (by omega)⟩

set_option maxHeartbeats 400000 in
theorem specSigOk (A : Option Addr) (n c : Nat) (xs : List Int) (w : World) (h : Seg w w.heap.size A n xs) (hn : n ≤ 1048576) :
    Calls Try.prog 76 #[.agg #[.slice A n c]] w (AnsSig w xs) := by
  have b : Below w.heap.size w (w.alloc (.cells #[.slice A n c] 26)) := (Below.refl _ _).alloc (Nat.le_refl _) _
  by_cases hl : 1 ≤ n ∧ n ≤ 8
  · go_enter Try.func76, Try.ntmps76
    go_wp2_with fail
    refine (inYes _ _ _ _ (by omega)).mono ?_
    rintro e w' ⟨rfl, rfl⟩
    go_wp2_with fail
    go_loop [3] (fun i => HeadSig n xs i) (fun i => n - (intOf i).toNat)
    case atStart => exact ⟨0, Nat.zero_le _, rfl, fun j h => absurd h (Nat.not_lt_zero _)⟩
    case round =>
      obtain ⟨k, hk, rfl, hc⟩ := hrel
      by_cases hlt : k < n
      · obtain ⟨g, off, x, rfl, hg, hx, ex⟩ := h.spot hlt
        by_cases hin : 0 ≤ x ∧ x ≤ 3
        · have S := Lib.hid (headSig_step (n := n) hlt hc ex hin)
          have L := Lib.hid (fun W => inYes x 0 3 W hin)
          clear hc h ex hin
          go_wp2_with fail
          refine (L.out _).mono ?_
          rintro e w' ⟨rfl, rfl⟩
          go_wp2
          go_round
          case rel => exact S.out
          case measure => simp [intOf]; omega
        · have S := Lib.hid (sig_bad h.1 hlt ex hin b)
          have L := Lib.hid (fun W => inNo x 0 3 W hin)
          clear hc h ex hin b
          go_wp2_with fail
          refine (L.out _).mono ?_
          rintro e w' ⟨rfl, rfl⟩
          go_wp2
          go_ret
          exact S.out
      · have S := Lib.hid (sig_good h.1 hl hlt hc b)
        clear hc h b
        go_wp2
        go_ret
        exact S.out
  · have S := Lib.hid (sig_len h.1 hl b)
    clear h b
    go_enter Try.func76, Try.ntmps76
    go_wp2_with fail
    refine (inNo _ _ _ _ (by omega)).mono ?_
    rintro e w' ⟨rfl, rfl⟩
    go_wp2
    go_ret
    exact S.out

set_option maxHeartbeats 400000 in
theorem implSigOk (A : Option Addr) (n c : Nat) (xs : List Int) (w : World) (h : Seg w w.heap.size A n xs) (hn : n ≤ 1048576) :
    Calls Try.prog 72 #[.agg #[.slice A n c]] w (AnsSig w xs) := by
  have b : Below w.heap.size w (w.alloc (.cells #[.slice A n c] 26)) := (Below.refl _ _).alloc (Nat.le_refl _) _
  by_cases hl : 1 ≤ n ∧ n ≤ 8
  · obtain ⟨hl1, hl2⟩ := hl
    go_enter Try.func72, Try.ntmps72
    go_wp2_with fail
    go_loop [18] (fun i => HeadSig n xs i) (fun i => n - (intOf i).toNat)
    case atStart => exact ⟨0, Nat.zero_le _, rfl, fun j h => absurd h (Nat.not_lt_zero _)⟩
    case round =>
      obtain ⟨k, hk, rfl, hc⟩ := hrel
      by_cases hlt : k < n
      · obtain ⟨g, off, x, rfl, hg, hx, ex⟩ := h.spot hlt
        by_cases hin : 0 ≤ x ∧ x ≤ 3
        · have S := Lib.hid (headSig_step (n := n) hlt hc ex hin)
          obtain ⟨hin1, hin2⟩ := hin
          clear hc h ex
          go_wp2
          go_round
          case rel => exact S.out
          case measure => simp [intOf]; omega
        · have S := Lib.hid (sig_bad h.1 hlt ex hin b)
          clear hc h ex b
          by_cases hx0 : x < 0
          · go_wp2
            go_ret
            exact S.out
          · have hx3 : 3 < x := by omega
            go_wp2
            go_ret
            exact S.out
      · have S := Lib.hid (sig_good h.1 ⟨hl1, hl2⟩ hlt hc b)
        clear hc h b
        go_wp2
        go_ret
        exact S.out
  · have S := Lib.hid (sig_len h.1 hl b)
    clear h b
    by_cases hl1 : n < 1
    · go_enter Try.func72, Try.ntmps72
      go_wp2
      go_ret
      exact S.out
    · have hl2 : 8 < n := by omega
      go_enter Try.func72, Try.ntmps72
      go_wp2
      go_ret
      exact S.out
end Go.Proofs.Ytdeegjeopkcomaa.sig
