/-
  THE LAWS' HELPERS IN ONE FORM, for each kind of argument (ints, Sig, Subst): copy, compare, mark, find the marks, measure. Used by the walks that gen_exact.py writes. Conditions: at most 1048576 values. By an AI agent.
-/
import Derived.Test.YtdeegjeopkcomaaSegsMark
namespace Go.Proofs.Ytdeegjeopkcomaa.kinds
open Go.RowKit Go.Proofs.Ytdeegjeopkcomaa.base Go.Proofs.Ytdeegjeopkcomaa.ints Go.Proofs.Ytdeegjeopkcomaa.sig Go.Proofs.Ytdeegjeopkcomaa.cursor Go.Proofs.Ytdeegjeopkcomaa.marks Go.Proofs.Ytdeegjeopkcomaa.app Go.Proofs.Ytdeegjeopkcomaa.sym Go.Proofs.Ytdeegjeopkcomaa.appAt Go.Proofs.Ytdeegjeopkcomaa.segs Go.Proofs.Ytdeegjeopkcomaa.segsHelp Go.Proofs.Ytdeegjeopkcomaa.segsMark
set_option maxRecDepth 100000

/-- a slice of int64 of the call's own, in a block from lo on and below hi -/
def Ownd (w : World) (lo hi : Nat) (A : Option Addr) (n c : Nat) (xs : List Int) : Prop := Own w lo (.slice A n c) xs ∧ ∀ k, blk A = some k → k < hi
section
variable {w w' : World} {lo hi n c : Nat} {A : Option Addr} {xs : List Int}
theorem Ownd.rd (h : Ownd w lo hi A n c xs) : Seg w w.heap.size A n xs := Own.seg h.1
theorem Ownd.next (h : Ownd w lo hi A n c xs) (hb : Below w.heap.size w w') : Ownd w' lo hi A n c xs := ⟨h.1.next hb, h.2⟩
theorem Ownd.drewN (h : Ownd w lo hi A n c xs) (d : Nat) : Ownd (w.drewN d) lo hi A n c xs := h
theorem Ownd.drew (h : Ownd w lo hi A n c xs) : Ownd w.drew lo hi A n c xs := h
theorem Ownd.wider {lo' hi' : Nat} (h : Ownd w lo hi A n c xs) (h1 : lo' ≤ lo) (h2 : hi ≤ hi') : Ownd w lo' hi' A n c xs := ⟨Own.lower h.1 h1, fun k hk => Nat.lt_of_lt_of_le (h.2 k hk) h2⟩
theorem Ownd.btw {lo' hi' : Nat} (h : Ownd w lo hi A n c xs) (hb : Btw lo' hi' w w') (ho : hi ≤ lo' ∨ hi' ≤ lo) : Ownd w' lo hi A n c xs := by
  obtain ⟨⟨q1, q2⟩, ht⟩ := h
  refine ⟨⟨q1, ?_⟩, ht⟩
  rcases q2 with q2 | ⟨g, cap, cur, hv, hg, hh, r⟩
  · exact .inl q2
  · have h5 := ht g (by rw [← blk_own A n c, hv]; rfl)
    refine .inr ⟨g, cap, cur, hv, hg, ?_, r⟩
    have hlt : g < w.heap.size := (Array.getElem?_eq_some_iff.1 hh).1
    exact (hb.block g hlt (by omega)).trans hh
theorem Ownd.of_own (h : Own w lo (.slice A n c) xs) : Ownd w lo w.heap.size A n c xs := ⟨h, fun k hk => (World.ownsRow.lt h k (by rw [blk_own]; exact hk)).2⟩
theorem Ownd.cap (h : Ownd w lo hi A n c xs) : Cap A n c := by
  have hl := Own.len h.1
  rcases own_form (n := n) (vs := xs.map (Value.int .i64)) (by rw [hl]; have := h.1; rw [hl] at this; exact this) with ⟨rfl, h1, rfl, _⟩ | ⟨g, cur, rfl, _, _, h1, h2, h3, _⟩
  · exact ⟨by omega, by omega, fun _ => rfl⟩
  · exact ⟨h1, h3, fun e => by cases e⟩
theorem drew_below (w : World) : Below w.heap.size w w.drew := ⟨rfl, rfl, rfl, Nat.le_refl _, fun _ _ => rfl⟩
theorem drewN_below (w : World) (d : Nat) : Below w.heap.size w (w.drewN d) := ⟨rfl, rfl, rfl, Nat.le_refl _, fun _ _ => rfl⟩
end

/-! ### ints -/
def CopyInts (w : World) (n : Nat) (xs : List Int) (e : Ending) (w' : World) : Prop := ∃ g, e = .returned (.slice (some ⟨g, 0, none⟩) n n) ∧ Ownd w' w.heap.size w'.heap.size (some ⟨g, 0, none⟩) n n xs ∧ w.heap.size < w'.heap.size ∧ Below w.heap.size w w'
theorem intsTo (A : Option Addr) (n c : Nat) (xs : List Int) (w : World) (h : Seg w w.heap.size A n xs) (hn : n ≤ 1048576) :
    Calls Try.prog 51 #[.slice A n c] w (CopyInts w n xs) :=
  (toInts A n c xs w h hn).mono fun _ _ ⟨cs, he, hr, hs, hc, hz, hb⟩ => ⟨w.heap.size, he, Ownd.of_own (Own.of_row hr h.1 hs (Nat.le_refl _) (by omega) (Nat.le_refl _) hc), by omega, hb⟩
theorem intsEq (A A' : Option Addr) (n n' c c' : Nat) (xs : List Int) (w : World) (h : Seg w w.heap.size A n xs) (h' : Seg w w.heap.size A' n' xs) (hn : n ≤ 1048576) :
    Calls Try.prog 52 #[.slice A n c, .slice A' n' c'] w fun e w' => e = .returned (.bool true) ∧ Below w.heap.size w w' := by
  obtain rfl : n = n' := by rw [← h.1, ← h'.1]
  exact (eqYes A A' n c c' xs w h h' hn).mono fun _ _ ⟨he, d, hd⟩ => ⟨he, by rw [hd]; exact drewN_below _ _⟩
def AnsMarkI (w : World) (lo hi : Nat) (A : Option Addr) (n c : Nat) (k : Int) (e : Ending) (w' : World) : Prop := e = .returned (.int .i64 (k + (n : Int))) ∧ Ownd w' lo hi A n c (marks k n) ∧ Btw lo hi w w'
theorem intsMark (lo hi : Nat) (A : Option Addr) (n c : Nat) (xs : List Int) (k : Int) (w : World) (h : Ownd w lo hi A n c xs) (hn : n ≤ 1048576) (hk0 : 0 ≤ k) (hk : k ≤ 8388608) :
    Calls Try.prog 53 #[.slice A n c, .int .i64 k] w (AnsMarkI w lo hi A n c k) :=
  (markOwn lo A n c xs k w h.1 hn hk0 (by omega)).mono fun _ _ ⟨he, hg, ho⟩ => ⟨he, ⟨ho, h.2⟩, Btw.of_grown hg (fun q hq => ⟨Own.ge h.1 q hq, h.2 q hq⟩)⟩
theorem intsHeld (A : Option Addr) (n c : Nat) (k : Int) (w : World) (h : Seg w w.heap.size A n (marks k n)) (hn : n ≤ 1048576) (hk0 : 0 ≤ k) (hk : k ≤ 8388608) :
    Calls Try.prog 54 #[.slice A n c, .int .i64 k] w fun e w' => e = .returned (.int .i64 (k + (n : Int))) ∧ Below w.heap.size w w' :=
  (heldInts A n c k w h hn hk0 (by omega)).mono fun _ _ ⟨hw, he⟩ => ⟨he, by rw [← hw]; exact Below.refl _ _⟩

/-! ### Sig -/
def CopySigK (w : World) (n : Nat) (xs : List Int) (e : Ending) (w' : World) : Prop := ∃ g, e = .returned (.agg #[.slice (some ⟨g, 0, none⟩) n n]) ∧ Ownd w' w.heap.size w'.heap.size (some ⟨g, 0, none⟩) n n xs ∧ w.heap.size < w'.heap.size ∧ Below w.heap.size w w'
theorem sigTo (A : Option Addr) (n c : Nat) (xs : List Int) (w : World) (h : Seg w w.heap.size A n xs) (hn : n ≤ 1048576) :
    Calls Try.prog 42 #[.agg #[.slice A n c]] w (CopySigK w n xs) :=
  (toSig A n c xs w h hn).mono fun _ _ ⟨g, cs, he, hg, hr, hs, hc, hb⟩ => ⟨g, he, Ownd.of_own (Own.of_row hr h.1 hs (Nat.le_refl _) (by omega) hg hc), Nat.lt_of_le_of_lt hg hr.lt, hb⟩
theorem sigEq (A A' : Option Addr) (n n' c c' : Nat) (xs : List Int) (w : World) (h : Seg w w.heap.size A n xs) (h' : Seg w w.heap.size A' n' xs) (hn : n ≤ 1048576) :
    Calls Try.prog 44 #[.agg #[.slice A n c], .agg #[.slice A' n' c']] w fun e w' => e = .returned (.bool true) ∧ Below w.heap.size w w' := by
  obtain rfl : n = n' := by rw [← h.1, ← h'.1]
  exact eqSigYes A A' n c c' xs w h h' hn

set_option maxHeartbeats 1000000 in
theorem sigMark (lo hi : Nat) (A : Option Addr) (n c : Nat) (xs : List Int) (k : Int) (w : World) (h : Ownd w lo hi A n c xs) (hn : n ≤ 1048576) (hk0 : 0 ≤ k) (hk : k ≤ 8388608) :
    Calls Try.prog 47 #[.agg #[.slice A n c], .int .i64 k] w (AnsMarkI w lo hi A n c k) := by
  have b : Below w.heap.size w (w.alloc (.cells #[.slice A n c] 26)) := (Below.refl _ _).alloc (Nat.le_refl _) _
  have L := Lib.hid (intsMark lo hi A n c xs k _ (h.next b) hn hk0 hk)
  clear h
  go_enter Try.func47, Try.ntmps47
  go_wp2_with fail
  refine L.out.mono ?_
  rintro e w' ⟨rfl, ho, hb⟩
  have F : AnsMarkI w lo hi A n c k (.returned (.int .i64 (k + (n : Int)))) w' := ⟨rfl, ho, (Btw.of_below b).trans hb⟩
  have HF := Lib.hid F
  clear F ho hb b L
  go_wp2
  go_ret
  exact HF.out

/-! ### Subst -/
theorem substSz (A : Option Addr) (n c : Nat) (xss : List (List Int)) (left : Int) (w : World) (h : Segs w w.heap.size A n xss) (hn : n ≤ 9223372036854775807) (h0 : 0 ≤ left) (h1 : left ≤ 1048576) :
    Calls Try.prog 41 #[.agg #[.slice A n c], .int .i64 left] w fun e w' => e = .returned (.int .i64 (if left - tot xss < 0 then -1 else left - tot xss)) ∧ Below w.heap.size w w' := by
  have hb : Below w.heap.size w (w.alloc (.cells #[.slice A n c] 48)) := (Below.refl _ _).alloc (Nat.le_refl _) _
  have L := Lib.hid (szSS A n c xss left _ (h.next hb) hn h0 h1)
  clear h
  obtain ⟨z, hz⟩ : ∃ z, tot xss = z := ⟨_, rfl⟩
  rw [hz] at L ⊢
  clear hz
  by_cases h : left - z < 0
  · rw [if_pos h]
    go_enter Try.func41, Try.ntmps41
    go_wp2_with fail
    refine L.out.mono ?_
    rintro e w' ⟨rfl, he⟩
    rw [if_pos h] at he
    subst he
    clear L
    go_wp2
    go_ret
    exact ⟨rfl, hb⟩
  · rw [if_neg h]
    go_enter Try.func41, Try.ntmps41
    go_wp2_with fail
    refine L.out.mono ?_
    rintro e w' ⟨rfl, he⟩
    rw [if_neg (by omega)] at he
    subst he
    clear L
    go_wp2
    go_ret
    exact ⟨rfl, hb⟩

def CopySubst (w : World) (n : Nat) (xss : List (List Int)) (e : Ending) (w' : World) : Prop := ∃ g, e = .returned (.agg #[.slice (some ⟨g, 0, none⟩) n n]) ∧ Owns w' w.heap.size w'.heap.size (some ⟨g, 0, none⟩) n n xss ∧ w.heap.size < w'.heap.size ∧ Below w.heap.size w w'
theorem owns_put {w : World} {lo hi n c b : Nat} {A : Option Addr} {xss : List (List Int)} {t : TypeId} {cs : Array Value} (h : Owns w lo hi A n c xss) (hr : Row w b t cs) (hb : b < lo) (i : Nat) (u : Value) : Owns (w.setCell ⟨b, i, none⟩ u) lo hi A n c xss :=
  h.btw (lo' := b) (hi' := b + 1) (Btw.of_grown (grown_put (World.grownBy.refl _ _) _ _) (fun k hk => by injection hk; omega)) (.inr (by omega))

set_option maxHeartbeats 1000000 in
theorem substTo (A : Option Addr) (n c : Nat) (xss : List (List Int)) (w : World) (h : Segs w w.heap.size A n xss) (ht : tot xss ≤ 1048576) :
    Calls Try.prog 43 #[.agg #[.slice A n c]] w (CopySubst w n xss) := by
  obtain ⟨W, hW⟩ : ∃ W, W = ((w.alloc (.cells #[.slice A n c] 48)).alloc (.cells #[.slice none 0 0] 29)).alloc (.cells #[.slice none 0 0] 29) := ⟨_, rfl⟩
  have hz : W.heap.size = w.heap.size + 1 + 1 + 1 := by rw [hW]; simp
  have r1 : Row W (w.heap.size + 1) 29 #[.slice none 0 0] := by
    rw [hW]; have := (Row.new (w.alloc (.cells #[.slice A n c] 48)) 29 #[.slice none 0 0]).alloc (.cells #[.slice none 0 0] 29); simpa using this
  have r2 : Row W (w.heap.size + 1 + 1) 29 #[.slice none 0 0] := by
    rw [hW]; have := Row.new ((w.alloc (.cells #[.slice A n c] 48)).alloc (.cells #[.slice none 0 0] 29)) 29 #[.slice none 0 0]; simpa using this
  have b : Below w.heap.size w W := by rw [hW]; exact (((Below.refl _ _).alloc (Nat.le_refl _) _).alloc (by simp) _).alloc (by simp; omega) _
  have L := Lib.hid (toSS A n c xss W (h.next b) (tot_len h.1 ht) (tot_each ht))
  have HW := Lib.hid hW
  clear hW h
  go_enter Try.func43, Try.ntmps43
  go_wp2_with fail
  rw [← HW.out]
  refine L.out.mono ?_
  rintro e w' ⟨g, rfl, ho, hlt, hb⟩
  replace r1 := r1.next hb
  replace r2 := r2.next hb
  have c1 : w'.cell? ⟨w.heap.size + 1, 0, none⟩ = some (.slice none 0 0) := r1.cell 0
  have c2 : w'.cell? ⟨w.heap.size + 1 + 1, 0, none⟩ = some (.slice none 0 0) := r2.cell 0
  have f1 : w'.frozen? ⟨w.heap.size + 1, 0, none⟩ = false := r1.free 0
  have f2 : w'.frozen? ⟨w.heap.size + 1 + 1, 0, none⟩ = false := r2.free 0
  have B : Below w.heap.size w w' := b.trans (hb.mono (by omega))
  have S : CopySubst w n xss (.returned (.agg #[.slice (some ⟨g, 0, none⟩) n n]))
      ((w'.setCell ⟨w.heap.size + 1 + 1, 0, none⟩ (.slice (some ⟨g, 0, none⟩) n n)).setCell ⟨w.heap.size + 1, 0, none⟩ (.slice (some ⟨g, 0, none⟩) n n)) := by
    have o1 := owns_put ho r2 (by omega) 0 (.slice (some ⟨g, 0, none⟩) n n)
    have r1' := r1.far (p := ⟨w.heap.size + 1 + 1, 0, none⟩) (by simp) (.slice (some ⟨g, 0, none⟩) n n)
    have o2 := owns_put o1 r1' (by omega) 0 (.slice (some ⟨g, 0, none⟩) n n)
    refine ⟨g, rfl, o2.wider (by omega) (by simp), by simp; omega, (B.setCell (by simp; omega) _).setCell (by simp) _⟩
  have HS := Lib.hid S
  clear S ho hlt hb b B r1 r2 hz
  go_wp2
  exact bodyPost_ret (v := .agg #[.slice (some ⟨g, 0, none⟩) n n]) (by simp [results, Try.results43, go_sem, c1]) rfl HS.out

theorem substEq (A A' : Option Addr) (n n' c c' : Nat) (xss : List (List Int)) (w : World) (h : Segs w w.heap.size A n xss) (h' : Segs w w.heap.size A' n' xss) (ht : tot xss ≤ 1048576) :
    Calls Try.prog 45 #[.agg #[.slice A n c], .agg #[.slice A' n' c']] w fun e w' => e = .returned (.bool true) ∧ Below w.heap.size w w' := by
  obtain rfl : n = n' := by rw [← h.1, ← h'.1]
  obtain ⟨W, hW⟩ : ∃ W, W = (w.alloc (.cells #[.slice A n c] 29)).alloc (.cells #[.slice A' n c'] 29) := ⟨_, rfl⟩
  have b : Below w.heap.size w W := by rw [hW]; exact ((Below.refl _ _).alloc (Nat.le_refl _) _).alloc (by simp) _
  have L := Lib.hid (eqSSYes A A' n c c' xss W (h.next b) (h'.next b) (tot_len h.1 ht) (tot_each ht))
  have HW := Lib.hid hW
  clear hW h h' ht
  go_enter Try.func45, Try.ntmps45
  go_wp2_with fail
  rw [← HW.out]
  refine L.out.mono ?_
  rintro e w' ⟨rfl, d, rfl⟩
  replace b := below_drewN b d
  go_wp2
  go_ret
  exact ⟨rfl, b⟩

set_option maxHeartbeats 1000000 in
theorem substMark (lo hi : Nat) (A : Option Addr) (n c : Nat) (xss : List (List Int)) (k : Int) (w : World) (h : Owns w lo hi A n c xss) (hhi : hi ≤ w.heap.size) (ht : tot xss ≤ 1048576) (hk0 : 0 ≤ k) (hk : k ≤ 8388608) :
    Calls Try.prog 48 #[.agg #[.slice A n c], .int .i64 k] w (AnsMarkS w lo hi A n c xss k) := by
  have b : Below w.heap.size w (w.alloc (.cells #[.slice A n c] 29)) := (Below.refl _ _).alloc (Nat.le_refl _) _
  have L := Lib.hid (markSS lo hi A n c xss k _ (h.next b) ht hk0 hk)
  clear h ht
  go_enter Try.func48, Try.ntmps48
  go_wp2_with fail
  refine L.out.mono ?_
  rintro e w' ⟨rfl, ho, hb⟩
  have F : AnsMarkS w lo hi A n c xss k (.returned (.int .i64 (k + sumL xss n))) w' := ⟨rfl, ho, (Btw.of_below b).trans hb⟩
  have HF := Lib.hid F
  clear F ho hb b L
  generalize sumL xss n = z at *
  go_wp2
  go_ret
  exact HF.out

set_option maxHeartbeats 1000000 in
theorem substHeld (A : Option Addr) (n c : Nat) (xss : List (List Int)) (k : Int) (w : World) (h : Segs w w.heap.size A n (marksL k xss)) (ht : tot xss ≤ 1048576) (hk0 : 0 ≤ k) (hk : k ≤ 8388608) :
    Calls Try.prog 49 #[.agg #[.slice A n c], .int .i64 k] w fun e w' => e = .returned (.int .i64 (k + sumL xss n)) ∧ Below w.heap.size w w' := by
  have b : Below w.heap.size w (w.alloc (.cells #[.slice A n c] 29)) := (Below.refl _ _).alloc (Nat.le_refl _) _
  have HX := segs_marks h
  have hsum : sumL xss n ≤ 1048576 := by
    have h1 := ht
    unfold tot at h1
    rw [HX] at h1
    omega
  have L := Lib.hid (heldSS A n c xss k _ (h.next b) ht hk0 hk)
  clear h ht HX
  obtain ⟨z, hz⟩ : ∃ z, sumL xss n = z := ⟨_, rfl⟩
  rw [hz] at L hsum ⊢
  clear hz
  go_enter Try.func49, Try.ntmps49
  go_wp2_with fail
  refine L.out.mono ?_
  rintro e w' ⟨rfl, rfl⟩
  clear L
  go_wp2
  go_ret
  exact ⟨rfl, b⟩
end Go.Proofs.Ytdeegjeopkcomaa.kinds
