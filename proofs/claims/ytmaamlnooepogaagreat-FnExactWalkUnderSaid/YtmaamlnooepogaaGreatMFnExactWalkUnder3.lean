/-
  MERGED: my texts Kinds, Look, SubstOk, Gives, StepMath, WalkMath, Shape, Shape2, one behind the other, as they are. By an AI agent.
-/
import Derived.Test.YtmaamlnooepogaaGreatMFnExactWalkUnder2
import Derived.Shelf.Abstract
import Derived.Deep.RegionHeld3
import Derived.Deep.QuietTactic
import Derived.BigQuiet
section
/-
  THE LAWS' HELPERS IN ONE FORM, for each kind of argument (ints, Sig, Subst): copy, compare, mark, find the marks, measure. Used by the walks that gen_exact.py writes. Conditions: at most 1048576 values. By an AI agent.
-/
namespace Go.Proofs.YtmaamlnooepogaaGreat.kinds
open Go.RowKit Go.Proofs.YtmaamlnooepogaaGreat.base Go.Proofs.YtmaamlnooepogaaGreat.ints Go.Proofs.YtmaamlnooepogaaGreat.sig Go.Proofs.YtmaamlnooepogaaGreat.cursor Go.Proofs.YtmaamlnooepogaaGreat.marks Go.Proofs.YtmaamlnooepogaaGreat.app Go.Proofs.YtmaamlnooepogaaGreat.sym Go.Proofs.YtmaamlnooepogaaGreat.appAt Go.Proofs.YtmaamlnooepogaaGreat.segs Go.Proofs.YtmaamlnooepogaaGreat.segsHelp Go.Proofs.YtmaamlnooepogaaGreat.segsMark
set_option maxRecDepth 100000

/-- a slice of int64 of the call's own, in a block from lo on and below hi -/
def Ownd (w : World) (lo hi : Nat) (A : Option Addr) (n c : Nat) (xs : List Int) : Prop := Own w lo (.slice A n c) xs ∧ ∀ k, blk A = some k → k < hi
section
variable {w w' : World} {lo hi n c : Nat} {A : Option Addr} {xs : List Int}
theorem Ownd.rd (h : Ownd w lo hi A n c xs) : Seg w w.heap.size A n xs := Own.seg h.1
theorem Ownd.next (h : Ownd w lo hi A n c xs) (hb : Below w.heap.size w w') : Ownd w' lo hi A n c xs := ⟨h.1.next hb, h.2⟩
theorem Ownd.drewN (h : Ownd w lo hi A n c xs) (d : Nat) : Ownd (w.drewN d) lo hi A n c xs := h
theorem Ownd.drew (h : Ownd w lo hi A n c xs) : Ownd w.drew lo hi A n c xs := h
theorem Ownd.wider {lo' hi' : Nat} (h : Ownd w lo hi A n c xs) (h1 : lo' ≤ lo) (h2 : hi ≤ hi') : Ownd w lo' hi' A n c xs := ⟨Own.lower h.1 h1, fun k hk => Nat.lt_of_lt_of_le (h.2 k hk) h2⟩
theorem Ownd.btw {lo' hi' : Nat} (h : Ownd w lo hi A n c xs) (hb : Btw lo' hi' w w') (ho : hi ≤ lo' ∨ hi' ≤ lo) : Ownd w' lo hi A n c xs := by
  obtain ⟨⟨q1, q2⟩, ht⟩ := h
  refine ⟨⟨q1, ?_⟩, ht⟩
  rcases q2 with q2 | ⟨g, cap, cur, hv, hg, hh, r⟩
  · exact .inl q2
  · have h5 := ht g (by rw [← blk_own A n c, hv]; rfl)
    refine .inr ⟨g, cap, cur, hv, hg, ?_, r⟩
    have hlt : g < w.heap.size := (Array.getElem?_eq_some_iff.1 hh).1
    exact (hb.block g hlt (by omega)).trans hh
theorem Ownd.of_own (h : Own w lo (.slice A n c) xs) : Ownd w lo w.heap.size A n c xs := ⟨h, fun k hk => (World.ownsRow.lt h k (by rw [blk_own]; exact hk)).2⟩
theorem Ownd.cap (h : Ownd w lo hi A n c xs) : Cap A n c := by
  have hl := Own.len h.1
  rcases own_form (n := n) (vs := xs.map (Value.int .i64)) (by rw [hl]; have := h.1; rw [hl] at this; exact this) with ⟨rfl, h1, rfl, _⟩ | ⟨g, cur, rfl, _, _, h1, h2, h3, _⟩
  · exact ⟨by omega, by omega, fun _ => rfl⟩
  · exact ⟨h1, h3, fun e => by cases e⟩
theorem drew_below (w : World) : Below w.heap.size w w.drew := ⟨rfl, rfl, rfl, Nat.le_refl _, fun _ _ => rfl⟩
theorem drewN_below (w : World) (d : Nat) : Below w.heap.size w (w.drewN d) := ⟨rfl, rfl, rfl, Nat.le_refl _, fun _ _ => rfl⟩
end

/-! ### ints -/
def CopyInts (w : World) (n : Nat) (xs : List Int) (e : Ending) (w' : World) : Prop := ∃ g, e = .returned (.slice (some ⟨g, 0, none⟩) n n) ∧ Ownd w' w.heap.size w'.heap.size (some ⟨g, 0, none⟩) n n xs ∧ w.heap.size < w'.heap.size ∧ Below w.heap.size w w'
theorem intsTo (A : Option Addr) (n c : Nat) (xs : List Int) (w : World) (h : Seg w w.heap.size A n xs) (hn : n ≤ 1048576) :
    Calls Tryz.prog 72 #[.slice A n c] w (CopyInts w n xs) :=
  (toInts A n c xs w h hn).mono fun _ _ ⟨cs, he, hr, hs, hc, hz, hb⟩ => ⟨w.heap.size, he, Ownd.of_own (Own.of_row hr h.1 hs (Nat.le_refl _) (by omega) (Nat.le_refl _) hc), by omega, hb⟩
theorem intsEq (A A' : Option Addr) (n n' c c' : Nat) (xs : List Int) (w : World) (h : Seg w w.heap.size A n xs) (h' : Seg w w.heap.size A' n' xs) (hn : n ≤ 1048576) :
    Calls Tryz.prog 75 #[.slice A n c, .slice A' n' c'] w fun e w' => e = .returned (.bool true) ∧ Below w.heap.size w w' := by
  obtain rfl : n = n' := by rw [← h.1, ← h'.1]
  exact (eqYes A A' n c c' xs w h h' hn).mono fun _ _ ⟨he, d, hd⟩ => ⟨he, by rw [hd]; exact drewN_below _ _⟩
def AnsMarkI (w : World) (lo hi : Nat) (A : Option Addr) (n c : Nat) (k : Int) (e : Ending) (w' : World) : Prop := e = .returned (.int .i64 (k + (n : Int))) ∧ Ownd w' lo hi A n c (marks k n) ∧ Btw lo hi w w'
theorem intsMark (lo hi : Nat) (A : Option Addr) (n c : Nat) (xs : List Int) (k : Int) (w : World) (h : Ownd w lo hi A n c xs) (hn : n ≤ 1048576) (hk0 : 0 ≤ k) (hk : k ≤ 8388608) :
    Calls Tryz.prog 82 #[.slice A n c, .int .i64 k] w (AnsMarkI w lo hi A n c k) :=
  (markOwn lo A n c xs k w h.1 hn hk0 (by omega)).mono fun _ _ ⟨he, hg, ho⟩ => ⟨he, ⟨ho, h.2⟩, Btw.of_grown hg (fun q hq => ⟨Own.ge h.1 q hq, h.2 q hq⟩)⟩
theorem intsHeld (A : Option Addr) (n c : Nat) (k : Int) (w : World) (h : Seg w w.heap.size A n (marks k n)) (hn : n ≤ 1048576) (hk0 : 0 ≤ k) (hk : k ≤ 8388608) :
    Calls Tryz.prog 85 #[.slice A n c, .int .i64 k] w fun e w' => e = .returned (.int .i64 (k + (n : Int))) ∧ Below w.heap.size w w' :=
  (heldInts A n c k w h hn hk0 (by omega)).mono fun _ _ ⟨hw, he⟩ => ⟨he, by rw [← hw]; exact Below.refl _ _⟩

/-! ### Sig -/
def CopySigK (w : World) (n : Nat) (xs : List Int) (e : Ending) (w' : World) : Prop := ∃ g, e = .returned (.agg #[.slice (some ⟨g, 0, none⟩) n n]) ∧ Ownd w' w.heap.size w'.heap.size (some ⟨g, 0, none⟩) n n xs ∧ w.heap.size < w'.heap.size ∧ Below w.heap.size w w'
theorem sigTo (A : Option Addr) (n c : Nat) (xs : List Int) (w : World) (h : Seg w w.heap.size A n xs) (hn : n ≤ 1048576) :
    Calls Tryz.prog 70 #[.agg #[.slice A n c]] w (CopySigK w n xs) :=
  (toSig A n c xs w h hn).mono fun _ _ ⟨g, cs, he, hg, hr, hs, hc, hb⟩ => ⟨g, he, Ownd.of_own (Own.of_row hr h.1 hs (Nat.le_refl _) (by omega) hg hc), Nat.lt_of_le_of_lt hg hr.lt, hb⟩
theorem sigEq (A A' : Option Addr) (n n' c c' : Nat) (xs : List Int) (w : World) (h : Seg w w.heap.size A n xs) (h' : Seg w w.heap.size A' n' xs) (hn : n ≤ 1048576) :
    Calls Tryz.prog 77 #[.agg #[.slice A n c], .agg #[.slice A' n' c']] w fun e w' => e = .returned (.bool true) ∧ Below w.heap.size w w' := by
  obtain rfl : n = n' := by rw [← h.1, ← h'.1]
  exact eqSigYes A A' n c c' xs w h h' hn

set_option maxHeartbeats 1000000 in
theorem sigMark (lo hi : Nat) (A : Option Addr) (n c : Nat) (xs : List Int) (k : Int) (w : World) (h : Ownd w lo hi A n c xs) (hn : n ≤ 1048576) (hk0 : 0 ≤ k) (hk : k ≤ 8388608) :
    Calls Tryz.prog 80 #[.agg #[.slice A n c], .int .i64 k] w (AnsMarkI w lo hi A n c k) := by
  have b : Below w.heap.size w (w.alloc (.cells #[.slice A n c] 26)) := (Below.refl _ _).alloc (Nat.le_refl _) _
  have L := Lib.hid (intsMark lo hi A n c xs k _ (h.next b) hn hk0 hk)
  clear h
  go_enter Tryz.func80, Tryz.ntmps80
  go_wp2_with fail
  refine L.out.mono ?_
  rintro e w' ⟨rfl, ho, hb⟩
  have F : AnsMarkI w lo hi A n c k (.returned (.int .i64 (k + (n : Int)))) w' := ⟨rfl, ho, (Btw.of_below b).trans hb⟩
  have HF := Lib.hid F
  clear F ho hb b L
  go_wp2
  go_ret
  exact HF.out

/-! ### Subst -/
theorem substSz (A : Option Addr) (n c : Nat) (xss : List (List Int)) (left : Int) (w : World) (h : Segs w w.heap.size A n xss) (hn : n ≤ 9223372036854775807) (h0 : 0 ≤ left) (h1 : left ≤ 1048576) :
    Calls Tryz.prog 21 #[.agg #[.slice A n c], .int .i64 left] w fun e w' => e = .returned (.int .i64 (if left - tot xss < 0 then -1 else left - tot xss)) ∧ Below w.heap.size w w' := by
  have hb : Below w.heap.size w (w.alloc (.cells #[.slice A n c] 56)) := (Below.refl _ _).alloc (Nat.le_refl _) _
  have L := Lib.hid (szSS A n c xss left _ (h.next hb) hn h0 h1)
  clear h
  obtain ⟨z, hz⟩ : ∃ z, tot xss = z := ⟨_, rfl⟩
  rw [hz] at L ⊢
  clear hz
  by_cases h : left - z < 0
  · rw [if_pos h]
    go_enter Tryz.func21, Tryz.ntmps21
    go_wp2_with fail
    refine L.out.mono ?_
    rintro e w' ⟨rfl, he⟩
    rw [if_pos h] at he
    subst he
    clear L
    go_wp2
    go_ret
    exact ⟨rfl, hb⟩
  · rw [if_neg h]
    go_enter Tryz.func21, Tryz.ntmps21
    go_wp2_with fail
    refine L.out.mono ?_
    rintro e w' ⟨rfl, he⟩
    rw [if_neg (by omega)] at he
    subst he
    clear L
    go_wp2
    go_ret
    exact ⟨rfl, hb⟩

def CopySubst (w : World) (n : Nat) (xss : List (List Int)) (e : Ending) (w' : World) : Prop := ∃ g, e = .returned (.agg #[.slice (some ⟨g, 0, none⟩) n n]) ∧ Owns w' w.heap.size w'.heap.size (some ⟨g, 0, none⟩) n n xss ∧ w.heap.size < w'.heap.size ∧ Below w.heap.size w w'
theorem owns_put {w : World} {lo hi n c b : Nat} {A : Option Addr} {xss : List (List Int)} {t : TypeId} {cs : Array Value} (h : Owns w lo hi A n c xss) (hr : Row w b t cs) (hb : b < lo) (i : Nat) (u : Value) : Owns (w.setCell ⟨b, i, none⟩ u) lo hi A n c xss :=
  h.btw (lo' := b) (hi' := b + 1) (Btw.of_grown (grown_put (World.grownBy.refl _ _) _ _) (fun k hk => by injection hk; omega)) (.inr (by omega))

set_option maxHeartbeats 1000000 in
theorem substTo (A : Option Addr) (n c : Nat) (xss : List (List Int)) (w : World) (h : Segs w w.heap.size A n xss) (ht : tot xss ≤ 1048576) :
    Calls Tryz.prog 24 #[.agg #[.slice A n c]] w (CopySubst w n xss) := by
  obtain ⟨W, hW⟩ : ∃ W, W = ((w.alloc (.cells #[.slice A n c] 56)).alloc (.cells #[.slice none 0 0] 43)).alloc (.cells #[.slice none 0 0] 43) := ⟨_, rfl⟩
  have hz : W.heap.size = w.heap.size + 1 + 1 + 1 := by rw [hW]; simp
  have r1 : Row W (w.heap.size + 1) 43 #[.slice none 0 0] := by
    rw [hW]; have := (Row.new (w.alloc (.cells #[.slice A n c] 56)) 43 #[.slice none 0 0]).alloc (.cells #[.slice none 0 0] 43); simpa using this
  have r2 : Row W (w.heap.size + 1 + 1) 43 #[.slice none 0 0] := by
    rw [hW]; have := Row.new ((w.alloc (.cells #[.slice A n c] 56)).alloc (.cells #[.slice none 0 0] 43)) 43 #[.slice none 0 0]; simpa using this
  have b : Below w.heap.size w W := by rw [hW]; exact (((Below.refl _ _).alloc (Nat.le_refl _) _).alloc (by simp) _).alloc (by simp; omega) _
  have L := Lib.hid (toSS A n c xss W (h.next b) (tot_len h.1 ht) (tot_each ht))
  have HW := Lib.hid hW
  clear hW h
  go_enter Tryz.func24, Tryz.ntmps24
  go_wp2_with fail
  rw [← HW.out]
  refine L.out.mono ?_
  rintro e w' ⟨g, rfl, ho, hlt, hb⟩
  replace r1 := r1.next hb
  replace r2 := r2.next hb
  have c1 : w'.cell? ⟨w.heap.size + 1, 0, none⟩ = some (.slice none 0 0) := r1.cell 0
  have c2 : w'.cell? ⟨w.heap.size + 1 + 1, 0, none⟩ = some (.slice none 0 0) := r2.cell 0
  have f1 : w'.frozen? ⟨w.heap.size + 1, 0, none⟩ = false := r1.free 0
  have f2 : w'.frozen? ⟨w.heap.size + 1 + 1, 0, none⟩ = false := r2.free 0
  have B : Below w.heap.size w w' := b.trans (hb.mono (by omega))
  have S : CopySubst w n xss (.returned (.agg #[.slice (some ⟨g, 0, none⟩) n n]))
      ((w'.setCell ⟨w.heap.size + 1 + 1, 0, none⟩ (.slice (some ⟨g, 0, none⟩) n n)).setCell ⟨w.heap.size + 1, 0, none⟩ (.slice (some ⟨g, 0, none⟩) n n)) := by
    have o1 := owns_put ho r2 (by omega) 0 (.slice (some ⟨g, 0, none⟩) n n)
    have r1' := r1.far (p := ⟨w.heap.size + 1 + 1, 0, none⟩) (by simp) (.slice (some ⟨g, 0, none⟩) n n)
    have o2 := owns_put o1 r1' (by omega) 0 (.slice (some ⟨g, 0, none⟩) n n)
    refine ⟨g, rfl, o2.wider (by omega) (by simp), by simp; omega, (B.setCell (by simp; omega) _).setCell (by simp) _⟩
  have HS := Lib.hid S
  clear S ho hlt hb b B r1 r2 hz
  go_wp2
  exact bodyPost_ret (v := .agg #[.slice (some ⟨g, 0, none⟩) n n]) (by simp [results, Tryz.results24, go_sem, c1]) rfl HS.out

theorem substEq (A A' : Option Addr) (n n' c c' : Nat) (xss : List (List Int)) (w : World) (h : Segs w w.heap.size A n xss) (h' : Segs w w.heap.size A' n' xss) (ht : tot xss ≤ 1048576) :
    Calls Tryz.prog 27 #[.agg #[.slice A n c], .agg #[.slice A' n' c']] w fun e w' => e = .returned (.bool true) ∧ Below w.heap.size w w' := by
  obtain rfl : n = n' := by rw [← h.1, ← h'.1]
  obtain ⟨W, hW⟩ : ∃ W, W = (w.alloc (.cells #[.slice A n c] 43)).alloc (.cells #[.slice A' n c'] 43) := ⟨_, rfl⟩
  have b : Below w.heap.size w W := by rw [hW]; exact ((Below.refl _ _).alloc (Nat.le_refl _) _).alloc (by simp) _
  have L := Lib.hid (eqSSYes A A' n c c' xss W (h.next b) (h'.next b) (tot_len h.1 ht) (tot_each ht))
  have HW := Lib.hid hW
  clear hW h h' ht
  go_enter Tryz.func27, Tryz.ntmps27
  go_wp2_with fail
  rw [← HW.out]
  refine L.out.mono ?_
  rintro e w' ⟨rfl, d, rfl⟩
  replace b := below_drewN b d
  go_wp2
  go_ret
  exact ⟨rfl, b⟩

set_option maxHeartbeats 1000000 in
theorem substMark (lo hi : Nat) (A : Option Addr) (n c : Nat) (xss : List (List Int)) (k : Int) (w : World) (h : Owns w lo hi A n c xss) (hhi : hi ≤ w.heap.size) (ht : tot xss ≤ 1048576) (hk0 : 0 ≤ k) (hk : k ≤ 8388608) :
    Calls Tryz.prog 30 #[.agg #[.slice A n c], .int .i64 k] w (AnsMarkS w lo hi A n c xss k) := by
  have b : Below w.heap.size w (w.alloc (.cells #[.slice A n c] 43)) := (Below.refl _ _).alloc (Nat.le_refl _) _
  have L := Lib.hid (markSS lo hi A n c xss k _ (h.next b) ht hk0 hk)
  clear h ht
  go_enter Tryz.func30, Tryz.ntmps30
  go_wp2_with fail
  refine L.out.mono ?_
  rintro e w' ⟨rfl, ho, hb⟩
  have F : AnsMarkS w lo hi A n c xss k (.returned (.int .i64 (k + sumL xss n))) w' := ⟨rfl, ho, (Btw.of_below b).trans hb⟩
  have HF := Lib.hid F
  clear F ho hb b L
  generalize sumL xss n = z at *
  go_wp2
  go_ret
  exact HF.out

end Go.Proofs.YtmaamlnooepogaaGreat.kinds
end

section
/-
  CONTRACTS of the look-ups: impl.varTerm, (lookup).fill over whatever look-up ('Looks'), lookupIn and what it returns. Conditions: at most 60 numbers, replacements of at most 4096. By an AI agent.
-/
namespace Go.Proofs.YtmaamlnooepogaaGreat.look
open Go.RowKit Go.Proofs.YtmaamlnooepogaaGreat.base Go.Proofs.YtmaamlnooepogaaGreat.ints Go.Proofs.YtmaamlnooepogaaGreat.marks Go.Proofs.YtmaamlnooepogaaGreat.app Go.Proofs.YtmaamlnooepogaaGreat.sym Go.Proofs.YtmaamlnooepogaaGreat.segs Go.Proofs.YtmaamlnooepogaaGreat.fillMath
set_option maxRecDepth 100000

theorem varTerm (i : Int) (w : World) (h0 : 0 ≤ i) (h1 : i ≤ 1000) :
    Calls Tryz.prog 112 #[.int .i64 i] w (AnsList w [-1 - i]) := by
  have F : AnsList w [-1 - i] (.returned (.slice (some ⟨w.heap.size, 0, none⟩) 1 1)) (w.alloc (.cells #[.int .i64 (-1 - i)] 2)) :=
    ⟨_, 1, 1, rfl, Own.of_row (Row.new _ _ _) rfl rfl (Nat.le_refl _) (by omega) (Nat.le_refl _) (fun j hj => by
      have e : j = 0 := by omega
      subst e
      rfl), (Below.refl _ _).alloc (Nat.le_refl _) _⟩
  have HF := Lib.hid F
  clear F
  go_enter Tryz.func112, Tryz.ntmps112
  go_wp2
  go_ret
  exact HF.out

/-- an answer that may be read: it lies below B, or it is new -/
def AnsLook (B : Nat) (w : World) (ys : List Int) (e : Ending) (w' : World) : Prop := ∃ A n c, e = .returned (.slice A n c) ∧ Seg w' w'.heap.size A n ys ∧ Cap A n c ∧ (∀ k, blk A = some k → k < B ∨ w.heap.size ≤ k) ∧ Below w.heap.size w w'
/-- function g with what it has captured looks up L, at variables below N, as long as what lies in w lies -/
def Looks (g : Nat) (lb : Array Value) (w : World) (L : Nat → List Int) (N : Nat) : Prop :=
  ∀ (W : World) (i : Nat), Below w.heap.size w W → i < N → Calls Tryz.prog g (#[.int .i64 (i : Int)] ++ lb) W (AnsLook w.heap.size W (L i))
theorem Looks.next {g : Nat} {lb : Array Value} {w w' : World} {L : Nat → List Int} {N : Nat} (h : Looks g lb w L N) (hb : Below w.heap.size w w') : Looks g lb w' L N :=
  fun W i hW hi => (h W i (next_trans hb hW) hi).mono fun _ _ ⟨A, n, c, he, h1, h2, h3, h4⟩ => ⟨A, n, c, he, h1, h2, fun k hk => by have := h3 k hk; have := hb.size; omega, h4⟩
theorem own_cap {w : World} {base : Nat} {A : Option Addr} {n c : Nat} {xs : List Int} (h : Own w base (.slice A n c) xs) : Cap A n c := by
  have hl := Own.len h
  rcases own_form (n := n) (vs := xs.map (Value.int .i64)) (by rw [hl]; rw [hl] at h; exact h) with ⟨rfl, h1, rfl, _⟩ | ⟨g, cur, rfl, _, _, h1, h2, h3, _⟩
  · exact ⟨by omega, by omega, fun _ => rfl⟩
  · exact ⟨h1, h3, fun e => by cases e⟩
theorem look_new {w w' : World} {B : Nat} {ys : List Int} {A : Option Addr} {n c : Nat} (ho : Own w' w.heap.size (.slice A n c) ys) (hb : Below w.heap.size w w') : AnsLook B w ys (.returned (.slice A n c)) w' :=
  ⟨A, n, c, rfl, Own.seg ho, own_cap ho, fun k hk => .inr (World.ownsRow.lt ho k (by cases A with | none => cases hk | some a => exact hk)).1, hb⟩

/-- the head of fill's loop -/
def HeadFill (w : World) (m : Nat) (t : List Int) (L : Nat → List Int) (out i : Value) (wr : World) : Prop :=
  ∃ (k : Nat) (O : Option Addr) (on oc : Nat), k ≤ m ∧ i = .int .i64 k ∧ out = .slice O on oc ∧ Own wr w.heap.size (.slice O on oc) (fillL L (t.take k)) ∧ Below w.heap.size w wr
theorem fill_bound {L : Nat → List Int} {t : List Int} {m k : Nat} (hM : ∀ i, (L i).length ≤ 4096) (hm : t.length = m) (h60 : m ≤ 60) : (fillL L (t.take k)).length ≤ 245760 := by
  have h := fill_len (M := 4096) (by omega) hM (t.take k)
  have h2 : (t.take k).length ≤ 60 := by simp; omega
  have h3 : (t.take k).length * 4096 ≤ 60 * 4096 := Nat.mul_le_mul_right _ h2
  omega

set_option maxHeartbeats 2000000 in
theorem fill (g : Nat) (lb : Array Value) (eg : ∀ args w, (callFunc g args).run Tryz.prog w = .ok (.enter g args) w) (A : Option Addr) (m c : Nat) (t : List Int) (L : Nat → List Int) (w : World)
    (hL : Looks g lb w L 24) (h : Seg w w.heap.size A m t) (hm : m ≤ 60) (hv : ∀ x ∈ t, -24 ≤ x) (hM : ∀ i, (L i).length ≤ 4096) :
    Calls Tryz.prog 59 #[.func (.func g) #[] lb, .slice A m c] w (AnsList w (fillL L t)) := by
  have HL := Lib.hid h.1
  have HV := Lib.hid hv
  have HM := Lib.hid hM
  have HK := Lib.hid hL
  have S0 : HeadFill w m t L (.slice none 0 0) (.int .i64 0) w := ⟨0, _, _, _, Nat.zero_le _, rfl, rfl, by simpa [fillL] using Own.nil w w.heap.size, Below.refl _ _⟩
  have HS0 := Lib.hid S0
  clear S0 hv hM hL
  go_enter Tryz.func59, Tryz.ntmps59
  go_wp2
  go_loopw [5, 10] (fun out i wr => HeadFill w m t L out i wr) (fun _ i _ => m - (intOf i).toNat)
  case atStart => exact HS0.out
  case round =>
    obtain ⟨k, O, on, oc, hk, rfl, rfl, ho, hb⟩ := hrel
    clear HS0
    have hon : on ≤ 245760 := by rw [Own.len ho]; exact fill_bound HM.out HL.out hm
    by_cases hlt : k < m
    · obtain ⟨b, off, x, rfl, hbb, hx, ex⟩ := h.spot hlt
      have hx1 : wr.cell? ⟨b, off + k, none⟩ = some (.int .i64 x) := (hb.cell (p := ⟨b, off + k, none⟩) hbb).trans hx
      have hmem : x ∈ t := by
        have hkl : k < t.length := by rw [HL.out]; exact hlt
        have := ex.out
        rw [← this]
        simp [List.getD, hkl]
      have hx24 : -24 ≤ x := HV.out x hmem
      have E := Lib.hid (fill_take (L := L) (t := t) (k := k) (by rw [HL.out]; exact hlt) ex.out)
      have hsz := hb.size
      clear hmem hx h ex
      by_cases hpos : 0 ≤ x
      · have R := Lib.hid (rep_sym (L := L) hpos)
        go_wp2_with (at_builtin; refine app1 rfl _ _ rfl w.heap.size O on oc (fillL L (t.take k)) rfl (Own.alloc ho _) wr.heap.size 1 x rfl ((Row.new _ _ _).cell 0) (by omega) (by simp; omega) ?_; intro O' oc' w2 ho2 b2)
        have S : HeadFill w m t L (.slice O' (on + 1) oc') (.int .i64 ((k : Int) + 1)) w2 := ⟨k + 1, O', on + 1, oc', hlt, by simp, rfl, by rw [E.out, R.out]; exact ho2, (hb.alloc hsz _).trans b2⟩
        replace S := Lib.hid S
        clear ho2 b2 ho hb R E
        go_wp2
        go_roundw
        case rel => exact S.out
        case measure => simp [intOf]; omega
      · have hneg : x < 0 := by omega
        have R := Lib.hid (rep_var (L := L) hneg)
        have hcall := HK.out wr (-1 - x).toNat hb (by omega)
        rw [show (((-1 - x).toNat : Nat) : Int) = -1 - x by omega] at hcall
        have hLM : (L (-1 - x).toNat).length ≤ 4096 := HM.out _
        generalize hys : L (-1 - x).toNat = ys at hcall R hLM
        replace hcall := Lib.hid hcall
        clear hys
        go_wp2_with (first
          | (go_at_fn g; refine hcall.out.mono ?_; rintro e w1 ⟨A', n', c', rfl, s', cap', -, bb⟩; have hn' : n' ≤ 4096 := (by rw [← s'.1]; exact hLM); have ho1 := ho.next bb; have hb1 := hb.trans (bb.mono hb.size))
          | (at_builtin; refine appAll rfl _ _ rfl w.heap.size O on oc (fillL L (t.take k)) rfl ho1 A' n' c' w1.heap.size ys rfl s' cap'.2.2 (by omega) (by omega) hb1.size ?_; intro O' oc' w2 ho2 b2))
        have S : HeadFill w m t L (.slice O' (on + n') oc') (.int .i64 ((k : Int) + 1)) w2 := ⟨k + 1, O', on + n', oc', hlt, by simp, rfl, by rw [E.out, R.out]; exact ho2, hb1.trans b2⟩
        replace S := Lib.hid S
        clear ho2 b2 ho hb R E ho1 hb1 s' cap' bb hcall
        go_wp2
        go_roundw
        case rel => exact S.out
        case measure => simp [intOf]; omega
    · have F : AnsList w (fillL L t) (.returned (.slice O on oc)) wr := by
        rw [List.take_of_length_le (by rw [HL.out]; omega)] at ho
        exact ⟨O, on, oc, rfl, ho, hb⟩
      have HF := Lib.hid F
      clear F ho hb h
      go_wp2
      go_ret
      exact HF.out
end Go.Proofs.YtmaamlnooepogaaGreat.look
end

section
/-
  CONTRACTS: spec.SubstOk, impl.SubstOk, spec.l2Gives, impl.lookupIn and what it returns. Conditions: the slices read as lists ('Seg', 'Segs'), at most 1048576 values. By an AI agent.
-/
namespace Go.Proofs.YtmaamlnooepogaaGreat.substOk
open Go.RowKit Go.Proofs.YtmaamlnooepogaaGreat.base Go.Proofs.YtmaamlnooepogaaGreat.ints Go.Proofs.YtmaamlnooepogaaGreat.sig Go.Proofs.YtmaamlnooepogaaGreat.term Go.Proofs.YtmaamlnooepogaaGreat.termOk Go.Proofs.YtmaamlnooepogaaGreat.marks Go.Proofs.YtmaamlnooepogaaGreat.app Go.Proofs.YtmaamlnooepogaaGreat.sym Go.Proofs.YtmaamlnooepogaaGreat.sub Go.Proofs.YtmaamlnooepogaaGreat.segs Go.Proofs.YtmaamlnooepogaaGreat.segsHelp Go.Proofs.YtmaamlnooepogaaGreat.termFacts Go.Proofs.YtmaamlnooepogaaGreat.varsMath Go.Proofs.YtmaamlnooepogaaGreat.varsOf Go.Proofs.YtmaamlnooepogaaGreat.fillMath Go.Proofs.YtmaamlnooepogaaGreat.look
set_option maxRecDepth 100000

/-- nothing, or a term -/
def goodB (sg t : List Int) : Bool := decide (t.length = 0) || termOkB sg t
/-- a valid substitution -/
def substOkB (sg : List Int) (ss : List (List Int)) : Bool := sigOkB sg && (decide (ss.length ≤ 24) && ss.all (goodB sg))
theorem substOk_parts {sg : List Int} {ss : List (List Int)} (h : substOkB sg ss = true) : sigOkB sg = true ∧ ss.length ≤ 24 ∧ ∀ j, j < ss.length → goodB sg (ss.getD j []) = true := by
  unfold substOkB at h
  simp only [Bool.and_eq_true, decide_eq_true_eq, List.all_eq_true] at h
  refine ⟨h.1, h.2.1, fun j hj => ?_⟩
  have := h.2.2 (ss[j]) (List.getElem_mem hj)
  simpa [List.getD, hj] using this
theorem subst_sig {sg : List Int} {ss : List (List Int)} (h : sigOkB sg = false) : substOkB sg ss = false := by unfold substOkB; rw [h, Bool.false_and]
theorem subst_long {sg : List Int} {ss : List (List Int)} (h : ¬ ss.length ≤ 24) : substOkB sg ss = false := by unfold substOkB; rw [decide_eq_false h, Bool.false_and, Bool.and_false]
theorem subst_bad {sg : List Int} {ss : List (List Int)} {k : Nat} (hk : k < ss.length) (h : goodB sg (ss.getD k []) = false) : substOkB sg ss = false := by
  have : ss.all (goodB sg) = false := by
    rw [List.all_eq_false]
    refine ⟨ss[k], List.getElem_mem hk, ?_⟩
    have e : ss.getD k [] = ss[k] := by simp [List.getD, hk]
    rw [e] at h
    simp [h]
  unfold substOkB
  rw [this, Bool.and_false, Bool.and_false]
theorem subst_good {sg : List Int} {ss : List (List Int)} (h : sigOkB sg = true) (hl : ss.length ≤ 24) (hg : ∀ j, j < ss.length → goodB sg (ss.getD j []) = true) : substOkB sg ss = true := by
  have : ss.all (goodB sg) = true := by
    rw [List.all_eq_true]
    intro x hx
    obtain ⟨j, hj, rfl⟩ := List.getElem_of_mem hx
    have := hg j hj
    simpa [List.getD, hj] using this
  unfold substOkB
  rw [this, h, decide_eq_true hl]
  rfl

/-- the first k elements are good -/
def HeadSO (w : World) (A : Option Addr) (n c : Nat) (S : Option Addr) (m c' : Nat) (sg : List Int) (ss : List (List Int)) (i : Value) (wr : World) : Prop :=
  ∃ k : Nat, k ≤ m ∧ i = .int .i64 k ∧ (∀ j, j < k → goodB sg (ss.getD j []) = true) ∧ Row wr w.heap.size 26 #[.slice A n c] ∧ Row wr (w.heap.size + 1) 43 #[.slice S m c'] ∧ Below w.heap.size w wr
theorem headSO_step {w wr : World} {A : Option Addr} {n c : Nat} {S : Option Addr} {m c' : Nat} {sg : List Int} {ss : List (List Int)} {k : Nat} (hk : k < m) (hlow : ∀ j, j < k → goodB sg (ss.getD j []) = true) (hg : goodB sg (ss.getD k []) = true)
    (r1 : Row wr w.heap.size 26 #[.slice A n c]) (r2 : Row wr (w.heap.size + 1) 43 #[.slice S m c']) (hb : Below w.heap.size w wr) : HeadSO w A n c S m c' sg ss (.int .i64 ((k : Int) + 1)) wr :=
  ⟨k + 1, hk, by simp, fun j hj => by
    by_cases e : j = k
    · subst e; exact hg
    · exact hlow j (by omega), r1, r2, hb⟩

/-- the two boxes of the parameters -/
theorem boxes2 (w : World) (A : Option Addr) (n c : Nat) (S : Option Addr) (m c' : Nat) : ∃ W, W = (w.alloc (.cells #[.slice A n c] 26)).alloc (.cells #[.slice S m c'] 43) ∧
    Row W w.heap.size 26 #[.slice A n c] ∧ Row W (w.heap.size + 1) 43 #[.slice S m c'] ∧ Below w.heap.size w W := by
  refine ⟨_, rfl, ?_, ?_, ?_⟩
  · have := (Row.new w 26 #[.slice A n c]).alloc (.cells #[.slice S m c'] 43)
    simpa using this
  · have := Row.new (w.alloc (.cells #[.slice A n c] 26)) 43 #[.slice S m c']
    simpa using this
  · exact ((Below.refl _ _).alloc (Nat.le_refl _) _).alloc (by simp) _

set_option maxHeartbeats 4000000 in
theorem specSubstOk (A S : Option Addr) (n c m c' : Nat) (sg : List Int) (ss : List (List Int)) (w : World) (h : Seg w w.heap.size A n sg) (h' : Segs w w.heap.size S m ss) (hn : n ≤ 1048576) (ht : tot ss ≤ 1048576) :
    Calls Tryz.prog 60 #[.agg #[.slice A n c], .agg #[.slice S m c']] w (AnsB w (substOkB sg ss)) := by
  obtain ⟨W, hW, rA, rS, bel⟩ := boxes2 w A n c S m c'
  have HW := Lib.hid hW
  have HL := Lib.hid h'.1
  have hm : m ≤ 1048576 := tot_len h'.1 ht
  have HT := Lib.hid (tot_each ht)
  have L := Lib.hid (specSigOk A n c sg W (h.next bel) hn)
  have cS : W.cell? ⟨w.heap.size + 1, 0, none⟩ = some (.slice S m c') := rS.cell 0
  clear hW ht
  cases hsig : sigOkB sg with
  | false =>
    have HS := Lib.hid hsig
    clear hsig h h'
    go_enter Tryz.func60, Tryz.ntmps60
    go_wp2_with fail
    rw [← HW.out]
    refine L.out.mono ?_
    rintro e w1 ⟨he, bb⟩
    rw [HS.out] at he
    subst he
    have F := Lib.hid (ansB (b := substOkB sg ss) (a := false) (by rw [subst_sig HS.out]) (next_trans bel bb))
    clear bb bel rA rS cS
    go_wp2
    go_ret
    exact F.out
  | true =>
    have HS := Lib.hid hsig
    clear hsig
    by_cases h24 : m ≤ 24
    · go_enter Tryz.func60, Tryz.ntmps60
      go_wp2_with fail
      rw [← HW.out]
      refine L.out.mono ?_
      rintro e w1 ⟨he, bb⟩
      rw [HS.out] at he
      subst he
      have H0 : HeadSO w A n c S m c' sg ss (.int .i64 0) w1 := ⟨0, Nat.zero_le _, rfl, fun j hj => absurd hj (Nat.not_lt_zero _), rA.next bb, rS.next bb, next_trans bel bb⟩
      have HH := Lib.hid H0
      have cS1 : w1.cell? ⟨w.heap.size + 1, 0, none⟩ = some (.slice S m c') := (rS.next bb).cell 0
      clear H0 bb bel rA rS cS L
      go_wp2_with fail
      go_loopw [5] (fun i wr => HeadSO w A n c S m c' sg ss i wr) (fun i _ => m - (intOf i).toNat)
      case atStart => exact HH.out
      case round =>
        obtain ⟨k, hk, rfl, hlow, r1, r2, hb⟩ := hrel
        have HLOW := Lib.hid hlow
        clear hlow HH cS1
        have cS : wr.cell? ⟨w.heap.size + 1, 0, none⟩ = some (.slice S m c') := r2.cell 0
        have cA : wr.cell? ⟨w.heap.size, 0, none⟩ = some (.slice A n c) := r1.cell 0
        by_cases hlt : k < m
        · obtain ⟨b, off, A', n', cc, rfl, hbB, hx, hseg, hcap⟩ := h'.spot hlt
          have hx1 : wr.cell? ⟨b, off + k, none⟩ = some (.slice A' n' cc) := (hb.cell (p := ⟨b, off + k, none⟩) hbB).trans hx
          have hn' : n' ≤ 1048576 := by rw [← hseg.1]; exact HT.out k
          have HG := Lib.hid hseg.1
          have i0 : (0 : Int) ≤ (k : Int) := by omega
          have i1 : (k : Int) < (m : Int) := by omega
          have hbr : b < wr.heap.size := Nat.lt_of_lt_of_le hbB hb.size
          have r1d := r1.drew
          have r2d := r2.drew
          have hbd := hb.drew
          by_cases hz : n' = 0
          · subst hz
            have S1 : ∀ d : Nat, HeadSO w A n c (some ⟨b, off, none⟩) m c' sg ss (.int .i64 ((k : Int) + 1)) (wr.drewN d) := fun d => headSO_step hlt HLOW.out (by unfold goodB; rw [HG.out]; rfl) (r1.drewN d) (r2.drewN d) (below_drewN hb d)
            have HS1 := Lib.hid S1
            clear S1 r1 r2 hb hx hseg hcap r1d r2d hbd h h'
            go_wp2_with fail
            go_quiet (fail)
            go_wp2
            go_roundw
            case rel => exact HS1.out _
            case measure => simp [intOf]; omega
          · have hpos : 0 < n' := by omega
            have i2 : (0 : Int) < (n' : Int) := by omega
            have LT := Lib.hid (specTermOk A A' n c n' cc sg (ss.getD k []) wr.drew ((h.next hb).drew) (((hseg.below hb).more hb.size).drew) hn hn')
            have hne1 := World.new_ne wr _ cS
            cases hok : termOkB sg (ss.getD k []) with
            | false =>
              have HO := Lib.hid hok
              clear hok hx hseg hcap h h' r1 r2 hb
              go_wp2_with fail
              go_region_held3 (fun w' => w'.cell? ⟨w.heap.size + 1, 0, none⟩ = some (.slice (some ⟨b, off, none⟩) m c') ∧ w'.cell? ⟨w.heap.size, 0, none⟩ = some (.slice A n c) ∧ w'.cell? ⟨b, off + k, none⟩ = some (.slice A' n' cc))
                (go_keep)
                (first
                  | (go_at_call 104; refine LT.out.mono ?_; rintro e w2 ⟨he, bb⟩; rw [HO.out] at he; subst he; have cA2 : w2.cell? ⟨w.heap.size, 0, none⟩ = some (.slice A n c) := (r1d.next bb).cell 0; have cS2 : w2.cell? ⟨w.heap.size + 1, 0, none⟩ = some (.slice (some ⟨b, off, none⟩) m c') := (r2d.next bb).cell 0; have cX2 : w2.cell? ⟨b, off + k, none⟩ = some (.slice A' n' cc) := (bb.cell (p := ⟨b, off + k, none⟩) hbr).trans hx1; have F := Lib.hid (ansB (b := substOkB sg ss) (a := false) (by rw [subst_bad (k := k) (by rw [HL.out]; exact hlt) (by unfold goodB; rw [HO.out, HG.out]; simp; omega)]) (next_trans hbd bb))))
              clear r1d r2d hbd LT cA2 cS2 cX2 hx1 cA cS
              go_wp2
              go_ret
              exact F.out
            | true =>
              have HO := Lib.hid hok
              clear hok hx hseg hcap h h' r1 r2 hb
              go_wp2_with fail
              go_region_held3 (fun w' => w'.cell? ⟨w.heap.size + 1, 0, none⟩ = some (.slice (some ⟨b, off, none⟩) m c') ∧ w'.cell? ⟨w.heap.size, 0, none⟩ = some (.slice A n c) ∧ w'.cell? ⟨b, off + k, none⟩ = some (.slice A' n' cc))
                (go_keep)
                (first
                  | (go_at_call 104; refine LT.out.mono ?_; rintro e w2 ⟨he, bb⟩; rw [HO.out] at he; subst he; have cA2 : w2.cell? ⟨w.heap.size, 0, none⟩ = some (.slice A n c) := (r1d.next bb).cell 0; have cS2 : w2.cell? ⟨w.heap.size + 1, 0, none⟩ = some (.slice (some ⟨b, off, none⟩) m c') := (r2d.next bb).cell 0; have cX2 : w2.cell? ⟨b, off + k, none⟩ = some (.slice A' n' cc) := (bb.cell (p := ⟨b, off + k, none⟩) hbr).trans hx1; have F := Lib.hid (headSO_step (sg := sg) (ss := ss) hlt HLOW.out (by unfold goodB; rw [HO.out, Bool.or_true]) (r1d.next bb) (r2d.next bb) (next_trans hbd bb))))
              clear r1d r2d hbd LT cA2 cS2 cX2 hx1 cA cS
              go_wp2
              go_roundw
              case rel => exact F.out
              case measure => simp [intOf]; omega
        · have F := Lib.hid (ansB (b := substOkB sg ss) (a := true) (by rw [subst_good HS.out (by rw [HL.out]; exact h24) (fun j hj => HLOW.out j (by rw [HL.out] at hj; omega))]) hb)
          clear r1 r2 hb h h'
          go_wp2
          go_ret
          exact F.out
    · have i1 : (24 : Int) < (m : Int) := by omega
      go_enter Tryz.func60, Tryz.ntmps60
      go_wp2_with fail
      rw [← HW.out]
      refine L.out.mono ?_
      rintro e w1 ⟨he, bb⟩
      rw [HS.out] at he
      subst he
      have cS1 : w1.cell? ⟨w.heap.size + 1, 0, none⟩ = some (.slice S m c') := (rS.next bb).cell 0
      have F := Lib.hid (ansB (b := substOkB sg ss) (a := false) (by rw [subst_long (by rw [HL.out]; exact h24)]) (next_trans bel bb))
      clear bb bel rA rS cS h h' L
      go_wp2
      go_ret
      exact F.out
end Go.Proofs.YtmaamlnooepogaaGreat.substOk
end

section
/-
  CONTRACTS: impl.SubstOk, spec.l2Gives, impl.lookupIn and what it returns, impl.tooLong. Conditions: the slices read as lists ('Seg', 'Segs'), at most 1048576 values. By an AI agent.
-/
namespace Go.Proofs.YtmaamlnooepogaaGreat.gives
open Go.RowKit Go.Proofs.YtmaamlnooepogaaGreat.base Go.Proofs.YtmaamlnooepogaaGreat.ints Go.Proofs.YtmaamlnooepogaaGreat.sig Go.Proofs.YtmaamlnooepogaaGreat.term Go.Proofs.YtmaamlnooepogaaGreat.termOk Go.Proofs.YtmaamlnooepogaaGreat.marks Go.Proofs.YtmaamlnooepogaaGreat.app Go.Proofs.YtmaamlnooepogaaGreat.sym Go.Proofs.YtmaamlnooepogaaGreat.sub Go.Proofs.YtmaamlnooepogaaGreat.segs Go.Proofs.YtmaamlnooepogaaGreat.segsHelp Go.Proofs.YtmaamlnooepogaaGreat.termFacts Go.Proofs.YtmaamlnooepogaaGreat.varsMath Go.Proofs.YtmaamlnooepogaaGreat.varsOf Go.Proofs.YtmaamlnooepogaaGreat.fillMath Go.Proofs.YtmaamlnooepogaaGreat.look Go.Proofs.YtmaamlnooepogaaGreat.substOk
set_option maxRecDepth 100000

set_option maxHeartbeats 4000000 in
theorem implSubstOk (A S : Option Addr) (n c m c' : Nat) (sg : List Int) (ss : List (List Int)) (w : World) (h : Seg w w.heap.size A n sg) (h' : Segs w w.heap.size S m ss) (hn : n ≤ 1048576) (ht : tot ss ≤ 1048576) :
    Calls Tryz.prog 110 #[.agg #[.slice A n c], .agg #[.slice S m c']] w (AnsB w (substOkB sg ss)) := by
  obtain ⟨W, hW, rA, rS, bel⟩ := boxes2 w A n c S m c'
  have HW := Lib.hid hW
  have HL := Lib.hid h'.1
  have hm : m ≤ 1048576 := tot_len h'.1 ht
  have HT := Lib.hid (tot_each ht)
  have L := Lib.hid (implSigOk A n c sg W (h.next bel) hn)
  have cS : W.cell? ⟨w.heap.size + 1, 0, none⟩ = some (.slice S m c') := rS.cell 0
  clear hW ht
  cases hsig : sigOkB sg with
  | false =>
    have HS := Lib.hid hsig
    clear hsig h h'
    go_enter Tryz.func110, Tryz.ntmps110
    go_wp2_with fail
    rw [← HW.out]
    refine L.out.mono ?_
    rintro e w1 ⟨he, bb⟩
    rw [HS.out] at he
    subst he
    have F := Lib.hid (ansB (b := substOkB sg ss) (a := false) (by rw [subst_sig HS.out]) (next_trans bel bb))
    clear bb bel rA rS cS
    go_wp2
    go_ret
    exact F.out
  | true =>
    have HS := Lib.hid hsig
    clear hsig
    by_cases h24 : m ≤ 24
    · go_enter Tryz.func110, Tryz.ntmps110
      go_wp2_with fail
      rw [← HW.out]
      refine L.out.mono ?_
      rintro e w1 ⟨he, bb⟩
      rw [HS.out] at he
      subst he
      have H0 : HeadSO w A n c S m c' sg ss (.int .i64 0) w1 := ⟨0, Nat.zero_le _, rfl, fun j hj => absurd hj (Nat.not_lt_zero _), rA.next bb, rS.next bb, next_trans bel bb⟩
      have HH := Lib.hid H0
      have cS1 : w1.cell? ⟨w.heap.size + 1, 0, none⟩ = some (.slice S m c') := (rS.next bb).cell 0
      clear H0 bb bel rA rS cS L
      go_wp2_with fail
      go_loopw [19] (fun i wr => HeadSO w A n c S m c' sg ss i wr) (fun i _ => m - (intOf i).toNat)
      case atStart => exact HH.out
      case round =>
        obtain ⟨k, hk, rfl, hlow, r1, r2, hb⟩ := hrel
        have HLOW := Lib.hid hlow
        clear hlow HH cS1
        have cA : wr.cell? ⟨w.heap.size, 0, none⟩ = some (.slice A n c) := r1.cell 0
        by_cases hlt : k < m
        · obtain ⟨b, off, A', n', cc, rfl, hbB, hx, hseg, hcap⟩ := h'.spot hlt
          have hx1 : wr.cell? ⟨b, off + k, none⟩ = some (.slice A' n' cc) := (hb.cell (p := ⟨b, off + k, none⟩) hbB).trans hx
          have hn' : n' ≤ 1048576 := by rw [← hseg.1]; exact HT.out k
          have HG := Lib.hid hseg.1
          by_cases hz : n' = 0
          · subst hz
            have S1 : HeadSO w A n c (some ⟨b, off, none⟩) m c' sg ss (.int .i64 ((k : Int) + 1)) wr := headSO_step hlt HLOW.out (by unfold goodB; rw [HG.out]; rfl) r1 r2 hb
            have HS1 := Lib.hid S1
            clear S1 r1 r2 hb hx hseg hcap h h'
            go_wp2
            go_roundw
            case rel => exact HS1.out
            case measure => simp [intOf]; omega
          · have hpos : 0 < n' := by omega
            have LT := Lib.hid (implTermOk A A' n c n' cc sg (ss.getD k []) wr (h.next hb) ((hseg.below hb).more hb.size) hn hn')
            cases hok : termOkB sg (ss.getD k []) with
            | false =>
              have HO := Lib.hid hok
              clear hok hx hseg hcap h h'
              go_wp2_with fail
              refine LT.out.mono ?_
              rintro e w2 ⟨he, bb⟩
              rw [HO.out] at he
              subst he
              have F := Lib.hid (ansB (b := substOkB sg ss) (a := false) (by rw [subst_bad (k := k) (by rw [HL.out]; exact hlt) (by unfold goodB; rw [HO.out, HG.out]; simp; omega)]) (next_trans hb bb))
              clear r1 r2 hb LT hx1 cA bb
              go_wp2
              go_ret
              exact F.out
            | true =>
              have HO := Lib.hid hok
              clear hok hx hseg hcap h h'
              go_wp2_with fail
              refine LT.out.mono ?_
              rintro e w2 ⟨he, bb⟩
              rw [HO.out] at he
              subst he
              have F := Lib.hid (headSO_step (sg := sg) (ss := ss) hlt HLOW.out (by unfold goodB; rw [HO.out, Bool.or_true]) (r1.next bb) (r2.next bb) (next_trans hb bb))
              clear r1 r2 hb LT hx1 cA bb
              go_wp2
              go_roundw
              case rel => exact F.out
              case measure => simp [intOf]; omega
        · have F := Lib.hid (ansB (b := substOkB sg ss) (a := true) (by rw [subst_good HS.out (by rw [HL.out]; exact h24) (fun j hj => HLOW.out j (by rw [HL.out] at hj; omega))]) hb)
          clear r1 r2 hb h h'
          go_wp2
          go_ret
          exact F.out
    · have i1 : (24 : Int) < (m : Int) := by omega
      go_enter Tryz.func110, Tryz.ntmps110
      go_wp2_with fail
      rw [← HW.out]
      refine L.out.mono ?_
      rintro e w1 ⟨he, bb⟩
      rw [HS.out] at he
      subst he
      have cS1 : w1.cell? ⟨w.heap.size + 1, 0, none⟩ = some (.slice S m c') := (rS.next bb).cell 0
      have F := Lib.hid (ansB (b := substOkB sg ss) (a := false) (by rw [subst_long (by rw [HL.out]; exact h24)]) (next_trans bel bb))
      clear bb bel rA rS cS h h' L
      go_wp2
      go_ret
      exact F.out

/-! ### what a substitution gives for a variable -/
def givesL (ss : List (List Int)) (i : Nat) : List Int := if (ss.getD i []).length = 0 then vt i else ss.getD i []
theorem gives_var {ss : List (List Int)} {i : Nat} (h : (ss.getD i []).length = 0) : givesL ss i = vt i := by unfold givesL; rw [if_pos h]
theorem gives_term {ss : List (List Int)} {i : Nat} (h : ¬ (ss.getD i []).length = 0) : givesL ss i = ss.getD i [] := by unfold givesL; rw [if_neg h]
theorem gives_out {ss : List (List Int)} {i : Nat} (h : ¬ i < ss.length) : givesL ss i = vt i := gives_var (by simp [List.getD, h])
theorem gives_ok {sg : List Int} {ss : List (List Int)} (h : substOkB sg ss = true) {i : Nat} (hi : i < 24) : termOkB sg (givesL ss i) = true := by
  obtain ⟨h1, h2, h3⟩ := substOk_parts h
  by_cases hl : i < ss.length
  · have h4 := h3 i hl
    by_cases hz : (ss.getD i []).length = 0
    · rw [gives_var hz]; exact var_term h1 hi
    · rw [gives_term hz]
      unfold goodB at h4
      rw [decide_eq_false hz, Bool.false_or] at h4
      exact h4
  · rw [gives_out hl]; exact var_term h1 hi
theorem gives_len {sg : List Int} {ss : List (List Int)} (h : substOkB sg ss = true) (i : Nat) : (givesL ss i).length ≤ 60 := by
  by_cases hi : i < ss.length
  · have h2 := (substOk_parts h).2.1
    exact (term_len (gives_ok h (show i < 24 by omega))).2
  · rw [gives_out hi]; simp [vt]
theorem gives_pos (ss : List (List Int)) (i : Nat) : 1 ≤ (givesL ss i).length := by
  unfold givesL
  split
  · simp [vt]
  · omega

set_option maxHeartbeats 2000000 in
theorem l2Gives (S : Option Addr) (m c : Nat) (ss : List (List Int)) (i : Nat) (w : World) (h : Segs w w.heap.size S m ss) (ht : tot ss ≤ 1048576) (hi : i ≤ 1048576) :
    Calls Tryz.prog 113 #[.agg #[.slice S m c], .int .i64 (i : Int)] w (AnsList w (givesL ss i)) := by
  have hm : m ≤ 1048576 := tot_len h.1 ht
  have HT := Lib.hid (tot_each ht)
  have HL := Lib.hid h.1
  clear ht
  have bel : Below w.heap.size w (w.alloc (.cells #[.slice S m c] 43)) := (Below.refl _ _).alloc (Nat.le_refl _) _
  have i0 : (0 : Int) ≤ (i : Int) := by omega
  have var : ∀ (hv : givesL ss i = vt i), AnsList w (givesL ss i) (.returned (.slice (some ⟨w.heap.size + 1, 0, none⟩) 1 1)) ((w.alloc (.cells #[.slice S m c] 43)).alloc (.cells #[.int .i64 (-1 - (i : Int))] 2)) := fun hv => by
    refine ⟨_, 1, 1, rfl, ?_, bel.alloc (by simp) _⟩
    rw [hv]
    have := Own.of_row (base := w.heap.size) (n := 1) (c := 1) (xs := vt i) (Row.new (w.alloc (.cells #[.slice S m c] 43)) 2 #[.int .i64 (-1 - (i : Int))]) rfl rfl (Nat.le_refl _) (by omega) (by simp) (fun j hj => by
      have e : j = 0 := by omega
      subst e
      rfl)
    simpa using this
  have VAR := Lib.hid var
  clear var
  by_cases hlt : i < m
  · obtain ⟨b, off, A', n', cc, rfl, hbB, hx, hseg, hcap⟩ := h.spot hlt
    have hx1 : (w.alloc (.cells #[.slice (some ⟨b, off, none⟩) m c] 43)).cell? ⟨b, off + i, none⟩ = some (.slice A' n' cc) := (bel.cell (p := ⟨b, off + i, none⟩) hbB).trans hx
    by_cases hz : n' = 0
    · subst hz
      have F := Lib.hid (VAR.out (gives_var hseg.1))
      clear h hseg hcap hx bel VAR
      go_enter Tryz.func113, Tryz.ntmps113
      go_wp2
      go_ret
      exact F.out
    · have hpos : 0 < n' := by omega
      have E := Lib.hid (gives_term (ss := ss) (i := i) (by rw [hseg.1]; exact hz))
      have L := Lib.hid (copyInts A' n' cc _ _ ((hseg.below bel).more bel.size) hcap.2.2 (by rw [← hseg.1]; exact HT.out i))
      clear h hseg hcap hx VAR
      go_enter Tryz.func113, Tryz.ntmps113
      go_wp2_with fail
      refine L.out.mono ?_
      rintro e w1 ⟨D, dn, dc, rfl, o1, b1⟩
      have F : AnsList w (givesL ss i) (.returned (.slice D dn dc)) w1 := ⟨D, dn, dc, rfl, by rw [E.out]; exact Own.lower o1 bel.size, next_trans bel b1⟩
      have HF := Lib.hid F
      clear F o1 b1 bel L
      go_wp2
      go_ret
      exact HF.out
  · have hge : ¬ (i : Int) < (m : Int) := by omega
    have F := Lib.hid (VAR.out (gives_out (by rw [HL.out]; exact hlt)))
    clear h bel VAR
    go_enter Tryz.func113, Tryz.ntmps113
    go_wp2
    go_ret
    exact F.out

/-! ### impl's look-up in a substitution -/
theorem lookupIn (S : Option Addr) (m c : Nat) (w : World) :
    Calls Tryz.prog 58 #[.agg #[.slice S m c]] w fun e w' => e = .returned (.func (.func 111) #[] #[.pointer (some ⟨w.heap.size, 0, none⟩)]) ∧ w' = w.alloc (.cells #[.slice S m c] 43) := by
  have hmf : ∀ (fn : Fn) (first cap : Array Value) (w : World), (Instr.makeFunc fn first cap).run Tryz.prog w = .ok (.func fn first cap) w := fun _ _ _ _ => rfl
  go_enter Tryz.func58, Tryz.ntmps58
  go_wp2
  go_ret
  exact ⟨rfl, rfl⟩

set_option maxHeartbeats 2000000 in
theorem lookSubstC (B : Nat) (S : Option Addr) (m c : Nat) (ss : List (List Int)) (w : World) (hB : B < w.heap.size) (hc : w.cell? ⟨B, 0, none⟩ = some (.slice S m c)) (h : Segs w w.heap.size S m ss) (hm : m ≤ 1048576) :
    Looks 111 #[.pointer (some ⟨B, 0, none⟩)] w (givesL ss) 24 := by
  intro W i hb hi
  have cB : W.cell? ⟨B, 0, none⟩ = some (.slice S m c) := (hb.cell (p := ⟨B, 0, none⟩) hB).trans hc
  have h1 := h.below hb
  have HL := Lib.hid h.1
  have i0 : (0 : Int) ≤ (i : Int) := by omega
  have LV := Lib.hid (varTerm (i : Int) W (by omega) (by omega))
  have hws := hb.size
  clear hB hc h hb
  show Calls Tryz.prog 111 #[.int .i64 (i : Int), .pointer (some ⟨B, 0, none⟩)] W _
  by_cases hlt : i < m
  · obtain ⟨b, off, A', n', cc, rfl, hbB, hx, hseg0, hcap⟩ := h1.spot hlt
    have hseg := hseg0.more hws
    by_cases hz : n' = 0
    · subst hz
      have E := Lib.hid (gives_var (ss := ss) (i := i) hseg.1)
      clear h1 hseg hseg0 hcap
      go_enter Tryz.func111, Tryz.ntmps111
      go_wp2_with fail
      refine LV.out.mono ?_
      rintro e w1 ⟨D, dn, dc, rfl, o1, b1⟩
      have F : AnsLook w.heap.size W (givesL ss i) (.returned (.slice D dn dc)) w1 := by rw [E.out]; exact look_new o1 b1
      have HF := Lib.hid F
      clear F o1 b1 LV
      go_wp2
      go_ret
      exact HF.out
    · have hpos : 0 < n' := by omega
      have F : AnsLook w.heap.size W (givesL ss i) (.returned (.slice A' n' cc)) W := ⟨A', n', cc, rfl, by rw [gives_term (by rw [hseg.1]; exact hz)]; exact hseg, hcap, fun k hk => .inl (by obtain ⟨b2, off2, e2, hb2, _⟩ := hseg0.2 hpos; rw [e2] at hk; have : b2 = k := Option.some.inj hk; omega), Below.refl _ _⟩
      have HF := Lib.hid F
      clear F h1 hseg hseg0 hcap LV
      go_enter Tryz.func111, Tryz.ntmps111
      go_wp2
      go_ret
      exact HF.out
  · have hge : ¬ (i : Int) < (m : Int) := by omega
    have E := Lib.hid (gives_out (ss := ss) (i := i) (by rw [HL.out]; exact hlt))
    clear h1
    go_enter Tryz.func111, Tryz.ntmps111
    go_wp2_with fail
    refine LV.out.mono ?_
    rintro e w1 ⟨D, dn, dc, rfl, o1, b1⟩
    have F : AnsLook w.heap.size W (givesL ss i) (.returned (.slice D dn dc)) w1 := by rw [E.out]; exact look_new o1 b1
    have HF := Lib.hid F
    clear F o1 b1 LV
    go_wp2
    go_ret
    exact HF.out

theorem lookSubst (B : Nat) (S : Option Addr) (m c : Nat) (ss : List (List Int)) (w : World) (hr : Row w B 43 #[.slice S m c]) (h : Segs w w.heap.size S m ss) (hm : m ≤ 1048576) :
    Looks 111 #[.pointer (some ⟨B, 0, none⟩)] w (givesL ss) 24 := lookSubstC B S m c ss w hr.lt (hr.cell 0) h hm

theorem tooLong (A : Option Addr) (n c : Nat) (w : World) (hn : n ≤ 9223372036854775807) :
    Calls Tryz.prog 102 #[.slice A n c] w fun e w' => w = w' ∧ e = .returned (.bool (decide (60 < n))) := by
  have E : decide ((60 : Int) < (n : Int)) = decide (60 < n) := decide_eq_decide.2 (by omega)
  rw [← E]
  have HE := Lib.hid E
  clear E
  generalize hz : decide ((60 : Int) < (n : Int)) = z
  have HZ := Lib.hid hz
  clear hz
  go_enter Tryz.func102, Tryz.ntmps102
  go_wp2
  go_ret
  exact ⟨rfl, by rw [← HZ.out]; rfl⟩
end Go.Proofs.YtmaamlnooepogaaGreat.gives
end

section
/-
  PLAIN MATHEMATICS of rewrite steps: what a step makes ('stepO'); it is the one term that an instance of a rule's right side makes ('step_iff'); it can be carried out inside a term ('step_inside') and under a substitution ('step_under'). Conditions: none but those named. By an AI agent.
-/
namespace Go.Proofs.YtmaamlnooepogaaGreat.stepMath
open Go.Proofs.YtmaamlnooepogaaGreat.sig Go.Proofs.YtmaamlnooepogaaGreat.term Go.Proofs.YtmaamlnooepogaaGreat.termOk Go.Proofs.YtmaamlnooepogaaGreat.termFacts Go.Proofs.YtmaamlnooepogaaGreat.fillMath Go.Proofs.YtmaamlnooepogaaGreat.gives Go.Proofs.YtmaamlnooepogaaGreat.endAt Go.Proofs.YtmaamlnooepogaaGreat.sub Go.Proofs.YtmaamlnooepogaaGreat.matchMath Go.Proofs.YtmaamlnooepogaaGreat.termMath Go.Proofs.YtmaamlnooepogaaGreat.posMath Go.Proofs.YtmaamlnooepogaaGreat.putMath Go.Proofs.YtmaamlnooepogaaGreat.ruleMath

/-- the term put at place a -/
def putAt (sg t u : List Int) (a : Nat) : List Int := putL t a (len1 sg t a) u
/-- what rule x makes of t at a -/
def stepO (sg : List Int) (x : Rl) (t : List Int) (a : Nat) : Option (List Int) :=
  match mst sg (subL sg t a) x.1 0 s0 with
  | none => none
  | some ss => if (fillL (givesL ss) x.2).length ≤ 60 ∧ (putAt sg t (fillL (givesL ss) x.2) a).length ≤ 60 then some (putAt sg t (fillL (givesL ss) x.2) a) else none
/-- whether rule x matches t at a -/
def redB (sg : List Int) (x : Rl) (t : List Int) (a : Nat) : Bool := (mst sg (subL sg t a) x.1 0 s0).isSome

theorem sub_ok {sg t : List Int} (h : termOkB sg t = true) {a : Nat} (ha : a < t.length) : termOkB sg (subL sg t a) = true := by
  obtain ⟨h1, h2, h3⟩ := term_parts h
  obtain ⟨e1, e2, e3⟩ := sub_len1 h ha
  have h4 := term_at h ha
  exact term_mk h1 (by omega) e3
/-- a term that matches tells what the variables stand for -/
theorem gives_of {sg l s : List Int} {ss : List (List Int)} (h1 : termOkB sg l = true) (h2 : termOkB sg s = true) (h : mst sg s l 0 s0 = some ss) : Turns sg l s (givesL ss) ∧ ∀ x ∈ l, x < 0 → givesL ss (vr x) = ss.getD (vr x) [] := by
  have hm : matchO sg l s = some ss := by rw [match_yes h1 h2]; exact h
  obtain ⟨e, t1, t2⟩ := match_turns hm
  have hg : ∀ x ∈ l, x < 0 → givesL ss (vr x) = ss.getD (vr x) [] := fun x hx h0 => by
    have this : scan sg 1 (ss.getD (vr x) []) = some (ss.getD (vr x) []).length := t2 x hx h0
    unfold givesL
    rw [if_neg ?_]
    intro e0
    have e1 : ss.getD (vr x) [] = [] := List.length_eq_zero_iff.1 e0
    rw [e1] at this
    exact absurd this (by simp [scan])
  refine ⟨⟨?_, fun x hx h0 => by rw [hg x hx h0]; exact t2 x hx h0⟩, hg⟩
  rw [fill_ext (L' := fun i => ss.getD i []) (fun x hx h0 => hg x hx h0)]
  exact t1
theorem step_iff {sg : List Int} {x : Rl} {t v : List Int} {a : Nat} (hx : ruleOkB sg x = true) (ht : termOkB sg t = true) (ha : a < t.length) :
    stepO sg x t a = some v ↔ ∃ L, Turns sg x.1 (subL sg t a) L ∧ v = putAt sg t (fillL L x.2) a ∧ (fillL L x.2).length ≤ 60 ∧ v.length ≤ 60 := by
  obtain ⟨h1, h2, h3, h4⟩ := rule_parts hx
  have hs := sub_ok ht ha
  constructor
  · intro h
    unfold stepO at h
    cases hm : mst sg (subL sg t a) x.1 0 s0 with
    | none => rw [hm] at h; cases h
    | some ss =>
      rw [hm] at h
      dsimp only at h
      split at h
      · rename_i hf
        injection h with h
        subst h
        exact ⟨_, (gives_of h1 hs hm).1, rfl, hf.1, hf.2⟩
      · cases h
  · rintro ⟨L, hL, rfl, hf, hv⟩
    obtain ⟨ss, hm, hg⟩ := turns_match h1 hs hL
    rw [match_yes h1 hs] at hm
    have g := gives_of h1 hs hm
    have e : fillL (givesL ss) x.2 = fillL L x.2 := fill_ext (fun y hy h0 => by
      have hy1 := h4 y hy h0
      show givesL ss (vr y) = L (vr y)
      rw [g.2 y hy1 h0]
      exact hg y hy1 h0)
    unfold stepO
    rw [hm]
    dsimp only
    rw [e, if_pos ⟨hf, hv⟩]
theorem red_iff {sg : List Int} {x : Rl} {t : List Int} {a : Nat} (hx : ruleOkB sg x = true) (ht : termOkB sg t = true) (ha : a < t.length) : redB sg x t a = true ↔ ∃ L, Turns sg x.1 (subL sg t a) L := by
  obtain ⟨h1, h2, h3, h4⟩ := rule_parts hx
  have hs := sub_ok ht ha
  rw [← inst_iff h1 hs]
  unfold redB instB
  rw [match_yes h1 hs]
/-- what a step makes is a term -/
theorem step_ok {sg : List Int} {x : Rl} {t v : List Int} {a : Nat} (hx : ruleOkB sg x = true) (ht : termOkB sg t = true) (ha : a < t.length) (h : stepO sg x t a = some v) : termOkB sg v = true := by
  obtain ⟨L, hL, rfl, hf, hv⟩ := (step_iff hx ht ha).1 h
  obtain ⟨h1, h2, h3, h4⟩ := rule_parts hx
  obtain ⟨s1, s2, s3⟩ := term_parts ht
  exact put_term ht (term_mk s1 hf (scan_fill (term_parts h2).2.2 (fun y hy h0 => hL.2 y (h4 y hy h0) h0))) ha hv
/-! ### inside a term -/
theorem sub_in {sg A x B : List Int} (h : termOkB sg x = true) {a : Nat} (ha : a < x.length) : len1 sg (A ++ (x ++ B)) (A.length + a) = len1 sg x a ∧ subL sg (A ++ (x ++ B)) (A.length + a) = subL sg x a := by
  obtain ⟨h1, h2, h3⟩ := term_at h ha
  have e : (A ++ (x ++ B)).drop (A.length + a) = x.drop a ++ B := by
    rw [← List.drop_drop, List.drop_left, List.drop_append_of_le_length (by omega)]
  have e1 : len1 sg (A ++ (x ++ B)) (A.length + a) = len1 sg x a := len1_eq (by rw [e]; exact scan_append h1)
  refine ⟨e1, ?_⟩
  unfold subL
  rw [e1, e, List.take_append_of_le_length (by rw [List.length_drop]; omega)]
theorem put_in {A x B u : List Int} {a i : Nat} (h : a + i ≤ x.length) : putL (A ++ (x ++ B)) (A.length + a) i u = A ++ (putL x a i u ++ B) := by
  unfold putL
  rw [List.take_append, List.take_of_length_le (by omega), show A.length + a - A.length = a by omega, List.take_append_of_le_length (by omega)]
  rw [show A.length + a + i = A.length + (a + i) by omega, ← List.drop_drop, List.drop_left, List.drop_append_of_le_length (by omega)]
  simp only [List.append_assoc]
theorem put_form {sg C x : List Int} {p : Nat} (hp : p ≤ C.length) : ∃ B, (∀ y, putAt sg C y p = C.take p ++ (y ++ B)) ∧ (C.take p).length = p := ⟨C.drop (p + len1 sg C p), fun _ => rfl, by rw [List.length_take]; omega⟩
/-- a step inside a term -/
theorem step_inside {sg : List Int} {x : Rl} {t v C : List Int} {a p : Nat} (hx : ruleOkB sg x = true) (ht : termOkB sg t = true) (ha : a < t.length) (h : stepO sg x t a = some v) (hC : termOkB sg C = true) (hp : p < C.length) (h1 : (putAt sg C t p).length ≤ 60) (h2 : (putAt sg C v p).length ≤ 60) :
    stepO sg x (putAt sg C t p) (p + a) = some (putAt sg C v p) ∧ p + a < (putAt sg C t p).length := by
  obtain ⟨L, hL, rfl, hf, hv⟩ := (step_iff hx ht ha).1 h
  have hT : termOkB sg (putAt sg C t p) = true := put_term hC ht hp h1
  obtain ⟨B, hB, hl⟩ := put_form (sg := sg) (x := x.1) (show p ≤ C.length by omega)
  obtain ⟨s1, s2⟩ := sub_in (A := C.take p) (B := B) ht ha
  rw [hl] at s1 s2
  rw [← hB t] at s1 s2
  have h3 := term_at ht ha
  have hpl : p + a < (putAt sg C t p).length := by rw [hB t, List.length_append, List.length_append, hl]; omega
  refine ⟨(step_iff hx hT hpl).2 ⟨L, by rw [s2]; exact hL, ?_, hf, h2⟩, hpl⟩
  have e := put_in (A := C.take p) (B := B) (u := fillL L x.2) (show a + len1 sg t a ≤ t.length from h3.2.2)
  rw [hl, ← hB t] at e
  show putAt sg C (putAt sg t (fillL L x.2) a) p = putL (putAt sg C t p) (p + a) (len1 sg (putAt sg C t p) (p + a)) (fillL L x.2)
  rw [s1, e, hB]
  rfl
/-- what was put in can be read again -/
theorem put_read {sg C t : List Int} {p : Nat} (ht : termOkB sg t = true) (hp : p ≤ C.length) : subL sg (putAt sg C t p) p = t := (put_sub ht hp _).2
/-! ### under a substitution -/
theorem step_under {sg : List Int} {x : Rl} {t v : List Int} {a : Nat} {M : Nat → List Int} (hx : ruleOkB sg x = true) (ht : termOkB sg t = true) (ha : a < t.length) (h : stepO sg x t a = some v) (hM : ∀ y ∈ t, y < 0 → termOkB sg (M (vr y)) = true) (h1 : (fillL M t).length ≤ 60) (h2 : (fillL M v).length ≤ 60) :
    stepO sg x (fillL M t) (fillL M (t.take a)).length = some (fillL M v) ∧ (fillL M (t.take a)).length < (fillL M t).length := by
  obtain ⟨L, hL, rfl, hf, hv⟩ := (step_iff hx ht ha).1 h
  obtain ⟨e1, e2, e3⟩ := sub_len1 ht ha
  have hT := fill_term ht hM h1
  have hspl : t = t.take a ++ (subL sg t a ++ t.drop (a + (subL sg t a).length)) := by rw [← e2, List.take_append_drop]
  have hmem : ∀ y ∈ subL sg t a, y ∈ t := fun y hy => by rw [hspl]; simp [hy]
  have hsub := sub_ok ht ha
  have hscan : scan sg 1 (fillL M (subL sg t a)) = some (fillL M (subL sg t a)).length := scan_fill e3 (fun y hy h0 => (term_parts (hM y (hmem y hy) h0)).2.2)
  have hft : fillL M t = fillL M (t.take a) ++ (fillL M (subL sg t a) ++ fillL M (t.drop (a + (subL sg t a).length))) := by
    rw [← fill_append, ← fill_append]
    exact congrArg (fillL M) hspl
  have hpos : 1 ≤ (fillL M (subL sg t a)).length := scan_pos (q := 0) hscan
  have hlt : (fillL M (t.take a)).length < (fillL M t).length := by rw [hft, List.length_append, List.length_append]; omega
  have hdrop : (fillL M t).drop (fillL M (t.take a)).length = fillL M (subL sg t a) ++ fillL M (t.drop (a + (subL sg t a).length)) := by rw [hft, List.drop_left]
  have hl1 : len1 sg (fillL M t) (fillL M (t.take a)).length = (fillL M (subL sg t a)).length := len1_eq (by rw [hdrop]; exact scan_append hscan)
  have hs2 : subL sg (fillL M t) (fillL M (t.take a)).length = fillL M (subL sg t a) := by
    unfold subL
    rw [hl1, hdrop]
    exact List.take_left
  have hput : putAt sg (fillL M t) (fillL M (fillL L x.2)) (fillL M (t.take a)).length = fillL M (putAt sg t (fillL L x.2) a) := by
    have hd2 : (fillL M t).drop ((fillL M (t.take a)).length + (fillL M (subL sg t a)).length) = fillL M (t.drop (a + len1 sg t a)) := by rw [← List.drop_drop, hdrop, List.drop_left, e1]
    have ht2 : (fillL M t).take (fillL M (t.take a)).length = fillL M (t.take a) := by rw [hft, List.take_left]
    unfold putAt putL
    rw [hl1, fill_append, fill_append, hd2, ht2]
  refine ⟨(step_iff hx hT hlt).2 ⟨fun i => fillL M (L i), ?_, ?_, ?_, h2⟩, hlt⟩
  · rw [hs2]
    exact turns_trans hL ⟨rfl, fun y hy h0 => (term_parts (hM y (hmem y hy) h0)).2.2⟩
  · rw [← fill_fill, hput]
  · rw [← fill_fill]
    have h3 : (fillL M (putAt sg t (fillL L x.2) a)).length ≤ 60 := h2
    rw [← hput] at h3
    unfold putAt putL at h3
    rw [List.length_append, List.length_append] at h3
    omega
end Go.Proofs.YtmaamlnooepogaaGreat.stepMath
end

section
/-
  PLAIN MATHEMATICS of walks: a walk goes on ('goOn'), ends ('endL'), can be cut and joined ('go_append'), carried out inside a term ('go_inside') and under a substitution ('go_under'). Conditions: none but those named. By an AI agent.
-/
namespace Go.Proofs.YtmaamlnooepogaaGreat.walkMath
open Go.Proofs.YtmaamlnooepogaaGreat.sig Go.Proofs.YtmaamlnooepogaaGreat.term Go.Proofs.YtmaamlnooepogaaGreat.termOk Go.Proofs.YtmaamlnooepogaaGreat.termFacts Go.Proofs.YtmaamlnooepogaaGreat.fillMath Go.Proofs.YtmaamlnooepogaaGreat.gives Go.Proofs.YtmaamlnooepogaaGreat.sub Go.Proofs.YtmaamlnooepogaaGreat.matchMath Go.Proofs.YtmaamlnooepogaaGreat.putMath Go.Proofs.YtmaamlnooepogaaGreat.ruleMath Go.Proofs.YtmaamlnooepogaaGreat.stepMath

/-- a step: place, rule, result; a walk: the first term, the steps -/
abbrev St := Int × Int × List Int
abbrev Wk := List Int × List St
def inB (x : Int) (n : Nat) : Bool := decide (0 ≤ x ∧ x < n)
def rightB (sg : List Int) (rs : List Rl) (t : List Int) : Bool := sysOkB sg rs && termOkB sg t
def thereR (sg : List Int) (rs : List Rl) (t : List Int) (a r : Int) : Bool := rightB sg rs t && (inB a t.length && inB r rs.length)
def rl (rs : List Rl) (r : Int) : Rl := rs.getD r.toNat ([], [])
def redexB (sg : List Int) (rs : List Rl) (t : List Int) (a r : Int) : Bool := thereR sg rs t a r && redB sg (rl rs r) t a.toNat
def stepAtO (sg : List Int) (rs : List Rl) (t : List Int) (a r : Int) : Option (List Int) := if thereR sg rs t a r = true then stepO sg (rl rs r) t a.toNat else none
/-- all steps of t, in their order -/
def stepsL (sg : List Int) (rs : List Rl) (t : List Int) : List St := (List.range t.length).flatMap fun a => (List.range rs.length).filterMap fun r => (stepO sg (rs.getD r ([], [])) t a).map fun v => ((a : Int), (r : Int), v)
def stepsI (sg : List Int) (rs : List Rl) (t : List Int) : List St := if rightB sg rs t = true then stepsL sg rs t else []
def normalB (sg : List Int) (rs : List Rl) (t : List Int) : Bool := rightB sg rs t && (List.range t.length).all fun a => rs.all fun x => !redB sg x t a
def goOn (sg : List Int) (rs : List Rl) : List Int → List St → Option (List Int)
  | t, [] => some t
  | t, s :: ss => match stepAtO sg rs t s.1 s.2.1 with
    | some v => if v = s.2.2 then goOn sg rs v ss else none
    | none => none
def walkB (sg : List Int) (rs : List Rl) (w : Wk) : Bool := rightB sg rs w.1 && (decide (w.2.length ≤ 60) && (goOn sg rs w.1 w.2).isSome)
def endL (w : Wk) : List Int := match w.2.getLast? with
  | some s => s.2.2
  | none => w.1

theorem there_parts {sg : List Int} {rs : List Rl} {t : List Int} {a r : Int} (h : thereR sg rs t a r = true) : sysOkB sg rs = true ∧ termOkB sg t = true ∧ (0 ≤ a ∧ a < t.length) ∧ (0 ≤ r ∧ r < rs.length) := by
  unfold thereR rightB inB at h
  simp only [Bool.and_eq_true, decide_eq_true_eq] at h
  exact ⟨h.1.1, h.1.2, h.2.1, h.2.2⟩
theorem there_mk {sg : List Int} {rs : List Rl} {t : List Int} {a r : Int} (h1 : sysOkB sg rs = true) (h2 : termOkB sg t = true) (h3 : 0 ≤ a ∧ a < t.length) (h4 : 0 ≤ r ∧ r < rs.length) : thereR sg rs t a r = true := by
  unfold thereR rightB inB
  rw [h1, h2, decide_eq_true h3, decide_eq_true h4]
  rfl
theorem rl_ok {sg : List Int} {rs : List Rl} {r : Int} (h : sysOkB sg rs = true) (hr : 0 ≤ r ∧ r < rs.length) : ruleOkB sg (rl rs r) = true := (sys_parts h).2.2 _ (rl_mem (by omega))
theorem stepAt_parts {sg : List Int} {rs : List Rl} {t v : List Int} {a r : Int} (h : stepAtO sg rs t a r = some v) : thereR sg rs t a r = true ∧ stepO sg (rl rs r) t a.toNat = some v := by
  unfold stepAtO at h
  split at h
  · exact ⟨by assumption, h⟩
  · cases h
theorem stepAt_ok {sg : List Int} {rs : List Rl} {t v : List Int} {a r : Int} (h : stepAtO sg rs t a r = some v) : termOkB sg v = true := by
  obtain ⟨h1, h2⟩ := stepAt_parts h
  obtain ⟨q1, q2, q3, q4⟩ := there_parts h1
  exact step_ok (rl_ok q1 q4) q2 (by omega) h2
theorem stepAt_redex {sg : List Int} {rs : List Rl} {t v : List Int} {a r : Int} (h : stepAtO sg rs t a r = some v) : redexB sg rs t a r = true := by
  obtain ⟨h1, h2⟩ := stepAt_parts h
  unfold redexB
  rw [h1, Bool.true_and]
  unfold stepO at h2
  unfold redB
  cases hm : mst sg (subL sg t a.toNat) (rl rs r).1 0 s0 with
  | none => rw [hm] at h2; cases h2
  | some ss => rfl
theorem go_cons {sg : List Int} {rs : List Rl} {t v : List Int} {s : St} {ss : List St} : goOn sg rs t (s :: ss) = some v ↔ stepAtO sg rs t s.1 s.2.1 = some s.2.2 ∧ goOn sg rs s.2.2 ss = some v := by
  rw [goOn]
  cases h : stepAtO sg rs t s.1 s.2.1 with
  | none => simp
  | some u =>
    dsimp only
    split
    · rename_i e
      subst e
      simp
    · rename_i e
      constructor
      · intro h; cases h
      · rintro ⟨h, _⟩
        injection h with h
        exact absurd h e
theorem go_append {sg : List Int} {rs : List Rl} : ∀ {a b : List St} {t : List Int}, goOn sg rs t (a ++ b) = (goOn sg rs t a).bind fun v => goOn sg rs v b
  | [], b, t => rfl
  | s :: a, b, t => by
    show goOn sg rs t (s :: (a ++ b)) = _
    rw [goOn, goOn]
    cases h : stepAtO sg rs t s.1 s.2.1 with
    | none => rfl
    | some u =>
      dsimp only
      split
      · exact go_append
      · rfl
theorem end_cons (t : List Int) (s : St) (ss : List St) : endL (t, s :: ss) = endL (s.2.2, ss) := by
  unfold endL
  cases ss with
  | nil => rfl
  | cons u r =>
    rw [List.getLast?_cons_cons]
    cases h : (u :: r).getLast? with
    | none => simp at h
    | some z => rfl
theorem go_end {sg : List Int} {rs : List Rl} : ∀ {ss : List St} {t v : List Int}, goOn sg rs t ss = some v → v = endL (t, ss)
  | [], t, v, h => by injection h with h; exact h.symm
  | s :: ss, t, v, h => by
    obtain ⟨_, h2⟩ := go_cons.1 h
    rw [end_cons]
    exact go_end h2
/-- every term of a walk is a term -/
theorem go_ok {sg : List Int} {rs : List Rl} : ∀ {ss : List St} {t v : List Int}, termOkB sg t = true → goOn sg rs t ss = some v → termOkB sg v = true ∧ ∀ s ∈ ss, termOkB sg s.2.2 = true
  | [], t, v, ht, h => by injection h with h; subst h; exact ⟨ht, fun s hs => by cases hs⟩
  | s :: ss, t, v, _, h => by
    obtain ⟨h1, h2⟩ := go_cons.1 h
    have h3 := stepAt_ok h1
    obtain ⟨h4, h5⟩ := go_ok h3 h2
    refine ⟨h4, fun u hu => ?_⟩
    rcases List.mem_cons.1 hu with rfl | hu
    · exact h3
    · exact h5 u hu
theorem walk_parts {sg : List Int} {rs : List Rl} {w : Wk} (h : walkB sg rs w = true) : sysOkB sg rs = true ∧ termOkB sg w.1 = true ∧ w.2.length ≤ 60 ∧ goOn sg rs w.1 w.2 = some (endL w) := by
  unfold walkB rightB at h
  simp only [Bool.and_eq_true, decide_eq_true_eq] at h
  obtain ⟨⟨h1, h2⟩, h3, h4⟩ := h
  obtain ⟨v, hv⟩ := Option.isSome_iff_exists.1 h4
  exact ⟨h1, h2, h3, by rw [hv, go_end hv]⟩
theorem walk_mk {sg : List Int} {rs : List Rl} {w : Wk} {v : List Int} (h1 : sysOkB sg rs = true) (h2 : termOkB sg w.1 = true) (h3 : w.2.length ≤ 60) (h4 : goOn sg rs w.1 w.2 = some v) : walkB sg rs w = true := by
  unfold walkB rightB
  rw [h1, h2, decide_eq_true h3, h4]
  rfl
/-- joined walks -/
theorem walk_join {sg : List Int} {rs : List Rl} {a b : Wk} (ha : walkB sg rs a = true) (hb : walkB sg rs b = true) (he : endL a = b.1) (hl : a.2.length + b.2.length ≤ 60) : walkB sg rs (a.1, a.2 ++ b.2) = true ∧ endL (a.1, a.2 ++ b.2) = endL b := by
  obtain ⟨a1, a2, a3, a4⟩ := walk_parts ha
  obtain ⟨b1, b2, b3, b4⟩ := walk_parts hb
  have h : goOn sg rs a.1 (a.2 ++ b.2) = some (endL b) := by
    rw [go_append, a4]
    show goOn sg rs (endL a) b.2 = _
    rw [he]
    exact b4
  exact ⟨walk_mk (w := (a.1, a.2 ++ b.2)) a1 a2 (by simpa using hl) h, (go_end h).symm⟩
/-- a walk cut in two -/
theorem walk_cut {sg : List Int} {rs : List Rl} {w : Wk} (h : walkB sg rs w = true) (k : Nat) : walkB sg rs (w.1, w.2.take k) = true ∧ walkB sg rs (endL (w.1, w.2.take k), w.2.drop k) = true := by
  obtain ⟨h1, h2, h3, h4⟩ := walk_parts h
  have e : goOn sg rs w.1 (w.2.take k ++ w.2.drop k) = some (endL w) := by rw [List.take_append_drop]; exact h4
  rw [go_append] at e
  cases hv : goOn sg rs w.1 (w.2.take k) with
  | none => rw [hv] at e; cases e
  | some v =>
    rw [hv] at e
    have e : goOn sg rs v (w.2.drop k) = some (endL w) := e
    have hve := go_end hv
    refine ⟨walk_mk (w := (w.1, w.2.take k)) h1 h2 (by rw [List.length_take]; omega) hv, ?_⟩
    rw [← hve]
    exact walk_mk (w := (v, w.2.drop k)) h1 (go_ok h2 hv).1 (by rw [List.length_drop]; omega) e
/-! ### inside a term -/
def insS (sg C : List Int) (p : Nat) (ss : List St) : List St := ss.map fun s => ((p : Int) + s.1, s.2.1, putAt sg C s.2.2 p)
theorem go_inside {sg : List Int} {rs : List Rl} {C : List Int} {p : Nat} (hC : termOkB sg C = true) (hp : p < C.length) : ∀ {ss : List St} {t v : List Int}, goOn sg rs t ss = some v → (putAt sg C t p).length ≤ 60 → (∀ s ∈ ss, (putAt sg C s.2.2 p).length ≤ 60) → goOn sg rs (putAt sg C t p) (insS sg C p ss) = some (putAt sg C v p)
  | [], t, v, h, _, _ => by injection h with h; subst h; rfl
  | s :: ss, t, v, h, h60, hs => by
    obtain ⟨h1, h2⟩ := go_cons.1 h
    obtain ⟨q1, q2⟩ := stepAt_parts h1
    obtain ⟨r1, r2, r3, r4⟩ := there_parts q1
    have g60 := hs s (List.mem_cons_self ..)
    obtain ⟨e1, e2⟩ := step_inside (rl_ok r1 r4) r2 (show s.1.toNat < t.length by omega) q2 hC hp h60 g60
    refine go_cons.2 ⟨?_, go_inside hC hp h2 g60 fun u hu => hs u (List.mem_cons_of_mem _ hu)⟩
    show stepAtO sg rs (putAt sg C t p) ((p : Int) + s.1) s.2.1 = some (putAt sg C s.2.2 p)
    have ok2 : termOkB sg (putAt sg C t p) = true := put_term hC r2 hp h60
    unfold stepAtO
    rw [if_pos (there_mk r1 ok2 (by omega) r4), show ((p : Int) + s.1).toNat = p + s.1.toNat by omega]
    exact e1
/-! ### under a substitution -/
def undS (M : Nat → List Int) : List Int → List St → List St
  | _, [] => []
  | t, s :: ss => (((fillL M (t.take s.1.toNat)).length : Int), s.2.1, fillL M s.2.2) :: undS M s.2.2 ss
theorem und_len (M : Nat → List Int) : ∀ (t : List Int) (ss : List St), (undS M t ss).length = ss.length
  | _, [] => rfl
  | _, s :: ss => by rw [undS, List.length_cons, List.length_cons, und_len M _ ss]
theorem go_under {sg : List Int} {rs : List Rl} {M : Nat → List Int} (hM : ∀ i, termOkB sg (M i) = true) : ∀ {ss : List St} {t v : List Int}, goOn sg rs t ss = some v → (fillL M t).length ≤ 60 → (∀ s ∈ ss, (fillL M s.2.2).length ≤ 60) → goOn sg rs (fillL M t) (undS M t ss) = some (fillL M v)
  | [], t, v, h, _, _ => by injection h with h; subst h; rfl
  | s :: ss, t, v, h, h60, hs => by
    obtain ⟨h1, h2⟩ := go_cons.1 h
    obtain ⟨q1, q2⟩ := stepAt_parts h1
    obtain ⟨r1, r2, r3, r4⟩ := there_parts q1
    have g60 := hs s (List.mem_cons_self ..)
    obtain ⟨e1, e2⟩ := step_under (rl_ok r1 r4) r2 (show s.1.toNat < t.length by omega) q2 (fun y _ _ => hM (vr y)) h60 g60
    refine go_cons.2 ⟨?_, go_under hM h2 g60 fun u hu => hs u (List.mem_cons_of_mem _ hu)⟩
    show stepAtO sg rs (fillL M t) ((fillL M (t.take s.1.toNat)).length : Int) s.2.1 = some (fillL M s.2.2)
    unfold stepAtO
    rw [if_pos (there_mk r1 (fill_term r2 (fun y _ _ => hM _) h60) (by omega) r4), Int.toNat_natCast]
    exact e1
/-! ### all steps -/
theorem steps_mem {sg : List Int} {rs : List Rl} {t : List Int} {s : St} : s ∈ stepsL sg rs t ↔ ∃ a r : Nat, a < t.length ∧ r < rs.length ∧ s.1 = (a : Int) ∧ s.2.1 = (r : Int) ∧ stepO sg (rs.getD r ([], [])) t a = some s.2.2 := by
  unfold stepsL
  rw [List.mem_flatMap]
  constructor
  · rintro ⟨a, ha, h⟩
    obtain ⟨r, hr, h⟩ := List.mem_filterMap.1 h
    obtain ⟨v, hv, rfl⟩ := Option.map_eq_some_iff.1 h
    exact ⟨a, r, List.mem_range.1 ha, List.mem_range.1 hr, rfl, rfl, hv⟩
  · rintro ⟨a, r, ha, hr, e1, e2, h⟩
    refine ⟨a, List.mem_range.2 ha, List.mem_filterMap.2 ⟨r, List.mem_range.2 hr, ?_⟩⟩
    rw [h, Option.map_some, ← e1, ← e2]
theorem steps_at {sg : List Int} {rs : List Rl} {t : List Int} {s : St} (h1 : sysOkB sg rs = true) (h2 : termOkB sg t = true) (h : s ∈ stepsL sg rs t) : stepAtO sg rs t s.1 s.2.1 = some s.2.2 := by
  obtain ⟨a, r, ha, hr, e1, e2, e3⟩ := steps_mem.1 h
  unfold stepAtO
  rw [if_pos (there_mk h1 h2 (by omega) (by omega)), e1, e2, Int.toNat_natCast]
  unfold rl
  rw [Int.toNat_natCast]
  exact e3
theorem normal_none {sg : List Int} {rs : List Rl} {t : List Int} (h : normalB sg rs t = true) : stepsI sg rs t = [] := by
  unfold normalB at h
  rw [Bool.and_eq_true] at h
  obtain ⟨h1, h2⟩ := h
  unfold stepsI
  rw [if_pos h1, List.eq_nil_iff_forall_not_mem]
  intro s hs
  obtain ⟨a, r, ha, hr, -, -, e3⟩ := steps_mem.1 hs
  have h3 := List.all_eq_true.1 (List.all_eq_true.1 h2 a (List.mem_range.2 ha)) _ (rl_mem hr)
  unfold redB at h3
  unfold stepO at e3
  cases hm : mst sg (subL sg t a) (rs.getD r ([], [])).1 0 s0 with
  | none => rw [hm] at e3; cases e3
  | some ss => rw [hm] at h3; cases h3
end Go.Proofs.YtmaamlnooepogaaGreat.walkMath
end

section
/-
  WORDS FOR MEMORY OVER SHAPES: a value of any type that is made of int64, bool, slices and structs, reads as data ('Rd'); it and all that it reaches is the call's own ('Ow' with its blocks, 'Owned' between two blocks); how many numbers it holds ('sz'), the laws' marks ('cntv', 'mkv'). Conditions: none; plain lemmas. By an AI agent.
-/
namespace Go.Proofs.YtmaamlnooepogaaGreat.shape
open Go.RowKit Go.Proofs.YtmaamlnooepogaaGreat.base Go.Proofs.YtmaamlnooepogaaGreat.ints Go.Proofs.YtmaamlnooepogaaGreat.sig Go.Proofs.YtmaamlnooepogaaGreat.cursor Go.Proofs.YtmaamlnooepogaaGreat.marks Go.Proofs.YtmaamlnooepogaaGreat.app Go.Proofs.YtmaamlnooepogaaGreat.sym Go.Proofs.YtmaamlnooepogaaGreat.appAt Go.Proofs.YtmaamlnooepogaaGreat.segs Go.Proofs.YtmaamlnooepogaaGreat.segsHelp Go.Proofs.YtmaamlnooepogaaGreat.segsMark Go.Proofs.YtmaamlnooepogaaGreat.kinds

/-- a type's shape; a struct is its fields, one behind the other; 'row' names the elements' type -/
inductive Sh where
  | num : Sh
  | bit : Sh
  | row : TypeId → Sh → Sh
  | cat : Sh → Sh → Sh
@[reducible] def Dat : Sh → Type
  | .num => Int
  | .bit => Bool
  | .row _ s => List (Dat s)
  | .cat a b => Dat a × Dat b
/-- how many cells -/
def nc : Sh → Nat
  | .num => 1
  | .bit => 1
  | .row _ _ => 1
  | .cat a b => nc a + nc b
def dft : (s : Sh) → Dat s
  | .num => (0 : Int)
  | .bit => false
  | .row _ _ => []
  | .cat a b => (dft a, dft b)
/-- the cells es lie in block b from off on -/
def Piece (w : World) (b off : Nat) (es : List Value) : Prop := ∀ i, i < es.length → w.cell? ⟨b, off + i, none⟩ = es[i]?
theorem nc_pos : ∀ s : Sh, 1 ≤ nc s
  | .num => Nat.le_refl _
  | .bit => Nat.le_refl _
  | .row _ _ => Nat.le_refl _
  | .cat a b => Nat.le_trans (nc_pos a) (Nat.le_add_right _ _)

/-- the cells cs read as d; all blocks lie below B -/
def Rd (w : World) (B : Nat) : (s : Sh) → List Value → Dat s → Prop
  | .num, cs, (x : Int) => cs = [.int .i64 x]
  | .bit, cs, (x : Bool) => cs = [.bool x]
  | .row _ s, cs, (d : List (Dat s)) => ∃ A n c, cs = [.slice A n c] ∧ Cap A n c ∧ d.length = n ∧
      (0 < n → ∃ b off, A = some ⟨b, off, none⟩ ∧ b < B ∧ ∀ j, j < n → ∃ es, es.length = nc s ∧ Piece w b (off + j * nc s) es ∧ Rd w B s es (d.getD j (dft s)))
  | .cat a b, cs, d => ∃ ca cb, cs = ca ++ cb ∧ Rd w B a ca d.1 ∧ Rd w B b cb d.2

/-- the cells cs read as d, and all that they reach is the call's own: it lies in the blocks F -/
def Ow (w : World) : (s : Sh) → List Value → Dat s → List Nat → Prop
  | .num, cs, (x : Int), F => cs = [.int .i64 x] ∧ F = []
  | .bit, cs, (x : Bool), F => cs = [.bool x] ∧ F = []
  | .row e s, cs, (d : List (Dat s)), F => ∃ A n c, cs = [.slice A n c] ∧ d.length = n ∧
      ((A = none ∧ n = 0 ∧ c = 0 ∧ F = []) ∨ ∃ (g : Nat) (cur : Array Value) (E : Nat → List Value) (G : Nat → List Nat), A = some ⟨g, 0, none⟩ ∧ Row w g e cur ∧ n ≤ c ∧ c ≤ 9223372036854775807 ∧ cur.size = c * nc s ∧
        F = g :: (List.range n).flatMap G ∧ ∀ j, j < n → (E j).length = nc s ∧ (∀ i, i < nc s → cur[j * nc s + i]? = (E j)[i]?) ∧ Ow w s (E j) (d.getD j (dft s)) (G j))
  | .cat a b, cs, d, F => ∃ ca cb Fa Fb, cs = ca ++ cb ∧ F = Fa ++ Fb ∧ Ow w a ca d.1 Fa ∧ Ow w b cb d.2 Fb

section
variable {w w' : World} {B B' : Nat}
theorem Rd.len : ∀ {s : Sh} {cs : List Value} {d : Dat s}, Rd w B s cs d → cs.length = nc s
  | .num, _, _, h => by have h : _ = _ := h; rw [h]; rfl
  | .bit, _, _, h => by have h : _ = _ := h; rw [h]; rfl
  | .row _ _, _, _, h => by obtain ⟨A, n, c, e, _⟩ := h; rw [e]; rfl
  | .cat a b, _, _, h => by
    obtain ⟨ca, cb, e, h1, h2⟩ := h
    rw [e, List.length_append, h1.len, h2.len]; rfl
theorem Piece.keep {b off : Nat} {es : List Value} (h : Piece w b off es) (hk : ∀ p : Addr, p.block = b → w'.cell? p = w.cell? p) : Piece w' b off es := fun i hi => (hk _ rfl).trans (h i hi)
theorem Rd.keep (hk : ∀ p : Addr, p.block < B → w'.cell? p = w.cell? p) : ∀ {s : Sh} {cs : List Value} {d : Dat s}, Rd w B s cs d → Rd w' B s cs d
  | .num, _, _, h => h
  | .bit, _, _, h => h
  | .row _ s, _, _, h => by
    obtain ⟨A, n, c, e, hc, hl, h1⟩ := h
    refine ⟨A, n, c, e, hc, hl, fun hn => ?_⟩
    obtain ⟨b, off, e2, hb, h2⟩ := h1 hn
    refine ⟨b, off, e2, hb, fun j hj => ?_⟩
    obtain ⟨es, he, hp, hr⟩ := h2 j hj
    exact ⟨es, he, hp.keep (fun p hp => hk p (by rw [hp]; exact hb)), hr.keep hk⟩
  | .cat a b, _, _, h => by
    obtain ⟨ca, cb, e, h1, h2⟩ := h
    exact ⟨ca, cb, e, h1.keep hk, h2.keep hk⟩
theorem Rd.more (hB : B ≤ B') : ∀ {s : Sh} {cs : List Value} {d : Dat s}, Rd w B s cs d → Rd w B' s cs d
  | .num, _, _, h => h
  | .bit, _, _, h => h
  | .row _ s, _, _, h => by
    obtain ⟨A, n, c, e, hc, hl, h1⟩ := h
    refine ⟨A, n, c, e, hc, hl, fun hn => ?_⟩
    obtain ⟨b, off, e2, hb, h2⟩ := h1 hn
    refine ⟨b, off, e2, by omega, fun j hj => ?_⟩
    obtain ⟨es, he, hp, hr⟩ := h2 j hj
    exact ⟨es, he, hp, hr.more hB⟩
  | .cat a b, _, _, h => by
    obtain ⟨ca, cb, e, h1, h2⟩ := h
    exact ⟨ca, cb, e, h1.more hB, h2.more hB⟩
theorem Rd.below {s : Sh} {cs : List Value} {d : Dat s} (h : Rd w B s cs d) (hb : Below B w w') : Rd w' B s cs d := h.keep fun _ hp => hb.cell hp
theorem Rd.next {s : Sh} {cs : List Value} {d : Dat s} (h : Rd w w.heap.size s cs d) (hb : Below w.heap.size w w') : Rd w' w'.heap.size s cs d := (h.below hb).more hb.size

theorem Ow.len : ∀ {s : Sh} {cs : List Value} {d : Dat s} {F : List Nat}, Ow w s cs d F → cs.length = nc s
  | .num, _, _, _, h => by obtain ⟨e, _⟩ := h; rw [e]; rfl
  | .bit, _, _, _, h => by obtain ⟨e, _⟩ := h; rw [e]; rfl
  | .row _ _, _, _, _, h => by obtain ⟨A, n, c, e, _⟩ := h; rw [e]; rfl
  | .cat a b, _, _, _, h => by
    obtain ⟨ca, cb, Fa, Fb, e, _, h1, h2⟩ := h
    rw [e, List.length_append, h1.len, h2.len]; rfl
theorem Ow.keep : ∀ {s : Sh} {cs : List Value} {d : Dat s} {F : List Nat}, Ow w s cs d F → (∀ k ∈ F, w'.heap[k]? = w.heap[k]?) → Ow w' s cs d F
  | .num, _, _, _, h, _ => h
  | .bit, _, _, _, h, _ => h
  | .row e s, _, _, F, h, hk => by
    obtain ⟨A, n, c, e1, hl, h1⟩ := h
    refine ⟨A, n, c, e1, hl, ?_⟩
    rcases h1 with h1 | ⟨g, cur, E, G, e2, hr, h2, h3, h4, h5, h6⟩
    · exact .inl h1
    · subst h5
      refine .inr ⟨g, cur, E, G, e2, (hk g (List.mem_cons_self ..)).trans hr, h2, h3, h4, rfl, fun j hj => ?_⟩
      obtain ⟨q1, q2, q3⟩ := h6 j hj
      exact ⟨q1, q2, q3.keep fun k hkG => hk k (List.mem_cons_of_mem _ (List.mem_flatMap.2 ⟨j, List.mem_range.2 hj, hkG⟩))⟩
  | .cat a b, _, _, F, h, hk => by
    obtain ⟨ca, cb, Fa, Fb, e, e2, h1, h2⟩ := h
    subst e2
    exact ⟨ca, cb, Fa, Fb, e, rfl, h1.keep fun k h => hk k (List.mem_append_left _ h), h2.keep fun k h => hk k (List.mem_append_right _ h)⟩
theorem Ow.lt : ∀ {s : Sh} {cs : List Value} {d : Dat s} {F : List Nat}, Ow w s cs d F → ∀ k ∈ F, k < w.heap.size
  | .num, _, _, _, h, k, hk => by obtain ⟨_, e⟩ := h; rw [e] at hk; cases hk
  | .bit, _, _, _, h, k, hk => by obtain ⟨_, e⟩ := h; rw [e] at hk; cases hk
  | .row e s, _, _, F, h, k, hk => by
    obtain ⟨A, n, c, e1, hl, h1⟩ := h
    rcases h1 with ⟨_, _, _, h1⟩ | ⟨g, cur, E, G, e2, hr, h2, h3, h4, h5, h6⟩
    · rw [h1] at hk; cases hk
    · rw [h5] at hk
      rcases List.mem_cons.1 hk with hk | hk
      · rw [hk]; exact hr.lt
      · obtain ⟨j, hj, hk⟩ := List.mem_flatMap.1 hk
        exact (h6 j (List.mem_range.1 hj)).2.2.lt k hk
  | .cat a b, _, _, F, h, k, hk => by
    obtain ⟨ca, cb, Fa, Fb, e, e2, h1, h2⟩ := h
    rw [e2] at hk
    rcases List.mem_append.1 hk with hk | hk
    · exact h1.lt k hk
    · exact h2.lt k hk
theorem Ow.next {s : Sh} {cs : List Value} {d : Dat s} {F : List Nat} (h : Ow w s cs d F) (hb : Below w.heap.size w w') : Ow w' s cs d F := h.keep fun k hk => hb.block k (h.lt k hk)
theorem Ow.rd : ∀ {s : Sh} {cs : List Value} {d : Dat s} {F : List Nat}, Ow w s cs d F → Rd w w.heap.size s cs d
  | .num, _, _, _, h => h.1
  | .bit, _, _, _, h => h.1
  | .row e s, _, _, F, h => by
    obtain ⟨A, n, c, e1, hl, h1⟩ := h
    rcases h1 with ⟨rfl, rfl, rfl, _⟩ | ⟨g, cur, E, G, e2, hr, h2, h3, h4, h5, h6⟩
    · exact ⟨none, 0, 0, e1, ⟨by omega, by omega, fun _ => rfl⟩, hl, fun h => absurd h (by omega)⟩
    · refine ⟨A, n, c, e1, ⟨h2, h3, fun e => by rw [e] at e2; cases e2⟩, hl, fun hn => ⟨g, 0, e2, hr.lt, fun j hj => ?_⟩⟩
      obtain ⟨q1, q2, q3⟩ := h6 j hj
      refine ⟨E j, q1, fun i hi => ?_, q3.rd⟩
      rw [Nat.zero_add, hr.cell, q2 i (by omega)]
  | .cat a b, _, _, F, h => by
    obtain ⟨ca, cb, Fa, Fb, e, e2, h1, h2⟩ := h
    exact ⟨ca, cb, e, h1.rd, h2.rd⟩

/-! ### the call's own, in blocks from lo on and below hi -/
def Owned (w : World) (lo hi : Nat) (s : Sh) (cs : List Value) (d : Dat s) : Prop := ∃ F, Ow w s cs d F ∧ F.Nodup ∧ ∀ k ∈ F, lo ≤ k ∧ k < hi
variable {lo hi : Nat} {s : Sh} {cs : List Value} {d : Dat s}
theorem Owned.rd (h : Owned w lo hi s cs d) : Rd w w.heap.size s cs d := by obtain ⟨F, h, _⟩ := h; exact h.rd
theorem Owned.next (h : Owned w lo hi s cs d) (hb : Below w.heap.size w w') : Owned w' lo hi s cs d := by obtain ⟨F, h, h2⟩ := h; exact ⟨F, h.next hb, h2⟩
theorem Owned.drew (h : Owned w lo hi s cs d) : Owned w.drew lo hi s cs d := h.next (drew_below w)
theorem Owned.drewN (h : Owned w lo hi s cs d) (k : Nat) : Owned (w.drewN k) lo hi s cs d := h.next (drewN_below w k)
theorem Owned.wider {lo' hi' : Nat} (h : Owned w lo hi s cs d) (h1 : lo' ≤ lo) (h2 : hi ≤ hi') : Owned w lo' hi' s cs d := by
  obtain ⟨F, h, h3, h4⟩ := h
  exact ⟨F, h, h3, fun k hk => by have := h4 k hk; omega⟩
theorem Owned.btw {lo' hi' : Nat} (h : Owned w lo hi s cs d) (hb : Btw lo' hi' w w') (ho : hi ≤ lo' ∨ hi' ≤ lo) : Owned w' lo hi s cs d := by
  obtain ⟨F, h, h3, h4⟩ := h
  exact ⟨F, h.keep fun k hk => hb.block k (h.lt k hk) (by have := h4 k hk; omega), h3, h4⟩
theorem Owned.put {g i : Nat} {u : Value} (h : Owned w lo hi s cs d) (hg : g < lo ∨ hi ≤ g) : Owned (w.setCell ⟨g, i, none⟩ u) lo hi s cs d := by
  obtain ⟨F, h, h3, h4⟩ := h
  exact ⟨F, h.keep fun k hk => Below.heap_setCell w _ u k (by have := h4 k hk; show k ≠ g; omega), h3, h4⟩
theorem Owned.cat {mid mid' : Nat} {a b : Sh} {ca cb : List Value} {da : Dat a} {db : Dat b} (h1 : Owned w lo mid a ca da) (h2 : Owned w mid' hi b cb db) (hm : mid ≤ mid') (hl : lo ≤ mid') (hh : mid ≤ hi) : Owned w lo hi (.cat a b) (ca ++ cb) (da, db) := by
  obtain ⟨F, h1, n1, b1⟩ := h1
  obtain ⟨G, h2, n2, b2⟩ := h2
  refine ⟨F ++ G, ⟨ca, cb, F, G, rfl, rfl, h1, h2⟩, List.nodup_append.2 ⟨n1, n2, fun x hx y hy e => ?_⟩, fun k hk => ?_⟩
  · have := b1 x hx; have := b2 y hy; omega
  · rcases List.mem_append.1 hk with hk | hk
    · have := b1 k hk; omega
    · have := b2 k hk; omega
end

/-! ### slices of int64 -/
abbrev sI : Sh := .row 2 .num
section
variable {w w' : World} {B : Nat}
theorem rd_ints {v : Value} {xs : List Int} : Rd w B sI [v] xs ↔ ∃ A n c, v = .slice A n c ∧ Seg w B A n xs ∧ Cap A n c := by
  constructor
  · rintro ⟨A, n, c, e, hc, hl, h⟩
    refine ⟨A, n, c, by injection e, ⟨hl, fun hn => ?_⟩, hc⟩
    obtain ⟨b, off, e2, hb, h2⟩ := h hn
    refine ⟨b, off, e2, hb, fun j hj => ?_⟩
    obtain ⟨es, he, hp, hr⟩ := h2 j hj
    have hr : es = [.int .i64 (xs.getD j 0)] := hr
    have := hp 0 (by rw [hr]; simp)
    rw [hr] at this
    simpa [nc] using this
  · rintro ⟨A, n, c, rfl, h, hc⟩
    refine ⟨A, n, c, rfl, hc, h.1, fun hn => ?_⟩
    obtain ⟨b, off, e2, hb, h2⟩ := h.2 hn
    refine ⟨b, off, e2, hb, fun j hj => ⟨[.int .i64 (xs.getD j 0)], rfl, fun i hi => ?_, rfl⟩⟩
    have hi : i = 0 := by simpa using hi
    subst hi
    simpa [nc] using h2 j hj
theorem Rd.seg {A : Option Addr} {n c : Nat} {xs : List Int} (h : Rd w B sI [.slice A n c] xs) : Seg w B A n xs := by
  obtain ⟨A', n', c', e, h, _⟩ := rd_ints.1 h
  injection e with e1 e2 e3
  subst e1 e2
  exact h
theorem ow_ints {lo hi : Nat} {A : Option Addr} {n c : Nat} {xs : List Int} : Owned w lo hi sI [.slice A n c] xs ↔ Ownd w lo hi A n c xs := by
  constructor
  · rintro ⟨F, ⟨A', n', c', e, hl, h⟩, _, hb⟩
    injection e with e
    injection e with e1 e2 e3
    subst e1 e2 e3
    rcases h with ⟨rfl, rfl, rfl, rfl⟩ | ⟨g, cur, E, G, rfl, hr, h2, h3, h4, rfl, h6⟩
    · have hx : xs = [] := List.eq_nil_of_length_eq_zero hl
      subst hx
      exact ⟨Own.nil _ _, fun k hk => by cases hk⟩
    · have hg := hb g (List.mem_cons_self ..)
      refine ⟨Own.of_row hr hl (by simpa [nc] using h4) h2 h3 hg.1 fun j hj => ?_, fun k hk => by have : g = k := Option.some.inj hk; omega⟩
      obtain ⟨q1, q2, q3⟩ := h6 j hj
      have q3 : E j = [.int .i64 (xs.getD j 0)] := q3.1
      have := q2 0 (by simp [nc])
      rw [q3] at this
      simpa [nc] using this
  · rintro ⟨ho, hb⟩
    have hl := Own.len ho
    rcases own_form (n := n) (vs := xs.map (Value.int .i64)) (by rw [hl]; rw [hl] at ho; exact ho) with ⟨rfl, h1, rfl, _⟩ | ⟨g, cur, rfl, hlo, hr, h1, h2, h3, _, h5⟩
    · subst h1
      exact ⟨[], ⟨none, 0, 0, rfl, hl.symm, .inl ⟨rfl, rfl, rfl, rfl⟩⟩, List.nodup_nil, fun k hk => by cases hk⟩
    · have hg := hb g rfl
      refine ⟨[g], ⟨some ⟨g, 0, none⟩, n, c, rfl, hl.symm, .inr ⟨g, cur, fun j => [.int .i64 (xs.getD j 0)], fun _ => [], rfl, hr, h1, h3, by simp [nc, h2], ?_, fun j hj => ⟨rfl, fun i hi => ?_, rfl, rfl⟩⟩⟩, by simp, fun k hk => ?_⟩
      · have : ∀ l : List Nat, l.flatMap (fun _ => ([] : List Nat)) = [] := fun l => by induction l <;> simp_all
        rw [this]
      · have hi : i = 0 := by simpa [nc] using hi
        subst hi
        have := h5 j hj
        simp only [nc, Nat.mul_one, Nat.add_zero]
        rw [this]
        have hj' : j < xs.length := by omega
        simp [List.getD, hj']
      · rw [List.mem_singleton.1 hk]; exact ⟨hlo, hg⟩
end

/-! ### how many numbers -/
def sz : (s : Sh) → Dat s → Nat
  | .num, _ => 0
  | .bit, _ => 0
  | .row _ s, (d : List (Dat s)) => d.length + (d.map (sz s)).sum
  | .cat a b, d => sz a d.1 + sz b d.2
/-- the first k elements of a slice -/
def szs (s : Sh) (d : List (Dat s)) (k : Nat) : Nat := ((d.take k).map (sz s)).sum
theorem szs_succ {s : Sh} {d : List (Dat s)} {k : Nat} (h : k < d.length) : szs s d (k + 1) = szs s d k + sz s (d.getD k (dft s)) := by
  unfold szs
  rw [List.take_succ_eq_append_getElem h, List.map_append, List.sum_append]
  simp [List.getD, h]
theorem szs_mono {s : Sh} {d : List (Dat s)} : ∀ {k m : Nat}, k ≤ m → m ≤ d.length → szs s d k ≤ szs s d m
  | k, 0, h, _ => by rw [show k = 0 by omega]; exact Nat.le_refl _
  | k, m + 1, h, hm => by
    by_cases e : k = m + 1
    · rw [e]; exact Nat.le_refl _
    · have := szs_mono (d := d) (show k ≤ m by omega) (by omega)
      rw [szs_succ (by omega)]
      omega
theorem szs_all {s : Sh} {d : List (Dat s)} {n : Nat} (h : d.length = n) : szs s d n = (d.map (sz s)).sum := by unfold szs; rw [List.take_of_length_le (by omega)]
theorem sz_row {e : TypeId} {s : Sh} {d : List (Dat s)} : sz (.row e s) d = d.length + szs s d d.length := by rw [szs_all rfl]; rfl
theorem sz_each {e : TypeId} {s : Sh} {d : List (Dat s)} {L : Nat} (h : sz (.row e s) d ≤ L) {j : Nat} (hj : j < d.length) : sz s (d.getD j (dft s)) ≤ L := by
  have h1 := szs_succ hj
  have h2 := szs_mono (d := d) (show j + 1 ≤ d.length by omega) (Nat.le_refl _)
  rw [sz_row] at h
  omega
theorem sz_len {e : TypeId} {s : Sh} {d : List (Dat s)} {L : Nat} (h : sz (.row e s) d ≤ L) : d.length ≤ L := by rw [sz_row] at h; omega
theorem sz_ints (xs : List Int) : sz sI xs = xs.length := by
  have : ∀ l : List Int, (l.map (sz .num)).sum = 0 := fun l => by induction l <;> simp_all [sz]
  show xs.length + (xs.map (sz .num)).sum = _
  rw [this]; rfl

/-! ### marks -/
/-- how many numbers are marked in cells -/
def cnt : (s : Sh) → Dat s → Nat
  | .num, _ => 1
  | .bit, _ => 1
  | .row _ s, (d : List (Dat s)) => (d.map (cnt s)).sum
  | .cat a b, d => cnt a d.1 + cnt b d.2
/-- how many are marked behind a value -/
def cntv : (s : Sh) → Dat s → Nat
  | .num, _ => 0
  | .bit, _ => 0
  | .row _ s, (d : List (Dat s)) => (d.map (cnt s)).sum
  | .cat a b, d => cntv a d.1 + cntv b d.2
def cnts (s : Sh) (d : List (Dat s)) (k : Nat) : Nat := ((d.take k).map (cnt s)).sum
theorem cnts_succ {s : Sh} {d : List (Dat s)} {k : Nat} (h : k < d.length) : cnts s d (k + 1) = cnts s d k + cnt s (d.getD k (dft s)) := by
  unfold cnts
  rw [List.take_succ_eq_append_getElem h, List.map_append, List.sum_append]
  simp [List.getD, h]
theorem cnts_zero {s : Sh} {d : List (Dat s)} : cnts s d 0 = 0 := rfl
theorem cnts_mono {s : Sh} {d : List (Dat s)} : ∀ {k m : Nat}, k ≤ m → m ≤ d.length → cnts s d k ≤ cnts s d m
  | k, 0, h, _ => by rw [show k = 0 by omega]; exact Nat.le_refl _
  | k, m + 1, h, hm => by
    by_cases e : k = m + 1
    · rw [e]; exact Nat.le_refl _
    · have := cnts_mono (d := d) (show k ≤ m by omega) (by omega)
      rw [cnts_succ (by omega)]
      omega
theorem cnts_all {s : Sh} {d : List (Dat s)} {n : Nat} (h : d.length = n) : cnts s d n = (d.map (cnt s)).sum := by unfold cnts; rw [List.take_of_length_le (by omega)]
def mkc : (s : Sh) → Int → Dat s → Dat s
  | .num, k, _ => k
  | .bit, k, _ => decide (k % 3 = 0)
  | .row _ s, k, (d : List (Dat s)) => (List.range d.length).map fun j => mkc s (k + (cnts s d j : Int)) (d.getD j (dft s))
  | .cat a b, k, d => (mkc a k d.1, mkc b (k + (cnt a d.1 : Int)) d.2)
def mkv : (s : Sh) → Int → Dat s → Dat s
  | .num, _, d => d
  | .bit, _, d => d
  | .row _ s, k, (d : List (Dat s)) => (List.range d.length).map fun j => mkc s (k + (cnts s d j : Int)) (d.getD j (dft s))
  | .cat a b, k, d => (mkv a k d.1, mkv b (k + (cntv a d.1 : Int)) d.2)
theorem mk_len {e : TypeId} {s : Sh} {k : Int} {d : List (Dat s)} : List.length (mkv (.row e s) k d : List (Dat s)) = d.length := by
  show ((List.range d.length).map _).length = _
  simp
theorem mk_get {e : TypeId} {s : Sh} {k : Int} {d : List (Dat s)} {j : Nat} (h : j < d.length) : (mkv (.row e s) k d : List (Dat s)).getD j (dft s) = mkc s (k + (cnts s d j : Int)) (d.getD j (dft s)) := by
  show ((List.range d.length).map _).getD j _ = _
  simp [List.getD, h]
theorem cnt_ints : ∀ xs : List Int, (xs.map (cnt .num)).sum = xs.length
  | [] => rfl
  | x :: xs => by rw [List.map_cons, List.sum_cons, cnt_ints xs, List.length_cons]; show 1 + xs.length = _; omega
theorem cnts_ints (xs : List Int) {j : Nat} (h : j ≤ xs.length) : cnts .num xs j = j := by
  unfold cnts
  rw [cnt_ints, List.length_take]
  omega
theorem mk_ints (k : Int) (xs : List Int) : mkv sI k xs = marks k xs.length := by
  show (List.range xs.length).map _ = (List.range xs.length).map _
  refine List.map_congr_left fun j hj => ?_
  show k + ((cnts .num xs j : Nat) : Int) = k + (j : Int)
  rw [cnts_ints xs (Nat.le_of_lt (List.mem_range.1 hj))]
/-- how many fields at most -/
def wd : Sh → Nat
  | .num => 1
  | .bit => 1
  | .row _ s => wd s
  | .cat a b => wd a + wd b
theorem sum_le {α : Type} {f g : α → Nat} {C : Nat} : ∀ {l : List α}, (∀ x ∈ l, f x ≤ C * (1 + g x)) → (l.map f).sum ≤ C * (l.length + (l.map g).sum)
  | [], _ => Nat.zero_le _
  | x :: l, h => by
    have h1 := h x (List.mem_cons_self ..)
    have h2 := sum_le (l := l) fun y hy => h y (List.mem_cons_of_mem _ hy)
    simp only [List.map_cons, List.sum_cons, List.length_cons]
    have e : C * (l.length + 1 + (g x + (l.map g).sum)) = C * (1 + g x) + C * (l.length + (l.map g).sum) := by rw [← Nat.mul_add]; congr 1; omega
    omega
theorem cnt_le : ∀ (s : Sh) (d : Dat s), cnt s d ≤ wd s * (1 + sz s d)
  | .num, _ => by simp [cnt, wd]
  | .bit, _ => by simp [cnt, wd]
  | .row _ s, (d : List (Dat s)) => by
    have h := sum_le (f := cnt s) (g := sz s) (C := wd s) (l := d) fun x _ => cnt_le s x
    show (d.map (cnt s)).sum ≤ wd s * (1 + (d.length + (d.map (sz s)).sum))
    have : wd s * (d.length + (d.map (sz s)).sum) ≤ wd s * (1 + (d.length + (d.map (sz s)).sum)) := Nat.mul_le_mul_left _ (by omega)
    omega
  | .cat a b, d => by
    have h1 := cnt_le a d.1
    have h2 := cnt_le b d.2
    show cnt a d.1 + cnt b d.2 ≤ (wd a + wd b) * (1 + (sz a d.1 + sz b d.2))
    have h3 : wd a * (1 + sz a d.1) ≤ wd a * (1 + (sz a d.1 + sz b d.2)) := Nat.mul_le_mul_left _ (by omega)
    have h4 : wd b * (1 + sz b d.2) ≤ wd b * (1 + (sz a d.1 + sz b d.2)) := Nat.mul_le_mul_left _ (by omega)
    rw [Nat.add_mul]
    omega
theorem cntv_le : ∀ (s : Sh) (d : Dat s), cntv s d ≤ wd s * sz s d
  | .num, _ => Nat.zero_le _
  | .bit, _ => Nat.zero_le _
  | .row _ s, (d : List (Dat s)) => sum_le (f := cnt s) (g := sz s) (C := wd s) (l := d) fun x _ => cnt_le s x
  | .cat a b, d => by
    have h1 := cntv_le a d.1
    have h2 := cntv_le b d.2
    show cntv a d.1 + cntv b d.2 ≤ (wd a + wd b) * (sz a d.1 + sz b d.2)
    have h3 : wd a * sz a d.1 ≤ wd a * (sz a d.1 + sz b d.2) := Nat.mul_le_mul_left _ (by omega)
    have h4 : wd b * sz b d.2 ≤ wd b * (sz a d.1 + sz b d.2) := Nat.mul_le_mul_left _ (by omega)
    rw [Nat.add_mul]
    omega
end Go.Proofs.YtmaamlnooepogaaGreat.shape
end

section
/-
  SHAPES, the steps of the laws' helpers: an element of a slice, a slice that is being copied, an element that turns, the forms of the contracts. Conditions: none; plain lemmas. By an AI agent.
-/
namespace Go.Proofs.YtmaamlnooepogaaGreat.shape
open Go.RowKit Go.Proofs.YtmaamlnooepogaaGreat.base Go.Proofs.YtmaamlnooepogaaGreat.ints Go.Proofs.YtmaamlnooepogaaGreat.sig Go.Proofs.YtmaamlnooepogaaGreat.cursor Go.Proofs.YtmaamlnooepogaaGreat.marks Go.Proofs.YtmaamlnooepogaaGreat.app Go.Proofs.YtmaamlnooepogaaGreat.sym Go.Proofs.YtmaamlnooepogaaGreat.appAt Go.Proofs.YtmaamlnooepogaaGreat.segs Go.Proofs.YtmaamlnooepogaaGreat.segsHelp Go.Proofs.YtmaamlnooepogaaGreat.segsMark Go.Proofs.YtmaamlnooepogaaGreat.kinds

/-- only the blocks F, and what is new, have turned -/
structure Only (F : List Nat) (w w' : World) : Prop where
  os : w'.os = w.os
  tape : w'.tape = w.tape
  output : w'.output = w.output
  size : w.heap.size ≤ w'.heap.size
  block : ∀ k, k < w.heap.size → k ∉ F → w'.heap[k]? = w.heap[k]?
section
variable {w w' w2 : World} {B : Nat} {s : Sh} {e : TypeId} {v : Value} {F G : List Nat}
theorem Only.refl (F : List Nat) (w : World) : Only F w w := ⟨rfl, rfl, rfl, Nat.le_refl _, fun _ _ _ => rfl⟩
theorem Only.of_below (h : Below w.heap.size w w') : Only F w w' := ⟨h.os, h.tape, h.output, h.size, fun k hk _ => h.block k hk⟩
theorem Only.trans (h : Only F w w') (k : Only F w' w2) : Only F w w2 :=
  ⟨k.os.trans h.os, k.tape.trans h.tape, k.output.trans h.output, Nat.le_trans h.size k.size, fun i hi ho => (k.block i (Nat.lt_of_lt_of_le hi h.size) ho).trans (h.block i hi ho)⟩
theorem Only.wider (h : Only F w w') (hF : ∀ k ∈ F, k ∈ G) : Only G w w' := ⟨h.os, h.tape, h.output, h.size, fun k hk ho => h.block k hk fun hk2 => ho (hF k hk2)⟩
theorem Only.btw {lo hi : Nat} (h : Only F w w') (hF : ∀ k ∈ F, lo ≤ k ∧ k < hi) : Btw lo hi w w' := ⟨h.os, h.tape, h.output, h.size, fun k hk ho => h.block k hk fun hk2 => by have := hF k hk2; omega⟩
theorem Only.put {g i : Nat} {u : Value} (hg : g ∈ F) : Only F w (w.setCell ⟨g, i, none⟩ u) :=
  ⟨rfl, rfl, rfl, by simp, fun k _ hk => Below.heap_setCell w _ u k (fun e => by
    have e : k = g := e
    rw [e] at hk
    exact hk hg)⟩
theorem Ow.only {cs : List Value} {d : Dat s} (h : Ow w s cs d F) (ho : Only G w w') (hd : ∀ k ∈ F, k ∉ G) : Ow w' s cs d F := h.keep fun k hk => ho.block k (h.lt k hk) (hd k hk)

/-- an element of a slice -/
theorem Rd.elem {D : List (Dat s)} {j : Nat} (h : Rd w B (.row e s) [v] D) (hj : j < D.length) : ∃ b off n c es, v = .slice (some ⟨b, off, none⟩) n c ∧ D.length = n ∧ n ≤ c ∧ b < B ∧ es.length = nc s ∧ Piece w b (off + j * nc s) es ∧ Rd w B s es (D.getD j (dft s)) := by
  obtain ⟨A, n, c, e1, hc, hl, h1⟩ := h
  injection e1 with e1
  subst hl
  obtain ⟨b, off, e2, hb, h2⟩ := h1 (by omega)
  obtain ⟨es, he, hp, hr⟩ := h2 j hj
  exact ⟨b, off, _, c, es, by rw [e1, e2], rfl, hc.1, hb, he, hp, hr⟩
theorem Rd.slice {D : List (Dat s)} (h : Rd w B (.row e s) [v] D) : ∃ A c, v = .slice A D.length c ∧ Cap A D.length c := by
  obtain ⟨A, n, c, e1, hc, hl, h1⟩ := h
  injection e1 with e1
  subst hl
  exact ⟨A, c, e1, hc⟩
theorem rd_cat {a b : Sh} {cs : List Value} {x : Dat a} {y : Dat b} (h : Rd w B (.cat a b) cs (x, y)) : ∃ ca cb, cs = ca ++ cb ∧ ca.length = nc a ∧ cb.length = nc b ∧ Rd w B a ca x ∧ Rd w B b cb y := by
  obtain ⟨ca, cb, e, h1, h2⟩ := h
  exact ⟨ca, cb, e, h1.len, h2.len, h1, h2⟩
theorem ow_cat {a b : Sh} {cs : List Value} {d : Dat (.cat a b)} (h : Ow w (.cat a b) cs d F) : ∃ ca cb Fa Fb, cs = ca ++ cb ∧ F = Fa ++ Fb ∧ ca.length = nc a ∧ cb.length = nc b ∧ Ow w a ca d.1 Fa ∧ Ow w b cb d.2 Fb := by
  obtain ⟨ca, cb, Fa, Fb, e, e2, h1, h2⟩ := h
  exact ⟨ca, cb, Fa, Fb, e, e2, h1.len, h2.len, h1, h2⟩

theorem nodup_flat {G : Nat → List Nat} {n : Nat} (h : ((List.range n).flatMap G).Nodup) {i j : Nat} (hi : i < n) (hj : j < n) (hne : i ≠ j) {k : Nat} (hk : k ∈ G i) : k ∉ G j := by
  induction n with
  | zero => omega
  | succ n ih =>
    rw [List.range_succ, List.flatMap_append, List.nodup_append] at h
    obtain ⟨h1, _, h3⟩ := h
    intro hk2
    by_cases e1 : i = n
    · subst e1
      exact h3 k (List.mem_flatMap.2 ⟨j, List.mem_range.2 (by omega), hk2⟩) k (by simpa using hk) rfl
    · by_cases e2 : j = n
      · subst e2
        exact h3 k (List.mem_flatMap.2 ⟨i, List.mem_range.2 (by omega), hk⟩) k (by simpa using hk2) rfl
      · exact ih h1 (by omega) (by omega) hk2
theorem nodup_part {G : Nat → List Nat} {n : Nat} (h : ((List.range n).flatMap G).Nodup) {j : Nat} (hj : j < n) : (G j).Nodup := by
  induction n with
  | zero => omega
  | succ n ih =>
    rw [List.range_succ, List.flatMap_append, List.nodup_append] at h
    obtain ⟨h1, h2, h3⟩ := h
    by_cases e : j = n
    · subst e; simpa using h2
    · exact ih h1 (by omega)

/-- an element of a slice of the call's own, and what becomes of the slice when the element turns -/
theorem Ow.elem {D : List (Dat s)} {j : Nat} (h : Ow w (.row e s) [v] D F) (hF : F.Nodup) (hj : j < D.length) :
    ∃ g n c es Gj, v = .slice (some ⟨g, 0, none⟩) n c ∧ D.length = n ∧ es.length = nc s ∧ Piece w g (j * nc s) es ∧ (∀ i, w.frozen? ⟨g, i, none⟩ = false) ∧ Ow w s es (D.getD j (dft s)) Gj ∧ g ∈ F ∧ Gj.Nodup ∧ g ∉ Gj ∧ (∀ k ∈ Gj, k ∈ F) ∧
      ∀ (w2 : World) (es2 : List Value) (d2 : Dat s), es2.length = nc s → Piece w2 g (j * nc s) es2 → Ow w2 s es2 d2 Gj → Only (g :: Gj) w w2 →
        (∀ cur, Row w g e cur → ∃ cur2, Row w2 g e cur2 ∧ cur2.size = cur.size ∧ ∀ q, (q < j * nc s ∨ j * nc s + nc s ≤ q) → cur2[q]? = cur[q]?) → Ow w2 (.row e s) [v] (D.set j d2) F := by
  obtain ⟨A, n, c, e1, hl, h1⟩ := h
  injection e1 with e1
  rcases h1 with ⟨_, e2, _⟩ | ⟨g, cur, E, G, e2, hr, h2, h3, h4, h5, h6⟩
  · omega
  subst e1 e2 h5
  rw [List.nodup_cons] at hF
  obtain ⟨q1, q2, q3⟩ := h6 j (by omega)
  refine ⟨g, n, c, E j, G j, rfl, hl, q1, fun i hi => by rw [hr.cell]; exact q2 i (by omega), fun i => hr.free i, q3, List.mem_cons_self .., nodup_part hF.2 (by omega), fun hg => hF.1 (List.mem_flatMap.2 ⟨j, List.mem_range.2 (by omega), hg⟩),
    fun k hk => List.mem_cons_of_mem _ (List.mem_flatMap.2 ⟨j, List.mem_range.2 (by omega), hk⟩), fun w2 es2 d2 hl2 hp2 ho2 hon hcur => ?_⟩
  obtain ⟨cur2, hr2, hs2, hc2⟩ := hcur cur hr
  refine ⟨_, n, c, rfl, by simpa using hl, .inr ⟨g, cur2, fun i => if i = j then es2 else E i, G, rfl, hr2, h2, h3, by rw [hs2]; exact h4, rfl, fun i hi => ?_⟩⟩
  by_cases ei : i = j
  · subst ei
    dsimp only
    rw [if_pos rfl]
    refine ⟨hl2, fun q hq => by rw [← hr2.cell, hp2 q (by omega)], ?_⟩
    have : (D.set i d2).getD i (dft s) = d2 := by simp [List.getD, hj]
    rw [this]; exact ho2
  · dsimp only
    rw [if_neg ei]
    obtain ⟨p1, p2, p3⟩ := h6 i hi
    refine ⟨p1, fun q hq => ?_, ?_⟩
    · have : i * nc s + q < j * nc s ∨ j * nc s + nc s ≤ i * nc s + q := by
        rcases Nat.lt_or_ge i j with h | h
        · left
          have := Nat.mul_le_mul_right (nc s) (show i + 1 ≤ j by omega)
          rw [Nat.add_mul] at this
          omega
        · right
          have := Nat.mul_le_mul_right (nc s) (show j + 1 ≤ i by omega)
          rw [Nat.add_mul] at this
          omega
      rw [hc2 _ this]
      exact p2 q hq
    · have : (D.set j d2).getD i (dft s) = D.getD i (dft s) := by simp [List.getD, List.getElem?_set_ne (show j ≠ i by omega)]
      rw [this]
      refine p3.only hon fun k hk hk2 => ?_
      rcases List.mem_cons.1 hk2 with hk2 | hk2
      · subst hk2
        exact hF.1 (List.mem_flatMap.2 ⟨i, List.mem_range.2 hi, hk⟩)
      · exact nodup_flat hF.2 hi (by omega) ei hk hk2
/-- the same where the element's own cells stay -/
theorem Ow.elem' {D : List (Dat s)} {j : Nat} (h : Ow w (.row e s) [v] D F) (hF : F.Nodup) (hj : j < D.length) :
    ∃ g n c es Gj, v = .slice (some ⟨g, 0, none⟩) n c ∧ D.length = n ∧ es.length = nc s ∧ Piece w g (j * nc s) es ∧ g < w.heap.size ∧ Ow w s es (D.getD j (dft s)) Gj ∧ Gj.Nodup ∧ g ∉ Gj ∧ (∀ k ∈ Gj, k ∈ F) ∧
      ∀ (w2 : World) (d2 : Dat s), Ow w2 s es d2 Gj → Only Gj w w2 → Ow w2 (.row e s) [v] (D.set j d2) F := by
  obtain ⟨g, n, c, es, Gj, h1, h2, h3, h4, h5, h6, h7, h8, h9, h10, h11⟩ := h.elem hF hj
  have hg := h.lt g h7
  refine ⟨g, n, c, es, Gj, h1, h2, h3, h4, hg, h6, h8, h9, h10, fun w2 d2 ho hon => h11 w2 es d2 h3 (h4.keep fun p hp => ?_) ho (hon.wider fun k hk => List.mem_cons_of_mem _ hk) fun cur hr => ⟨cur, (hon.block g hg h9).trans hr, rfl, fun _ _ => rfl⟩⟩
  exact World.cell?_of_block (by rw [hp]; exact hon.block g hg h9)

/-! ### the contracts' forms -/
def Copy1 (w : World) (s : Sh) (d : Dat s) (e : Ending) (w' : World) : Prop := ∃ A n c, e = .returned (.slice A n c) ∧ Owned w' w.heap.size w'.heap.size s [.slice A n c] d ∧ Below w.heap.size w w'
def AnsSzK (w : World) (left : Int) (t : Nat) (e : Ending) (w' : World) : Prop := e = .returned (.int .i64 (if left - t < 0 then -1 else left - t)) ∧ Below w.heap.size w w'
def Yes (w : World) (e : Ending) (w' : World) : Prop := e = .returned (.bool true) ∧ Below w.heap.size w w'
def AnsMarkF (w : World) (s : Sh) (cs : List Value) (d : Dat s) (k : Int) (F : List Nat) (e : Ending) (w' : World) : Prop := e = .returned (.int .i64 (k + (cntv s d : Int))) ∧ Ow w' s cs (mkv s k d) F ∧ Only F w w'
def AnsHeld (w : World) (z : Int) (e : Ending) (w' : World) : Prop := e = .returned (.int .i64 z) ∧ Below w.heap.size w w'

/-! ### slices of int64 -/
theorem szK_ints (v : Value) (xs : List Int) (left : Int) (w : World) (h : Rd w w.heap.size sI [v] xs) (h0 : 0 ≤ left) (h1 : left ≤ 1048576) :
    Calls Tryz.prog 67 #[v, .int .i64 left] w (AnsSzK w left (sz sI xs)) := by
  obtain ⟨A, n, c, rfl, hs, hc⟩ := rd_ints.1 h
  rw [sz_ints, hs.1]
  exact (szInts A n c left w (Nat.le_trans hc.1 hc.2.1) h0 h1).mono fun _ _ ⟨e1, e2⟩ => ⟨e2, e1 ▸ Below.refl _ _⟩
theorem toK_ints (v : Value) (xs : List Int) (w : World) (h : Rd w w.heap.size sI [v] xs) (hz : sz sI xs ≤ 1048576) :
    Calls Tryz.prog 72 #[v] w (Copy1 w sI xs) := by
  obtain ⟨A, n, c, rfl, hs, hc⟩ := rd_ints.1 h
  rw [sz_ints, hs.1] at hz
  exact (intsTo A n c xs w hs hz).mono fun _ _ ⟨g, e, ho, _, hb⟩ => ⟨_, _, _, e, ow_ints.2 ho, hb⟩
theorem eqK_ints (v v' : Value) (xs : List Int) (w : World) (h : Rd w w.heap.size sI [v] xs) (h' : Rd w w.heap.size sI [v'] xs) (hz : sz sI xs ≤ 1048576) :
    Calls Tryz.prog 75 #[v, v'] w (Yes w) := by
  obtain ⟨A, n, c, rfl, hs, hc⟩ := rd_ints.1 h
  obtain ⟨A', n', c', rfl, hs', hc'⟩ := rd_ints.1 h'
  rw [sz_ints, hs.1] at hz
  exact intsEq A A' n n' c c' xs w hs hs' hz
theorem ow_ints' {w : World} {A : Option Addr} {n c : Nat} {xs : List Int} {F : List Nat} (h : Ow w sI [.slice A n c] xs F) : Own w 0 (.slice A n c) xs ∧ ((blk A = none ∧ F = []) ∨ ∃ g, blk A = some g ∧ F = [g]) := by
  have h0 := h
  obtain ⟨A', n', c', e, hl, h⟩ := h
  injection e with e
  injection e with e1 e2 e3
  subst e1 e2 e3
  rcases h with ⟨rfl, rfl, rfl, rfl⟩ | ⟨g, cur, E, G, rfl, hr, h2, h3, h4, rfl, h6⟩
  · have hx : xs = [] := List.eq_nil_of_length_eq_zero hl
    subst hx
    exact ⟨Own.nil _ _, .inl ⟨rfl, rfl⟩⟩
  · have hG : (List.range n).flatMap G = [] := List.eq_nil_iff_forall_not_mem.2 fun k hk => by
      obtain ⟨j, hj, hk⟩ := List.mem_flatMap.1 hk
      have q3 := (h6 j (List.mem_range.1 hj)).2.2
      have q3 : _ ∧ G j = [] := q3
      rw [q3.2] at hk
      cases hk
    rw [hG] at h0 ⊢
    exact ⟨(ow_ints.1 ⟨[g], h0, by simp, fun k hk => ⟨Nat.zero_le _, h0.lt k hk⟩⟩ : Ownd w 0 w.heap.size _ _ _ _).1, .inr ⟨g, rfl, rfl⟩⟩
theorem ow_of {w : World} {A : Option Addr} {n c : Nat} {xs : List Int} {F : List Nat} (h : Own w 0 (.slice A n c) xs) (hF : (blk A = none ∧ F = []) ∨ ∃ g, blk A = some g ∧ F = [g]) : Ow w sI [.slice A n c] xs F := by
  obtain ⟨F', h1, _, _⟩ := (ow_ints (w := w) (lo := 0) (hi := w.heap.size)).2 (Ownd.of_own h)
  have h2 := (ow_ints' h1).2
  rcases hF with ⟨e1, rfl⟩ | ⟨g, e1, rfl⟩
  · rcases h2 with ⟨_, rfl⟩ | ⟨g, e2, _⟩
    · exact h1
    · rw [e1] at e2; cases e2
  · rcases h2 with ⟨e2, _⟩ | ⟨g', e2, rfl⟩
    · rw [e1] at e2; cases e2
    · rw [e1] at e2; injection e2 with e2; subst e2; exact h1
theorem markK_ints (v : Value) (xs : List Int) (k : Int) (F : List Nat) (w : World) (h : Ow w sI [v] xs F) (hz : sz sI xs ≤ 1048576) (hk0 : 0 ≤ k) (hk : k ≤ 1099511627776) :
    Calls Tryz.prog 82 #[v, .int .i64 k] w (AnsMarkF w sI [v] xs k F) := by
  obtain ⟨A, n, c, rfl, hs, hc⟩ := rd_ints.1 h.rd
  rw [sz_ints, hs.1] at hz
  obtain ⟨ho, hF⟩ := ow_ints' h
  refine (markOwn 0 A n c xs k w ho hz hk0 hk).mono fun _ _ ⟨e, hg, ho2⟩ => ⟨?_, ?_, ?_⟩
  · rw [e]
    have : cntv sI xs = n := by rw [← hs.1]; exact cnt_ints xs
    rw [this]
  · rw [mk_ints, hs.1]
    exact ow_of ho2 hF
  · rcases hF with ⟨e1, rfl⟩ | ⟨g, e1, rfl⟩
    · rw [e1] at hg
      exact ⟨hg.os, hg.tape, hg.output, hg.size, fun k hk _ => hg.block k hk (by simp)⟩
    · rw [e1] at hg
      exact ⟨hg.os, hg.tape, hg.output, hg.size, fun k hk hn => hg.block k hk (fun e => hn (by injection e with e; rw [e]; simp))⟩
theorem heldK_ints (v : Value) (xs : List Int) (k : Int) (w : World) (h : Rd w w.heap.size sI [v] (mkv sI k xs)) (hz : sz sI xs ≤ 1048576) (hk0 : 0 ≤ k) (hk : k ≤ 1099511627776) :
    Calls Tryz.prog 85 #[v, .int .i64 k] w (AnsHeld w (k + (cntv sI xs : Int))) := by
  rw [mk_ints] at h
  obtain ⟨A, n, c, rfl, hs, hc⟩ := rd_ints.1 h
  have hl : n = xs.length := by rw [← hs.1, marks_len]
  subst hl
  rw [sz_ints] at hz
  have : cntv sI xs = xs.length := cnt_ints xs
  rw [this]
  exact (heldInts A _ c k w hs hz hk0 (by omega)).mono fun _ _ ⟨e1, e2⟩ => ⟨e2, e1 ▸ Below.refl _ _⟩
end

/-! ### a slice that is being copied: its first k elements are there -/
section
variable {s : Sh} {e : TypeId}
def HeadCp (w : World) (e : TypeId) (s : Sh) (n : Nat) (D : List (Dat s)) (i : Value) (wr : World) : Prop :=
  ∃ (k : Nat) (cs : Array Value) (E : Nat → List Value) (G : Nat → List Nat), k ≤ n ∧ i = .int .i64 k ∧ Row wr w.heap.size e cs ∧ cs.size = n * nc s ∧ ((List.range k).flatMap G).Nodup ∧
    (∀ j, j < k → (E j).length = nc s ∧ (∀ i, i < nc s → cs[j * nc s + i]? = (E j)[i]?) ∧ Ow wr s (E j) (D.getD j (dft s)) (G j) ∧ ∀ q ∈ G j, w.heap.size < q) ∧ Below w.heap.size w wr
theorem headCp_zero {w : World} {n : Nat} {D : List (Dat s)} {cs : Array Value} (hs : cs.size = n * nc s) : HeadCp w e s n D (.int .i64 0) (w.alloc (.cells cs e)) :=
  ⟨0, cs, fun _ => [], fun _ => [], Nat.zero_le _, rfl, Row.new _ _ _, hs, by simp, fun j hj => absurd hj (Nat.not_lt_zero _), (Below.refl _ _).alloc (Nat.le_refl _) _⟩
/-- the cells es are laid into block g from off on -/
def putAll (w : World) (g : Nat) : Nat → List Value → World
  | _, [] => w
  | off, u :: r => putAll (w.setCell ⟨g, off, none⟩ u) g (off + 1) r
def rowPut (cs : Array Value) : Nat → List Value → Array Value
  | _, [] => cs
  | off, u :: r => rowPut (cs.setIfInBounds off u) (off + 1) r
theorem rowPut_size : ∀ {es : List Value} {cs : Array Value} {off : Nat}, (rowPut cs off es).size = cs.size
  | [], _, _ => rfl
  | u :: r, cs, off => by rw [rowPut, rowPut_size]; simp
theorem rowPut_get : ∀ {es : List Value} {cs : Array Value} {off q : Nat}, off + es.length ≤ cs.size → (rowPut cs off es)[q]? = if off ≤ q ∧ q < off + es.length then es[q - off]? else cs[q]?
  | [], cs, off, q, _ => by rw [rowPut, if_neg (by simp only [List.length_nil]; omega)]
  | u :: r, cs, off, q, h => by
    simp only [List.length_cons] at h
    rw [rowPut, rowPut_get (by simp; omega)]
    simp only [List.length_cons]
    by_cases e1 : q = off
    · subst e1
      rw [if_neg (by omega), if_pos (by omega), Array.getElem?_setIfInBounds, if_pos rfl, if_pos (by omega)]
      simp
    · by_cases e2 : off ≤ q ∧ q < off + (r.length + 1)
      · rw [if_pos (by omega), if_pos e2]
        obtain ⟨m, rfl⟩ : ∃ m, q = off + 1 + m := ⟨q - off - 1, by omega⟩
        rw [show off + 1 + m - (off + 1) = m by omega, show off + 1 + m - off = m + 1 by omega, List.getElem?_cons_succ]
      · rw [if_neg (by omega), if_neg e2, Array.getElem?_setIfInBounds, if_neg (by omega)]
theorem putAll_row {g : Nat} {t : TypeId} : ∀ {es : List Value} {w : World} {cs : Array Value} {off : Nat}, Row w g t cs → Row (putAll w g off es) g t (rowPut cs off es)
  | [], _, _, _, h => h
  | u :: r, w, cs, off, h => by rw [putAll, rowPut]; exact putAll_row (h.put off u)
theorem putAll_keep {g : Nat} : ∀ {es : List Value} {w : World} {off : Nat} {k : Nat}, k ≠ g → (putAll w g off es).heap[k]? = w.heap[k]?
  | [], _, _, _, _ => rfl
  | u :: r, w, off, k, h => by rw [putAll, putAll_keep h]; exact Below.heap_setCell w _ u k h
theorem putAll_size {g : Nat} : ∀ {es : List Value} {w : World} {off : Nat}, (putAll w g off es).heap.size = w.heap.size
  | [], _, _ => rfl
  | u :: r, w, off => by rw [putAll, putAll_size]; simp
theorem putAll_below {g B : Nat} {a : World} : ∀ {es : List Value} {w : World} {off : Nat}, Below B a w → B ≤ g → Below B a (putAll w g off es)
  | [], _, _, h, _ => h
  | u :: r, w, off, h, hg => by rw [putAll]; exact putAll_below (h.setCell hg u) hg
theorem headCp_step {w wr w1 : World} {n k : Nat} {D : List (Dat s)} {cs : Array Value} {E : Nat → List Value} {G : Nat → List Nat} (hk : k < n) (hr : Row wr w.heap.size e cs) (hs : cs.size = n * nc s) (hn : ((List.range k).flatMap G).Nodup)
    (hi : ∀ j, j < k → (E j).length = nc s ∧ (∀ i, i < nc s → cs[j * nc s + i]? = (E j)[i]?) ∧ Ow wr s (E j) (D.getD j (dft s)) (G j) ∧ ∀ q ∈ G j, w.heap.size < q) (hb : Below w.heap.size w wr)
    {es : List Value} (ho : Owned w1 wr.heap.size w1.heap.size s es (D.getD k (dft s))) (bb : Below wr.heap.size wr w1) : HeadCp w e s n D (.int .i64 ((k : Int) + 1)) (putAll w1 w.heap.size (k * nc s) es) := by
  obtain ⟨F, ho, hnF, hF⟩ := ho
  have hz := hr.lt
  have hle : k * nc s + nc s ≤ cs.size := by
    have := Nat.mul_le_mul_right (nc s) (show k + 1 ≤ n by omega)
    rw [Nat.add_mul] at this
    omega
  have hel := ho.len
  have hfr : ∀ j, j < k → ∀ q ∈ G j, q < wr.heap.size := fun j hj => (hi j hj).2.2.1.lt
  refine ⟨k + 1, _, fun j => if j = k then es else E j, fun j => if j = k then F else G j, hk, by simp, putAll_row (hr.next bb), by rw [rowPut_size]; exact hs, ?_, fun j hj => ?_, putAll_below (hb.trans (bb.mono hb.size)) (Nat.le_refl _)⟩
  · rw [List.range_succ, List.flatMap_append]
    have e1 : (List.range k).flatMap (fun j => if j = k then F else G j) = (List.range k).flatMap G := by
      rw [List.flatMap_def, List.flatMap_def]
      congr 1
      exact List.map_congr_left fun j hj => if_neg (by have := List.mem_range.1 hj; omega)
    rw [e1]
    refine List.nodup_append.2 ⟨hn, by simpa using hnF, fun x hx y hy e => ?_⟩
    obtain ⟨j, hj, hx⟩ := List.mem_flatMap.1 hx
    have h1 := hfr j (List.mem_range.1 hj) x hx
    have h2 := hF y (by simpa using hy)
    omega
  · by_cases ej : j = k
    · subst ej
      simp only [if_pos]
      refine ⟨hel, fun i hi2 => ?_, ho.keep fun q hq => putAll_keep (by have := hF q hq; omega), fun q hq => by have := hF q hq; omega⟩
      rw [rowPut_get (by omega), if_pos (by omega)]
      congr 1
      omega
    · simp only [if_neg ej]
      obtain ⟨q1, q2, q3, q4⟩ := hi j (by omega)
      refine ⟨q1, fun i hi2 => ?_, (q3.next bb).keep fun q hq => putAll_keep (by have := q4 q hq; omega), q4⟩
      rw [rowPut_get (by omega), if_neg ?_]
      · exact q2 i hi2
      · have := Nat.mul_le_mul_right (nc s) (show j + 1 ≤ k by omega)
        rw [Nat.add_mul] at this
        omega
theorem headCp_end {w wr : World} {n : Nat} {D : List (Dat s)} {cs : Array Value} {E : Nat → List Value} {G : Nat → List Nat} (hl : D.length = n) (hm : n ≤ 1048576) (hr : Row wr w.heap.size e cs) (hs : cs.size = n * nc s) (hn : ((List.range n).flatMap G).Nodup)
    (hi : ∀ j, j < n → (E j).length = nc s ∧ (∀ i, i < nc s → cs[j * nc s + i]? = (E j)[i]?) ∧ Ow wr s (E j) (D.getD j (dft s)) (G j) ∧ ∀ q ∈ G j, w.heap.size < q) (hb : Below w.heap.size w wr) :
    Copy1 w (.row e s) D (.returned (.slice (some ⟨w.heap.size, 0, none⟩) n n)) wr := by
  refine ⟨_, _, _, rfl, ⟨w.heap.size :: (List.range n).flatMap G, ⟨_, n, n, rfl, hl, .inr ⟨w.heap.size, cs, E, G, rfl, hr, Nat.le_refl _, by omega, hs, rfl, fun j hj => ⟨(hi j hj).1, (hi j hj).2.1, (hi j hj).2.2.1⟩⟩⟩, List.nodup_cons.2 ⟨fun h => ?_, hn⟩, fun k hk => ?_⟩, hb⟩
  · obtain ⟨j, hj, h⟩ := List.mem_flatMap.1 h
    have := (hi j (List.mem_range.1 hj)).2.2.2 _ h
    omega
  · rcases List.mem_cons.1 hk with hk | hk
    · rw [hk]; exact ⟨Nat.le_refl _, hr.lt⟩
    · obtain ⟨j, hj, h⟩ := List.mem_flatMap.1 hk
      have h1 := (hi j (List.mem_range.1 hj)).2.2.2 _ h
      have h2 := (hi j (List.mem_range.1 hj)).2.2.1.lt _ h
      omega

/-! ### a slice that is being marked -/
def mixed (s : Sh) (k : Int) (D : List (Dat s)) (j : Nat) : List (Dat s) := (List.range D.length).map fun q => if q < j then mkc s (k + (cnts s D q : Int)) (D.getD q (dft s)) else D.getD q (dft s)
theorem mixed_len {k : Int} {D : List (Dat s)} {j : Nat} : (mixed s k D j).length = D.length := by simp [mixed]
theorem mixed_get {k : Int} {D : List (Dat s)} {j : Nat} (h : j < D.length) : (mixed s k D j).getD j (dft s) = D.getD j (dft s) := by simp [mixed, List.getD, h]
theorem mixed_zero {k : Int} {D : List (Dat s)} : mixed s k D 0 = D := by
  refine List.ext_getElem (by rw [mixed_len]) fun j h1 h2 => ?_
  simp [mixed, List.getD, h2]
theorem mixed_succ {k : Int} {D : List (Dat s)} {j : Nat} (h : j < D.length) : (mixed s k D j).set j (mkc s (k + (cnts s D j : Int)) (D.getD j (dft s))) = mixed s k D (j + 1) := by
  refine List.ext_getElem (by rw [List.length_set, mixed_len, mixed_len]) fun q h1 h2 => ?_
  rw [mixed_len] at h2
  rw [List.getElem_set]
  by_cases e : j = q
  · subst e; simp [mixed]
  · rw [if_neg e]
    simp only [mixed, List.getElem_map, List.getElem_range]
    by_cases h3 : q < j
    · rw [if_pos h3, if_pos (by omega)]
    · rw [if_neg h3, if_neg (by omega)]
theorem mixed_all {k : Int} {D : List (Dat s)} {e : TypeId} : mixed s k D D.length = (mkv (.row e s) k D : List (Dat s)) := by
  show (List.range D.length).map _ = (List.range D.length).map _
  exact List.map_congr_left fun q hq => if_pos (List.mem_range.1 hq)
theorem headMk_cnt {e : TypeId} {s : Sh} {D : List (Dat s)} {j : Nat} (hj : j < D.length) : cnts s D j + cnt s (D.getD j (dft s)) ≤ cntv (.row e s) D := by
  rw [← cnts_succ hj]
  have := cnts_mono (d := D) (show j + 1 ≤ D.length by omega) (Nat.le_refl _)
  rw [cnts_all rfl] at this
  exact this
def HeadMk (w : World) (e : TypeId) (s : Sh) (v : Value) (D : List (Dat s)) (k : Int) (F : List Nat) (kk i : Value) (wr : World) : Prop :=
  ∃ j : Nat, j ≤ D.length ∧ i = .int .i64 j ∧ kk = .int .i64 (k + (cnts s D j : Int)) ∧ Ow wr (.row e s) [v] (mixed s k D j) F ∧ Only F w wr
theorem headMk_zero {w : World} {v : Value} {D : List (Dat s)} {k : Int} {F : List Nat} (h : Ow w (.row e s) [v] D F) : HeadMk w e s v D k F (.int .i64 k) (.int .i64 0) w :=
  ⟨0, Nat.zero_le _, rfl, by simp [cnts], by rw [mixed_zero]; exact h, Only.refl _ _⟩
theorem headMk_step {w wr w2 : World} {v : Value} {D : List (Dat s)} {k : Int} {F : List Nat} {j z : Nat} (hj : j < D.length) (hb : Only F w wr) (ho : Only F wr w2) (hz : cnt s (D.getD j (dft s)) = z) {d2 : Dat s} (hd : d2 = mkc s (k + (cnts s D j : Int)) (D.getD j (dft s)))
    (h : Ow w2 (.row e s) [v] ((mixed s k D j).set j d2) F) : HeadMk w e s v D k F (.int .i64 (k + (cnts s D j : Int) + z)) (.int .i64 ((j : Int) + 1)) w2 := by
  subst hd
  rw [mixed_succ hj] at h
  exact ⟨j + 1, hj, by simp, by rw [cnts_succ hj, hz]; exact congrArg (Value.int .i64) (by omega), h, hb.trans ho⟩
theorem headMk_end {w wr : World} {v : Value} {D : List (Dat s)} {k : Int} {F : List Nat} {j : Nat} (hj : ¬ j < D.length) (hj' : j ≤ D.length) (h : Ow wr (.row e s) [v] (mixed s k D j) F) (ho : Only F w wr) : AnsMarkF w (.row e s) [v] D k F (.returned (.int .i64 (k + (cnts s D j : Int)))) wr := by
  have e1 : j = D.length := by omega
  subst e1
  rw [mixed_all (e := e)] at h
  exact ⟨by rw [cnts_all rfl]; rfl, h, ho⟩
end
theorem cnts_bd {s : Sh} {e : TypeId} {D : List (Dat s)} {j C : Nat} (hz : sz (.row e s) D ≤ 1048576) (hj : j ≤ D.length) (hC : wd s = C) : cnts s D j ≤ C * 1048576 := by
  have h1 := cnts_mono (d := D) hj (Nat.le_refl _)
  rw [cnts_all rfl] at h1
  have h2 := cntv_le (.row e s) D
  have h3 : cntv (.row e s) D = (D.map (cnt s)).sum := rfl
  have h4 : wd (.row e s) = C := hC
  rw [h3, h4] at h2
  have h5 := Nat.mul_le_mul_left C hz
  omega

theorem Rd.split {w : World} {B : Nat} {a b : Sh} {ca cb : List Value} {d : Dat (.cat a b)} (h : Rd w B (.cat a b) (ca ++ cb) d) (hl : ca.length = nc a) : Rd w B a ca d.1 ∧ Rd w B b cb d.2 := by
  obtain ⟨ca', cb', e, h1, h2⟩ := h
  obtain ⟨rfl, rfl⟩ := List.append_inj e (by rw [hl, h1.len])
  exact ⟨h1, h2⟩
theorem Ow.split {w : World} {a b : Sh} {ca cb : List Value} {d : Dat (.cat a b)} {F : List Nat} (h : Ow w (.cat a b) (ca ++ cb) d F) (hl : ca.length = nc a) : ∃ Fa Fb, F = Fa ++ Fb ∧ Ow w a ca d.1 Fa ∧ Ow w b cb d.2 Fb := by
  obtain ⟨ca', cb', Fa, Fb, e, e2, h1, h2⟩ := h
  obtain ⟨rfl, rfl⟩ := List.append_inj e (by rw [hl, h1.len])
  exact ⟨Fa, Fb, e2, h1, h2⟩

theorem Row.only {w w' : World} {g : Nat} {t : TypeId} {cs : Array Value} {F : List Nat} (h : Row w g t cs) (ho : Only F w w') (hg : g ∉ F) : Row w' g t cs := (ho.block g h.lt hg).trans h
theorem Ow.join {w : World} {a b : Sh} {ca cb : List Value} {x : Dat a} {y : Dat b} {Fa Fb : List Nat} (h1 : Ow w a ca x Fa) (h2 : Ow w b cb y Fb) : Ow w (.cat a b) (ca ++ cb) (x, y) (Fa ++ Fb) := ⟨ca, cb, Fa, Fb, rfl, rfl, h1, h2⟩
theorem dis_app {F G : List Nat} (h : (F ++ G).Nodup) : F.Nodup ∧ G.Nodup ∧ (∀ k ∈ F, k ∉ G) ∧ ∀ k ∈ G, k ∉ F := by
  obtain ⟨h1, h2, h3⟩ := List.nodup_append.1 h
  exact ⟨h1, h2, fun k hk hk2 => h3 k hk k hk2 rfl, fun k hk hk2 => h3 k hk2 k hk rfl⟩
theorem dis_l {F A B : List Nat} (h : ∀ k ∈ F, k ∉ A ++ B) : (∀ k ∈ F, k ∉ A) ∧ ∀ k ∈ F, k ∉ B := ⟨fun k hk h2 => h k hk (List.mem_append_left _ h2), fun k hk h2 => h k hk (List.mem_append_right _ h2)⟩
theorem dis_r {F A B : List Nat} (h : ∀ k ∈ A ++ B, k ∉ F) : (∀ k ∈ A, k ∉ F) ∧ ∀ k ∈ B, k ∉ F := ⟨fun k hk => h k (List.mem_append_left _ hk), fun k hk => h k (List.mem_append_right _ hk)⟩

/-! ### the sizes of a slice's elements -/
section
variable {s : Sh} {e : TypeId}
def HeadSzK (w : World) (n : Nat) (s : Sh) (D : List (Dat s)) (left : Int) (l i : Value) (wr : World) : Prop := ∃ k : Nat, k ≤ n ∧ i = .int .i64 k ∧ l = .int .i64 (left - n - szs s D k) ∧ 0 ≤ left - n - szs s D k ∧ Below w.heap.size w wr
theorem headSzK_zero {w : World} {n : Nat} {D : List (Dat s)} {left : Int} (h : 0 ≤ left - n) : HeadSzK w n s D left (.int .i64 (left - n)) (.int .i64 0) w := ⟨0, Nat.zero_le _, rfl, by simp [szs], by simp [szs]; omega, Below.refl _ _⟩
theorem headSzK_bad {n k t : Nat} {D : List (Dat s)} {left : Int} (hn : D.length = n) (hk : k < n) (hs : szs s D (k + 1) = szs s D k + t) (q : left - n - szs s D k - t < 0) : Ending.returned (.int .i64 (-1)) = .returned (.int .i64 (if left - (sz (.row e s) D : Nat) < 0 then -1 else left - (sz (.row e s) D : Nat))) := by
  have h2 := szs_mono (d := D) (show k + 1 ≤ D.length by omega) (Nat.le_refl _)
  rw [if_pos (by rw [sz_row]; omega)]
theorem headSzK_step {w w1 : World} {n k t : Nat} {D : List (Dat s)} {left l : Int} (hk : k < n) (hs : szs s D (k + 1) = szs s D k + t) (hl : left - n - szs s D k = l) (q : ¬ l - t < 0) (hb : Below w.heap.size w w1) : HeadSzK w n s D left (.int .i64 (l - t)) (.int .i64 ((k : Int) + 1)) w1 :=
  ⟨k + 1, hk, by simp, by rw [hs, ← hl]; exact congrArg (Value.int .i64) (by omega), by rw [hs]; omega, hb⟩
theorem headSzK_end {w wr : World} {n k : Nat} {D : List (Dat s)} {left : Int} (hn : D.length = n) (hk : ¬ k < n) (hk' : k ≤ n) (h : 0 ≤ left - n - szs s D k) (hb : Below w.heap.size w wr) : AnsSzK w left (sz (.row e s) D) (.returned (.int .i64 (left - n - szs s D k))) wr := by
  have e1 : k = n := by omega
  subst e1
  have e2 : (left - (sz (.row e s) D : Nat) : Int) = left - k - szs s D k := by rw [sz_row, hn]; omega
  exact ⟨by rw [e2, if_neg (by omega)], hb⟩
end

/-! ### a struct that is being copied: its box, the result's, the copy's -/
structure CpS (w : World) (tL tI : TypeId) (cs zs part : Array Value) (wr : World) : Prop where
  box : Row wr w.heap.size tL cs
  res : Row wr (w.heap.size + 1) tI zs
  cur : Row wr (w.heap.size + 1 + 1) tI part
  bel : Below w.heap.size w wr
  size : w.heap.size + 1 + 1 + 1 ≤ wr.heap.size
section
variable {w wr w1 : World} {tL tI : TypeId} {cs zs part : Array Value}
theorem CpS.zero (w : World) (tL tI : TypeId) (cs zs : Array Value) : CpS w tL tI cs zs zs (((w.alloc (.cells cs tL)).alloc (.cells zs tI)).alloc (.cells zs tI)) where
  box := by have := ((Row.new w tL cs).alloc (.cells zs tI)).alloc (.cells zs tI); simpa using this
  res := by have := (Row.new (w.alloc (.cells cs tL)) tI zs).alloc (.cells zs tI); simpa using this
  cur := by have := Row.new ((w.alloc (.cells cs tL)).alloc (.cells zs tI)) tI zs; simpa using this
  bel := (((Below.refl _ _).alloc (Nat.le_refl _) _).alloc (by simp) _).alloc (by simp; omega) _
  size := by simp
theorem CpS.next (h : CpS w tL tI cs zs part wr) (bb : Below wr.heap.size wr w1) : CpS w tL tI cs zs part w1 :=
  ⟨h.box.next bb, h.res.next bb, h.cur.next bb, h.bel.trans (bb.mono h.bel.size), Nat.le_trans h.size bb.size⟩
theorem CpS.put (h : CpS w tL tI cs zs part wr) (i : Nat) (u : Value) : CpS w tL tI cs zs (part.setIfInBounds i u) (wr.setCell ⟨w.heap.size + 1 + 1, i, none⟩ u) :=
  ⟨h.box.far (by show _ ≠ w.heap.size + 1 + 1; omega) _, h.res.far (by show _ ≠ w.heap.size + 1 + 1; omega) _, h.cur.put i u, h.bel.setCell (by show _ ≤ w.heap.size + 1 + 1; omega) _, by simpa using h.size⟩
theorem CpS.fin (h : CpS w tL tI cs zs part wr) (i : Nat) (u : Value) : CpS w tL tI cs (zs.setIfInBounds i u) part (wr.setCell ⟨w.heap.size + 1, i, none⟩ u) :=
  ⟨h.box.far (by show _ ≠ w.heap.size + 1; omega) _, h.res.put i u, h.cur.far (by show _ ≠ w.heap.size + 1; omega) _, h.bel.setCell (by show _ ≤ w.heap.size + 1; omega) _, by simpa using h.size⟩
end
end Go.Proofs.YtmaamlnooepogaaGreat.shape
end
