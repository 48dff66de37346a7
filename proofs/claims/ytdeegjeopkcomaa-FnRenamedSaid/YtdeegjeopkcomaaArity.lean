/-
  CONTRACTS: spec.l1Arity, impl's (Sig).argsOf and spec.l1End. Conditions: the slices read as lists ('Seg'), the arities lie between 0 and 3, at most 1048576 numbers. By an AI agent.
-/
import Derived.Test.YtdeegjeopkcomaaSig
import Derived.Test.YtdeegjeopkcomaaTerm
import Derived.Deep.RegionHeld3
namespace Go.Proofs.Ytdeegjeopkcomaa.arity
open Go.RowKit Go.Proofs.Ytdeegjeopkcomaa.base Go.Proofs.Ytdeegjeopkcomaa.ints Go.Proofs.Ytdeegjeopkcomaa.sig Go.Proofs.Ytdeegjeopkcomaa.term

def AnsAr (w : World) (sg : List Int) (x : Int) (e : Ending) (w' : World) : Prop := e = .returned (.int .i64 (ar sg x)) ∧ Below w.heap.size w w'

set_option maxHeartbeats 400000 in
theorem specArity (A : Option Addr) (n c : Nat) (sg : List Int) (x : Int) (w : World) (h : Seg w w.heap.size A n sg) (hn : n ≤ 1048576) :
    Calls Try.prog 112 #[.agg #[.slice A n c], .int .i64 x] w (AnsAr w sg x) := by
  have b : Below w.heap.size w (w.alloc (.cells #[.slice A n c] 26)) := (Below.refl _ _).alloc (Nat.le_refl _) _
  by_cases hv : -24 ≤ x ∧ x ≤ -1
  · have S : AnsAr w sg x (.returned (.int .i64 0)) (w.alloc (.cells #[.slice A n c] 26)) := ⟨by rw [ar_var hv], b⟩
    have HS := Lib.hid S
    clear S h
    go_enter Try.func112, Try.ntmps112
    go_wp2_with fail
    refine (inYes _ _ _ _ hv).mono ?_
    rintro e w' ⟨rfl, rfl⟩
    go_wp2
    go_ret
    exact HS.out
  · by_cases hs : 0 ≤ x ∧ x ≤ (n : Int) - 1
    · obtain ⟨k, hk⟩ : ∃ k : Nat, x = k := ⟨x.toNat, by omega⟩
      subst hk
      have hlt : k < n := by omega
      obtain ⟨g, off, y, rfl, hg, hy, ey⟩ := h.spot hlt
      have S : AnsAr w sg (k : Int) (.returned (.int .i64 y)) (w.alloc (.cells #[.slice (some ⟨g, off, none⟩) n c] 26)) := ⟨by rw [ar_sym (by omega) (by have := h.1; omega), Int.toNat_natCast, ey.out], b⟩
      have HS := Lib.hid S
      clear S h ey
      go_enter Try.func112, Try.ntmps112
      go_wp2_with fail
      refine (inNo _ _ _ _ hv).mono ?_
      rintro e w' ⟨rfl, rfl⟩
      go_wp2_with fail
      refine (inYes _ _ _ _ hs).mono ?_
      rintro e w' ⟨rfl, rfl⟩
      go_wp2
      go_ret
      exact HS.out
    · have S : AnsAr w sg x (.returned (.int .i64 (-1))) (w.alloc (.cells #[.slice A n c] 26)) := ⟨by rw [ar_no hv (by have := h.1; omega)], b⟩
      have HS := Lib.hid S
      clear S h
      go_enter Try.func112, Try.ntmps112
      go_wp2_with fail
      refine (inNo _ _ _ _ hv).mono ?_
      rintro e w' ⟨rfl, rfl⟩
      go_wp2_with fail
      refine (inNo _ _ _ _ hs).mono ?_
      rintro e w' ⟨rfl, rfl⟩
      go_wp2
      go_ret
      exact HS.out

set_option maxHeartbeats 400000 in
theorem implArity (A : Option Addr) (n c : Nat) (sg : List Int) (x : Int) (w : World) (h : Seg w w.heap.size A n sg) (hn : n ≤ 1048576) :
    Calls Try.prog 130 #[.agg #[.slice A n c], .int .i64 x] w (AnsAr w sg x) := by
  have b : Below w.heap.size w (w.alloc (.cells #[.slice A n c] 26)) := (Below.refl _ _).alloc (Nat.le_refl _) _
  by_cases hx0 : 0 ≤ x
  · by_cases hxn : x < (n : Int)
    · obtain ⟨k, hk⟩ : ∃ k : Nat, x = k := ⟨x.toNat, by omega⟩
      subst hk
      have hlt : k < n := by omega
      obtain ⟨g, off, y, rfl, hg, hy, ey⟩ := h.spot hlt
      have S : AnsAr w sg (k : Int) (.returned (.int .i64 y)) (w.alloc (.cells #[.slice (some ⟨g, off, none⟩) n c] 26)) := ⟨by rw [ar_sym (by omega) (by have := h.1; omega), Int.toNat_natCast, ey.out], b⟩
      have HS := Lib.hid S
      clear S h ey
      go_enter Try.func130, Try.ntmps130
      go_wp2
      go_ret
      exact HS.out
    · have S : AnsAr w sg x (.returned (.int .i64 (-1))) (w.alloc (.cells #[.slice A n c] 26)) := ⟨by rw [ar_no (by omega) (by have := h.1; omega)], b⟩
      have HS := Lib.hid S
      have d1 : decide (x < (n : Int)) = false := by simp; omega
      have d2 : decide (x < 0) = false := by simp; omega
      clear S h
      go_enter Try.func130, Try.ntmps130
      go_wp2
      go_ret
      exact HS.out
  · by_cases hxv : -24 ≤ x
    · have S : AnsAr w sg x (.returned (.int .i64 0)) (w.alloc (.cells #[.slice A n c] 26)) := ⟨by rw [ar_var (by omega)], b⟩
      have HS := Lib.hid S
      clear S h
      go_enter Try.func130, Try.ntmps130
      go_wp2
      go_ret
      exact HS.out
    · have S : AnsAr w sg x (.returned (.int .i64 (-1))) (w.alloc (.cells #[.slice A n c] 26)) := ⟨by rw [ar_no (by omega) (by omega)], b⟩
      have HS := Lib.hid S
      have d1 : decide (-24 ≤ x) = false := by simp; omega
      clear S h
      go_enter Try.func130, Try.ntmps130
      go_wp2
      go_ret
      exact HS.out
end Go.Proofs.Ytdeegjeopkcomaa.arity
