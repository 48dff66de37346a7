/-
  CONTRACT of spec.l1Max. Conditions: none. By an AI agent.
-/
import Derived.Test.YtdeegjeopkcomaaInts
namespace Go.Proofs.Ytdeegjeopkcomaa.maxi
open Go.RowKit Go.Proofs.Ytdeegjeopkcomaa.base
theorem max_any (x y : Int) (w : World) : Calls Try.prog 97 #[.int .i64 x, .int .i64 y] w fun e w' => w = w' ∧ e = .returned (.int .i64 (max x y)) := by
  by_cases h : y < x
  · have e : max x y = x := by omega
    rw [e]
    go_enter Try.func97, Try.ntmps97
    go_wp2
    go_ret
    exact ⟨rfl, rfl⟩
  · have e : max x y = y := by omega
    rw [e]
    go_enter Try.func97, Try.ntmps97
    go_wp2
    go_ret
    exact ⟨rfl, rfl⟩
end Go.Proofs.Ytdeegjeopkcomaa.maxi
