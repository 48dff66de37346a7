/-
  CONTRACT: laws.big: more than 4096 bytes. Conditions: none. By an AI agent.
-/
import Derived.Test.YtdeegjeopkcomaaInts
namespace Go.Proofs.Ytdeegjeopkcomaa.bigs
open Go.RowKit Go.Proofs.Ytdeegjeopkcomaa.base Go.Proofs.Ytdeegjeopkcomaa.ints

theorem bigAns (A : Option Addr) (n c : Nat) (b : Bool) (w : World) (hb : decide (4096 < n) = b) (hn : n ≤ 9223372036854775807) : Calls Try.prog 17 #[.slice A n c] w fun e w' => w = w' ∧ e = .returned (.bool b) := by
  cases b with
  | true =>
    have h : (4096 : Int) < (n : Int) := by have := of_decide_eq_true hb; omega
    clear hb
    go_enter Try.func17, Try.ntmps17
    go_wp2
    go_ret
    exact ⟨rfl, rfl⟩
  | false =>
    have h : ¬ (4096 : Int) < (n : Int) := by have := of_decide_eq_false hb; omega
    have h2 : decide (4096 < n) = false := hb
    clear hb
    go_enter Try.func17, Try.ntmps17
    go_wp2
    go_ret
    exact ⟨rfl, rfl⟩
end Go.Proofs.Ytdeegjeopkcomaa.bigs
