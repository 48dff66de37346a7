/-
  MERGED: my texts PickSpec, Big, one behind the other, as they are. By an AI agent.
-/
import Derived.Test.YtfkgiimcnlagmaaMFnRedexes6
import Derived.Deep.QuietTactic
import Derived.BigQuiet
section
/-
  CONTRACTS: spec.l8Places (the places of which a strategy takes the first one), l8Right, PickBy. Conditions: the system and the term read as data ('Rd'), at most 1048576 numbers; the strategy is an int64. By an AI agent.
-/
namespace Go.Proofs.Ytfkgiimcnlagmaa.orderSpec
open Go.RowKit Go.Proofs.Ytfkgiimcnlagmaa.base Go.Proofs.Ytfkgiimcnlagmaa.ints Go.Proofs.Ytfkgiimcnlagmaa.sig Go.Proofs.Ytfkgiimcnlagmaa.term Go.Proofs.Ytfkgiimcnlagmaa.termOk Go.Proofs.Ytfkgiimcnlagmaa.endAt Go.Proofs.Ytfkgiimcnlagmaa.endOf Go.Proofs.Ytfkgiimcnlagmaa.marks Go.Proofs.Ytfkgiimcnlagmaa.app Go.Proofs.Ytfkgiimcnlagmaa.sym Go.Proofs.Ytfkgiimcnlagmaa.sub Go.Proofs.Ytfkgiimcnlagmaa.segs Go.Proofs.Ytfkgiimcnlagmaa.segsHelp Go.Proofs.Ytfkgiimcnlagmaa.kinds Go.Proofs.Ytfkgiimcnlagmaa.termFacts Go.Proofs.Ytfkgiimcnlagmaa.shifted Go.Proofs.Ytfkgiimcnlagmaa.shape Go.Proofs.Ytfkgiimcnlagmaa.kindsR Go.Proofs.Ytfkgiimcnlagmaa.kindsW Go.Proofs.Ytfkgiimcnlagmaa.ruleMath Go.Proofs.Ytfkgiimcnlagmaa.ruleSpec Go.Proofs.Ytfkgiimcnlagmaa.stepMath Go.Proofs.Ytfkgiimcnlagmaa.walkMath Go.Proofs.Ytfkgiimcnlagmaa.stepsMath Go.Proofs.Ytfkgiimcnlagmaa.varsOf Go.Proofs.Ytfkgiimcnlagmaa.stepSpec Go.Proofs.Ytfkgiimcnlagmaa.orderMath Go.Proofs.Ytfkgiimcnlagmaa.appAt
set_option maxRecDepth 100000

/-- what a strategy selects, as a call tells it -/
def AnsPick (w : World) (o : Option (Int × Int)) (e : Ending) (w' : World) : Prop := e = .returned (.tuple #[.int .i64 ((o.map (·.1)).getD 0), .int .i64 ((o.map (·.2)).getD 0), .bool o.isSome]) ∧ Below w.heap.size w w'
theorem ansPick_none {w w' : World} {o : Option (Int × Int)} (h : o = none) (hb : Below w.heap.size w w') : AnsPick w o (.returned (.tuple #[.int .i64 0, .int .i64 0, .bool false])) w' := ⟨by rw [h]; rfl, hb⟩
theorem ansPick_some {w w' : World} {o : Option (Int × Int)} {a r : Int} (h : o = some (a, r)) (hb : Below w.heap.size w w') : AnsPick w o (.returned (.tuple #[.int .i64 a, .int .i64 r, .bool true])) w' := ⟨by rw [h]; rfl, hb⟩
theorem pickO_no {sg : List Int} {rs : List Rl} {t : List Int} {s : Int} (h : (rightB sg rs t && stratB s) = false) : pickO sg rs t s = none := by
  unfold pickO
  rw [if_neg]
  rw [Bool.and_eq_false_iff] at h
  rintro ⟨h1, h2⟩
  rcases h with h | h
  · rw [h1] at h; cases h
  · rw [h2] at h; cases h
theorem pickO_yes {sg : List Int} {rs : List Rl} {t : List Int} {s : Int} (h1 : rightB sg rs t = true) (h2 : stratB s = true) : pickO sg rs t s = pickL sg rs t s := by unfold pickO; rw [if_pos ⟨h1, h2⟩]
theorem pickL_nil {sg : List Int} {rs : List Rl} {t : List Int} {s : Int} (h : (selL sg rs t s).head? = none) : pickL sg rs t s = none := by unfold pickL; rw [h]; rfl
theorem pickL_at {sg : List Int} {rs : List Rl} {t : List Int} {s x : Int} (h : (selL sg rs t s).head? = some x) : pickL sg rs t s = some (x, ruleF sg rs t x.toNat) := by unfold pickL; rw [h]; rfl
theorem sel_at {sg : List Int} {rs : List Rl} {t : List Int} {s x : Int} (h : (selL sg rs t s).head? = some x) : ∃ a : Nat, x = (a : Int) ∧ a < t.length := by
  have h1 : x ∈ selL sg rs t s := List.mem_of_head? h
  obtain ⟨a, ha, -, e⟩ := pl_mem.1 (show x ∈ plN sg rs t t.length from sel_mem h1)
  exact ⟨a, e, ha⟩

end Go.Proofs.Ytfkgiimcnlagmaa.orderSpec
end

section
/-
  CONTRACT: laws.big: more than 4096 bytes. Conditions: none. By an AI agent.
-/
namespace Go.Proofs.Ytfkgiimcnlagmaa.bigs
open Go.RowKit Go.Proofs.Ytfkgiimcnlagmaa.base Go.Proofs.Ytfkgiimcnlagmaa.ints

theorem bigAns (A : Option Addr) (n c : Nat) (b : Bool) (w : World) (hb : decide (4096 < n) = b) (hn : n ≤ 9223372036854775807) : Calls Try.prog 11 #[.slice A n c] w fun e w' => w = w' ∧ e = .returned (.bool b) := by
  cases b with
  | true =>
    have h : (4096 : Int) < (n : Int) := by have := of_decide_eq_true hb; omega
    clear hb
    go_enter Try.func11, Try.ntmps11
    go_wp2
    go_ret
    exact ⟨rfl, rfl⟩
  | false =>
    have h : ¬ (4096 : Int) < (n : Int) := by have := of_decide_eq_false hb; omega
    have h2 : decide (4096 < n) = false := hb
    clear hb
    go_enter Try.func11, Try.ntmps11
    go_wp2
    go_ret
    exact ⟨rfl, rfl⟩
end Go.Proofs.Ytfkgiimcnlagmaa.bigs
end
