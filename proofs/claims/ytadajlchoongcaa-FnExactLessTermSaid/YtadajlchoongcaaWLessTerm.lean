/-
  THE WALK of laws.FnExactLessTerm: it returns true, whatever the two slices, and writes nothing that was there. Conditions: the slices read as lists. By an AI agent.
-/
import Derived.Test.YtadajlchoongcaaLess
namespace Go.Proofs.Ytadajlchoongcaa.wLessTerm
open Go.RowKit Go.Proofs.Ytadajlchoongcaa.base Go.Proofs.Ytadajlchoongcaa.ints Go.Proofs.Ytadajlchoongcaa.less

set_option maxHeartbeats 1000000 in
theorem law (a0 a1 : Option Addr) (n m c0 c1 : Nat) (xs ys : List Int) (w : World) (s0 : Seg w w.heap.size a0 n xs) (s1 : Seg w w.heap.size a1 m ys) :
    Calls Try.prog 14 #[.slice a0 n c0, .slice a1 m c1] w (Fine w) := by
  by_cases h0 : n ≤ 1048576
  · by_cases h1 : m ≤ 1048576
    · go_enter Try.func14, Try.ntmps14
      go_wp2_with fail
      refine (toSeg _ _ _ xs _ s0 h0).mono ?_
      rintro e wa ⟨ga, rfl, sa, bel⟩
      replace s0 := s0.next bel
      replace s1 := s1.next bel
      go_wp2_with fail
      refine (toSeg _ _ _ ys _ s1 h1).mono ?_
      rintro e wb ⟨gb, rfl, sb, bb⟩
      replace s0 := s0.next bb
      replace s1 := s1.next bb
      replace sa := sa.next bb
      replace bel := next_trans bel bb
      clear bb
      go_wp2_with fail
      refine (specLess _ _ _ _ _ _ xs ys _ sa sb h0 h1).mono ?_
      rintro e w' ⟨rfl, d, rfl⟩
      clear sa sb
      replace s0 := s0.drewN d
      replace s1 := s1.drewN d
      replace bel := below_drewN bel d
      go_wp2_with fail
      refine (toSeg _ _ _ xs _ s0 h0).mono ?_
      rintro e wc ⟨gc, rfl, sa, bb⟩
      replace s0 := s0.next bb
      replace s1 := s1.next bb
      replace bel := next_trans bel bb
      clear bb
      go_wp2_with fail
      refine (toSeg _ _ _ ys _ s1 h1).mono ?_
      rintro e wd ⟨gd, rfl, sb, bb⟩
      replace s0 := s0.next bb
      replace s1 := s1.next bb
      replace sa := sa.next bb
      replace bel := next_trans bel bb
      clear bb
      go_wp2_with fail
      refine (implLess _ _ _ _ _ _ xs ys _ sa sb h0 h1).mono ?_
      rintro e w' ⟨rfl, d', rfl⟩
      replace s0 := s0.drewN d'
      replace s1 := s1.drewN d'
      replace sa := sa.drewN d'
      replace sb := sb.drewN d'
      replace bel := below_drewN bel d'
      go_wp2_with fail
      refine (toSeg _ _ _ xs _ s0 h0).mono ?_
      rintro e we ⟨ge, rfl, se, bb⟩
      replace s1 := s1.next bb
      replace sa := sa.next bb
      replace sb := sb.next bb
      replace bel := next_trans bel bb
      clear bb
      go_wp2_with fail
      refine (eqYes _ _ _ _ _ xs _ sa se h0).mono ?_
      rintro e w' ⟨rfl, d2, rfl⟩
      clear sa se
      replace s1 := s1.drewN d2
      replace sb := sb.drewN d2
      replace bel := below_drewN bel d2
      go_wp2_with fail
      refine (toSeg _ _ _ ys _ s1 h1).mono ?_
      rintro e wf ⟨gf, rfl, sf, bb⟩
      replace sb := sb.next bb
      replace bel := next_trans bel bb
      clear bb
      go_wp2_with fail
      refine (eqYes _ _ _ _ _ ys _ sb sf h1).mono ?_
      rintro e w' ⟨rfl, d3, rfl⟩
      replace bel := below_drewN bel d3
      go_wp2
      go_ret
      exact ⟨rfl, bel⟩
    · have h1' : (1048576 : Int) < (m : Int) := by omega
      go_enter Try.func14, Try.ntmps14
      go_wp2
      go_ret
      exact ⟨rfl, Below.refl _ _⟩
  · go_enter Try.func14, Try.ntmps14
    go_wp2
    go_ret
    exact ⟨rfl, Below.refl _ _⟩
end Go.Proofs.Ytadajlchoongcaa.wLessTerm
