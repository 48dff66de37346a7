/-
  MERGED: my texts RuleSpecB, RuleImplF, WSameSystem, OpenX, one behind the other, as they are. By an AI agent.
-/
import Derived.Test.YtdkjafjphgcbjaaMFnExactSameSystem3
import Derived.Deep.RegionHeld3
import Derived.ProofKit
import Derived.OpenShut
import Derived.Lib.SmallJoins
import Derived.Deep.Slices
import Derived.Deep.Fields
section
/-
  CONTRACTS: spec.l6SameRule, SameSystem, LeftLinearIn, CollapsingIn, l6Doubles, DuplicatingIn. Conditions: the arguments read as data ('Rd'), at most 1048576 numbers. By an AI agent.
-/
namespace Go.Proofs.Ytdkjafjphgcbjaa.ruleSpec
open Go.RowKit Go.Proofs.Ytdkjafjphgcbjaa.base Go.Proofs.Ytdkjafjphgcbjaa.ints Go.Proofs.Ytdkjafjphgcbjaa.sig Go.Proofs.Ytdkjafjphgcbjaa.term Go.Proofs.Ytdkjafjphgcbjaa.termOk Go.Proofs.Ytdkjafjphgcbjaa.marks Go.Proofs.Ytdkjafjphgcbjaa.app Go.Proofs.Ytdkjafjphgcbjaa.sym Go.Proofs.Ytdkjafjphgcbjaa.segs Go.Proofs.Ytdkjafjphgcbjaa.termFacts Go.Proofs.Ytdkjafjphgcbjaa.varsMath Go.Proofs.Ytdkjafjphgcbjaa.varsOf Go.Proofs.Ytdkjafjphgcbjaa.rename Go.Proofs.Ytdkjafjphgcbjaa.same Go.Proofs.Ytdkjafjphgcbjaa.count Go.Proofs.Ytdkjafjphgcbjaa.linear Go.Proofs.Ytdkjafjphgcbjaa.shape Go.Proofs.Ytdkjafjphgcbjaa.kindsR Go.Proofs.Ytdkjafjphgcbjaa.ruleMath
set_option maxRecDepth 100000

theorem same_noL {x y : Rl} (h : decide (x.1 = y.1) = false) : sameRB x y = false := by
  unfold sameRB
  exact decide_eq_false fun e => (of_decide_eq_false h) (by rw [e])
theorem same_L {x y : Rl} (h : decide (x.1 = y.1) = true) : sameRB x y = decide (x.2 = y.2) := by
  unfold sameRB
  have h := of_decide_eq_true h
  exact decide_eq_decide.2 ⟨fun e => by rw [e], fun e => by obtain ⟨x1, x2⟩ := x; obtain ⟨y1, y2⟩ := y; simp_all⟩

set_option maxHeartbeats 4000000 in
theorem specSameRule (l r l' r' : Value) (x y : Dat sRule) (w : World) (h : Rd w w.heap.size sRule [l, r] x) (h' : Rd w w.heap.size sRule [l', r'] y) (hz : sz sRule x ≤ 1048576) (hz' : sz sRule y ≤ 1048576) :
    Calls Try.prog 87 #[.agg #[l, r], .agg #[l', r']] w (AnsB w (sameRB x y)) := by
  obtain ⟨A1, n1, c1, A2, n2, c2, rfl, rfl, s1, k1, s2, k2, hn1, hn2⟩ := rd_rule h hz
  obtain ⟨B1, m1, e1, B2, m2, e2, rfl, rfl, t1, q1, t2, q2, hm1, hm2⟩ := rd_rule h' hz'
  obtain ⟨W, hW, rA, rB, bel⟩ := box2 w 35 35 #[.slice A1 n1 c1, .slice A2 n2 c2] #[.slice B1 m1 e1, .slice B2 m2 e2]
  have HW := Lib.hid hW
  have L1 := Lib.hid (specSame A1 B1 n1 m1 c1 e1 x.1 y.1 W (s1.next bel) (t1.next bel) hn1 hm1)
  have L2 := Lib.hid (fun (w1 : World) (bb : Below w.heap.size w w1) => specSame A2 B2 n2 m2 c2 e2 x.2 y.2 w1 (s2.next bb) (t2.next bb) hn2 hm2)
  clear hW h h' hz hz' k1 k2 q1 q2 s1 s2 t1 t2
  cases ok1 : decide (x.1 = y.1) with
  | false =>
    have HS := Lib.hid ok1
    clear ok1
    go_enter Try.func87, Try.ntmps87
    go_wp2_with fail
    rw [← HW.out]
    refine L1.out.mono ?_
    rintro e w1 ⟨he, d, rfl⟩
    rw [HS.out] at he
    subst he
    have F := Lib.hid (ansB (b := sameRB x y) (a := false) (by rw [same_noL HS.out]) (below_drewN bel d))
    clear bel rA rB
    go_wp2
    go_ret
    exact F.out
  | true =>
    have HS := Lib.hid ok1
    clear ok1
    go_enter Try.func87, Try.ntmps87
    go_wp2_with fail
    rw [← HW.out]
    refine L1.out.mono ?_
    rintro e w1 ⟨he, d, hw1⟩
    rw [HS.out] at he
    subst he
    have rA1 : Row w1 w.heap.size 35 #[.slice A1 n1 c1, .slice A2 n2 c2] := by rw [hw1]; exact rA.drewN d
    have rB1 : Row w1 (w.heap.size + 1) 35 #[.slice B1 m1 e1, .slice B2 m2 e2] := by rw [hw1]; exact rB.drewN d
    have bel1 : Below w.heap.size w w1 := by rw [hw1]; exact below_drewN bel d
    have cA : w1.cell? ⟨w.heap.size, 1, none⟩ = some (.slice A2 n2 c2) := rA1.cell 1
    have cB : w1.cell? ⟨w.heap.size + 1, 1, none⟩ = some (.slice B2 m2 e2) := rB1.cell 1
    clear hw1 L1 rA rB bel
    go_wp2_with fail
    refine (L2.out w1 bel1).mono ?_
    rintro e w2 ⟨he, d2, rfl⟩
    rw [← same_L HS.out] at he
    subst he
    have F := Lib.hid (ansB (b := sameRB x y) (a := sameRB x y) rfl (below_drewN bel1 d2))
    clear bel1 rA1 rB1 cA cB L2
    go_wp2
    go_ret
    exact F.out

/-! ### SameSystem -/
def HeadSS (w : World) (T : TypeId) (cs cs' : Array Value) (n : Nat) (rs rs' : List Rl) (i : Value) (wr : World) : Prop :=
  ∃ k : Nat, k ≤ n ∧ i = .int .i64 k ∧ (∀ j, j < k → rs.getD j ([], []) = rs'.getD j ([], [])) ∧ Row wr w.heap.size T cs ∧ Row wr (w.heap.size + 1) T cs' ∧ Below w.heap.size w wr
theorem headSS_step {w wr : World} {T : TypeId} {cs cs' : Array Value} {n k : Nat} {rs rs' : List Rl} {x y : Rl} (hk : k < n) (hlow : ∀ j, j < k → rs.getD j ([], []) = rs'.getD j ([], [])) (ex : Hid (rs.getD k ([], []) = x)) (ey : Hid (rs'.getD k ([], []) = y)) (h : sameRB x y = true) (hr : Row wr w.heap.size T cs) (hr' : Row wr (w.heap.size + 1) T cs') (hb : Below w.heap.size w wr) : HeadSS w T cs cs' n rs rs' (.int .i64 ((k : Int) + 1)) wr :=
  ⟨k + 1, hk, by simp, fun j hj => by
    by_cases e : j = k
    · subst e; rw [ex.out, ey.out]; exact of_decide_eq_true h
    · exact hlow j (by omega), hr, hr', hb⟩
theorem ss_sig {sg sg' : List Int} {rs rs' : List Rl} (h : decide (sg = sg') = false) : sameSB sg sg' rs rs' = false := by unfold sameSB; rw [h]; simp
theorem ss_len {sg sg' : List Int} {rs rs' : List Rl} {n m : Nat} (hn : rs.length = n) (hm : rs'.length = m) (h : n ≠ m) : sameSB sg sg' rs rs' = false := by
  unfold sameSB
  rw [decide_eq_false (p := rs = rs') (fun e => by rw [e] at hn; omega)]; simp
theorem ss_rule {sg sg' : List Int} {rs rs' : List Rl} {k : Nat} {x y : Rl} (ex : rs.getD k ([], []) = x) (ey : rs'.getD k ([], []) = y) (h : sameRB x y = false) : sameSB sg sg' rs rs' = false := by
  unfold sameSB
  rw [decide_eq_false (p := rs = rs') (fun e => by rw [e] at ex; exact (of_decide_eq_false h) (by rw [← ex, ← ey]))]; simp
theorem ss_yes {sg sg' : List Int} {rs rs' : List Rl} {n : Nat} (h1 : sysOkB sg rs = true) (h2 : decide (sg = sg') = true) (hn : rs.length = n) (hm : rs'.length = n) (h : ∀ j, j < n → rs.getD j ([], []) = rs'.getD j ([], [])) : sameSB sg sg' rs rs' = true := by
  unfold sameSB
  rw [h1, h2, decide_eq_true (lists_eq (by omega) (fun j hj => h j (by omega)))]; rfl
theorem ss_no {sg sg' : List Int} {rs rs' : List Rl} (h : sysOkB sg rs = false) : sameSB sg sg' rs rs' = false := by unfold sameSB; rw [h]; rfl

set_option maxHeartbeats 8000000 in
theorem specSameSystem (a v a' v' : Value) (d d' : Dat sSystem) (w : World) (h : Rd w w.heap.size sSystem [a, v] d) (h' : Rd w w.heap.size sSystem [a', v'] d') (hz : sz sSystem d ≤ 1048576) (hz' : sz sSystem d' ≤ 1048576) :
    Calls Try.prog 47 #[.agg #[a, v], .agg #[a', v']] w (AnsB w (sameSB d.1 d'.1 d.2 d'.2)) := by
  have S1 := fun (w1 : World) (bb : Below w.heap.size w w1) => specSystemOk a v d w1 (h.next bb) hz
  have S2 := fun (w1 : World) (bb : Below w.heap.size w w1) => specSystemOk a' v' d' w1 (h'.next bb) hz'
  obtain ⟨A, n, c, V, m, cv, rfl, rfl, hs, hc, hcv, hm, hn, hm1, hrs, hsg, hE⟩ := rd_sys h hz
  obtain ⟨A', n', c', V', m', cv', rfl, rfl, hs', hc', hcv', hm', hn', hm1', hrs', hsg', hE'⟩ := rd_sys h' hz'
  obtain ⟨W, hW, rA, rB, bel⟩ := box2 w 29 29 #[.slice A n c, .slice V m cv] #[.slice A' n' c', .slice V' m' cv']
  have HW := Lib.hid hW
  have HM := Lib.hid hm
  have HM' := Lib.hid hm'
  have HE := Lib.hid hE
  have HE' := Lib.hid hE'
  have HR := Lib.hid hrs
  have HR' := Lib.hid hrs'
  have LS1 := Lib.hid (S1 W bel)
  have LS2 := Lib.hid S2
  have LT := Lib.hid (fun (w1 : World) (bb : Below w.heap.size w w1) => specSame A A' n n' c c' d.1 d'.1 w1 (hs.next bb) (hs'.next bb) hn hn')
  clear hW h h' hz hz' hs hs' hc hc' hcv hcv' hm hm' hE hE' hrs hrs' hsg hsg' S1 S2
  cases ok1 : sysOkB d.1 d.2 with
  | false =>
    have HS := Lib.hid ok1
    clear ok1
    go_enter Try.func47, Try.ntmps47
    go_wp2_with fail
    rw [← HW.out]
    refine LS1.out.mono ?_
    rintro e w1 ⟨he, bb⟩
    rw [HS.out] at he
    subst he
    have F := Lib.hid (ansB (b := sameSB d.1 d'.1 d.2 d'.2) (a := false) (by rw [ss_no HS.out]) (next_trans bel bb))
    clear bel rA rB bb
    go_wp2
    go_ret
    exact F.out
  | true =>
    have HS := Lib.hid ok1
    clear ok1
    go_enter Try.func47, Try.ntmps47
    go_wp2_with fail
    rw [← HW.out]
    refine LS1.out.mono ?_
    rintro e w1 ⟨he, bb⟩
    rw [HS.out] at he
    subst he
    replace rA := rA.next bb
    replace rB := rB.next bb
    replace bel := next_trans bel bb
    have b0 : w1.cell? ⟨w.heap.size + 1, 0, none⟩ = some (.slice A' n' c') := rB.cell 0
    have b1 : w1.cell? ⟨w.heap.size + 1, 1, none⟩ = some (.slice V' m' cv') := rB.cell 1
    clear bb LS1
    go_wp2_with fail
    refine (LS2.out w1 bel).mono ?_
    cases ok2 : sysOkB d'.1 d'.2 with
    | false =>
      have HS2 := Lib.hid ok2
      clear ok2
      rintro e w2 ⟨he, bb⟩
      subst he
      have F := Lib.hid (ansB (b := sameSB d.1 d'.1 d.2 d'.2) (a := false) (by rw [same_sys HS2.out]) (next_trans bel bb))
      clear bel rA rB bb b0 b1
      go_wp2
      go_ret
      exact F.out
    | true =>
      have HS2 := Lib.hid ok2
      clear ok2
      rintro e w2 ⟨he, bb⟩
      subst he
      replace rA := rA.next bb
      replace rB := rB.next bb
      replace bel := next_trans bel bb
      have a0 : w2.cell? ⟨w.heap.size, 0, none⟩ = some (.slice A n c) := rA.cell 0
      have b0' : w2.cell? ⟨w.heap.size + 1, 0, none⟩ = some (.slice A' n' c') := rB.cell 0
      clear bb LS2 b0 b1
      go_wp2_with fail
      refine (LT.out w2 bel).mono ?_
      cases ok3 : decide (d.1 = d'.1) with
      | false =>
        have HS3 := Lib.hid ok3
        clear ok3
        rintro e w3 ⟨he, dd, rfl⟩
        rw [HS3.out] at he
        subst he
        have F := Lib.hid (ansB (b := sameSB d.1 d'.1 d.2 d'.2) (a := false) (by rw [ss_sig HS3.out]) (below_drewN bel dd))
        clear bel rA rB a0 b0'
        go_wp2
        go_ret
        exact F.out
      | true =>
        have HS3 := Lib.hid ok3
        clear ok3
        rintro e w3 ⟨he, dd, hw3⟩
        rw [HS3.out] at he
        subst he
        replace rA := rA.drewN dd
        replace rB := rB.drewN dd
        replace bel := below_drewN bel dd
        rw [← hw3] at rA rB bel
        have a1 : w3.cell? ⟨w.heap.size, 1, none⟩ = some (.slice V m cv) := rA.cell 1
        have b1 : w3.cell? ⟨w.heap.size + 1, 1, none⟩ = some (.slice V' m' cv') := rB.cell 1
        clear a0 b0' hw3 LT
        by_cases hmm : m = m'
        · subst hmm
          have H0 : Hid (HeadSS w 29 #[.slice A n c, .slice V m cv] #[.slice A' n' c', .slice V' m cv'] m d.2 d'.2 (.int .i64 0) w3) := Lib.hid ⟨0, Nat.zero_le _, rfl, fun j hj => absurd hj (Nat.not_lt_zero _), rA, rB, bel⟩
          clear rA rB bel
          go_wp2_with fail
          go_loopw [5] (fun i wr => HeadSS w 29 #[.slice A n c, .slice V m cv] #[.slice A' n' c', .slice V' m cv'] m d.2 d'.2 i wr) (fun i _ => m - (intOf i).toNat)
          case atStart => exact H0.out
          case round =>
            obtain ⟨k, hk, rfl, hlow, rr, rr', hb⟩ := hrel
            have HLOW := Lib.hid hlow
            clear hlow H0 a1 b1
            by_cases hlt : k < m
            · obtain ⟨b, off, l, r, x, rfl, hbB, ex, hc0, hc1, hx⟩ := rd_at HR.out hb HM.out hlt
              obtain ⟨b', off', l', r', y, rfl, hbB', ey, hc0', hc1', hy⟩ := rd_at HR'.out hb HM'.out hlt
              have a1 : wr.cell? ⟨w.heap.size, 1, none⟩ = some (.slice (some ⟨b, off, none⟩) m cv) := rr.cell 1
              have b1 : wr.cell? ⟨w.heap.size + 1, 1, none⟩ = some (.slice (some ⟨b', off', none⟩) m cv') := rr'.cell 1
              have hzx : sz sRule x ≤ 1048576 := by have := HE.out k hlt; rw [ex.out] at this; exact this
              have hzy : sz sRule y ≤ 1048576 := by have := HE'.out k hlt; rw [ey.out] at this; exact this
              have L := Lib.hid (specSameRule l r l' r' x y wr.drew ((hx.more hb.size).keep (fun _ _ => rfl)) ((hy.more hb.size).keep (fun _ _ => rfl)) hzx hzy)
              have i0 : (0 : Int) ≤ (k : Int) := by omega
              have i1 : (k : Int) < (m : Int) := by omega
              have hbr : b < wr.drew.heap.size := Nat.lt_of_lt_of_le hbB hb.size
              have hbr' : b' < wr.drew.heap.size := Nat.lt_of_lt_of_le hbB' hb.size
              have rd := rr.drew
              have rd' := rr'.drew
              have hbd := hb.drew
              clear hx hy rr rr' hb hzx hzy
              cases ok : sameRB x y with
              | false =>
                have HO := Lib.hid ok
                clear ok
                have BAD := Lib.hid (show sameSB d.1 d'.1 d.2 d'.2 = false from ss_rule ex.out ey.out HO.out)
                go_wp2_with fail
                go_region_held3 (fun w' => w'.cell? ⟨w.heap.size, 1, none⟩ = some (.slice (some ⟨b, off, none⟩) m cv) ∧ w'.cell? ⟨w.heap.size + 1, 1, none⟩ = some (.slice (some ⟨b', off', none⟩) m cv') ∧ w'.cell? ⟨b, off + k * 2, none⟩ = some l ∧ w'.cell? ⟨b, off + k * 2 + 1, none⟩ = some r ∧ w'.cell? ⟨b', off' + k * 2, none⟩ = some l' ∧ w'.cell? ⟨b', off' + k * 2 + 1, none⟩ = some r')
                  (go_keep)
                  (first
                    | (go_at_call 87; refine L.out.mono ?_; rintro e w4 ⟨he, bb⟩; rw [HO.out] at he; subst he; have x1 : w4.cell? ⟨w.heap.size, 1, none⟩ = some (.slice (some ⟨b, off, none⟩) m cv) := (rd.next bb).cell 1; have x2 : w4.cell? ⟨w.heap.size + 1, 1, none⟩ = some (.slice (some ⟨b', off', none⟩) m cv') := (rd'.next bb).cell 1; have x3 := (bb.cell (p := ⟨b, off + k * 2, none⟩) hbr).trans hc0; have x4 := (bb.cell (p := ⟨b, off + k * 2 + 1, none⟩) hbr).trans hc1; have x5 := (bb.cell (p := ⟨b', off' + k * 2, none⟩) hbr').trans hc0'; have x6 := (bb.cell (p := ⟨b', off' + k * 2 + 1, none⟩) hbr').trans hc1'))
                have F := Lib.hid (ansB (b := sameSB d.1 d'.1 d.2 d'.2) (a := false) BAD.out.symm (next_trans hbd bb))
                clear bb rd rd' hbd L x1 x2 x3 x4 x5 x6 a1 b1 hc0 hc1 hc0' hc1'
                go_wp2
                go_ret
                exact F.out
              | true =>
                have HO := Lib.hid ok
                clear ok
                go_wp2_with fail
                go_region_held3 (fun w' => w'.cell? ⟨w.heap.size, 1, none⟩ = some (.slice (some ⟨b, off, none⟩) m cv) ∧ w'.cell? ⟨w.heap.size + 1, 1, none⟩ = some (.slice (some ⟨b', off', none⟩) m cv') ∧ w'.cell? ⟨b, off + k * 2, none⟩ = some l ∧ w'.cell? ⟨b, off + k * 2 + 1, none⟩ = some r ∧ w'.cell? ⟨b', off' + k * 2, none⟩ = some l' ∧ w'.cell? ⟨b', off' + k * 2 + 1, none⟩ = some r')
                  (go_keep)
                  (first
                    | (go_at_call 87; refine L.out.mono ?_; rintro e w4 ⟨he, bb⟩; rw [HO.out] at he; subst he; have x1 : w4.cell? ⟨w.heap.size, 1, none⟩ = some (.slice (some ⟨b, off, none⟩) m cv) := (rd.next bb).cell 1; have x2 : w4.cell? ⟨w.heap.size + 1, 1, none⟩ = some (.slice (some ⟨b', off', none⟩) m cv') := (rd'.next bb).cell 1; have x3 := (bb.cell (p := ⟨b, off + k * 2, none⟩) hbr).trans hc0; have x4 := (bb.cell (p := ⟨b, off + k * 2 + 1, none⟩) hbr).trans hc1; have x5 := (bb.cell (p := ⟨b', off' + k * 2, none⟩) hbr').trans hc0'; have x6 := (bb.cell (p := ⟨b', off' + k * 2 + 1, none⟩) hbr').trans hc1'))
                have F := Lib.hid (headSS_step (w := w) hlt HLOW.out ex ey HO.out (rd.next bb) (rd'.next bb) (next_trans hbd bb))
                clear bb rd rd' hbd L x1 x2 x3 x4 x5 x6 a1 b1 hc0 hc1 hc0' hc1'
                go_wp2
                go_roundw
                case rel => exact F.out
                case measure => simp [intOf]; omega
            · have a1 : wr.cell? ⟨w.heap.size, 1, none⟩ = some (.slice V m cv) := rr.cell 1
              have F := Lib.hid (ansB (b := sameSB d.1 d'.1 d.2 d'.2) (a := true) (by rw [ss_yes HS.out HS3.out HM.out HM'.out (fun j hj => HLOW.out j (by omega))]) hb)
              clear rr rr' hb
              go_wp2
              go_ret
              exact F.out
        · have hne : ((m : Int) != (m' : Int)) = true := by simp; omega
          have F := Lib.hid (ansB (b := sameSB d.1 d'.1 d.2 d'.2) (a := false) (by rw [ss_len HM.out HM'.out hmm]) bel)
          clear bel rA rB
          go_wp2
          go_ret
          exact F.out

/-! ### LeftLinearIn -/
theorem ll_no {sg : List Int} {rs : List Rl} (h : sysOkB sg rs = false) : leftLinB sg rs = false := by unfold leftLinB; rw [h]; rfl
theorem ll_bad {sg : List Int} {rs : List Rl} {k : Nat} {x : Rl} (hk : k < rs.length) (ex : rs.getD k ([], []) = x) (h : linB x.1 = false) : leftLinB sg rs = false := by
  unfold leftLinB leftB
  rw [any_round hk (f := fun r => !linB r.1) (by rw [ex, h]; rfl)]; simp
theorem ll_yes {sg : List Int} {rs : List Rl} (h : sysOkB sg rs = true) (hl : ∀ j, j < rs.length → linB (rs.getD j ([], [])).1 = true) : leftLinB sg rs = true := by
  unfold leftLinB leftB
  rw [h, any_rounds (f := fun r => !linB r.1) (fun j hj => by rw [hl j hj]; rfl)]; rfl

set_option maxHeartbeats 4000000 in
theorem specLeftLinearIn (a v : Value) (d : Dat sSystem) (w : World) (h : Rd w w.heap.size sSystem [a, v] d) (hz : sz sSystem d ≤ 1048576) :
    Calls Try.prog 32 #[.agg #[a, v]] w (AnsB w (leftLinB d.1 d.2)) := by
  have S1 := fun (w1 : World) (bb : Below w.heap.size w w1) => specSystemOk a v d w1 (h.next bb) hz
  obtain ⟨A, n, c, V, m, cv, rfl, rfl, hs, hc, hcv, hm, hn, hm1, hrs, hsg, hE⟩ := rd_sys h hz
  obtain ⟨W, hW, rA, bel⟩ := box1 w 29 #[.slice A n c, .slice V m cv]
  have HW := Lib.hid hW
  have HM := Lib.hid hm
  have HE := Lib.hid hE
  have HR := Lib.hid hrs
  have LS1 := Lib.hid (S1 W bel)
  clear hW h hz hs hc hcv hm hE hrs hsg S1
  cases ok1 : sysOkB d.1 d.2 with
  | false =>
    have HS := Lib.hid ok1
    clear ok1
    go_enter Try.func32, Try.ntmps32
    go_wp2_with fail
    rw [← HW.out]
    refine LS1.out.mono ?_
    rintro e w1 ⟨he, bb⟩
    rw [HS.out] at he
    subst he
    have F := Lib.hid (ansB (b := leftLinB d.1 d.2) (a := false) (by rw [ll_no HS.out]) (next_trans bel bb))
    clear bel rA bb
    go_wp2
    go_ret
    exact F.out
  | true =>
    have HS := Lib.hid ok1
    clear ok1
    go_enter Try.func32, Try.ntmps32
    go_wp2_with fail
    rw [← HW.out]
    refine LS1.out.mono ?_
    rintro e w1 ⟨he, bb⟩
    rw [HS.out] at he
    subst he
    have H0 : Hid (HeadSy w 29 #[.slice A n c, .slice V m cv] m (fun x => linB x.1) d.2 (.int .i64 0) w1) := Lib.hid ⟨0, Nat.zero_le _, rfl, fun j hj => absurd hj (Nat.not_lt_zero _), rA.next bb, next_trans bel bb⟩
    clear rA bel bb LS1
    go_wp2_with fail
    go_loopw [3] (fun i wr => HeadSy w 29 #[.slice A n c, .slice V m cv] m (fun x => linB x.1) d.2 i wr) (fun i _ => m - (intOf i).toNat)
    case atStart => exact H0.out
    case round =>
      obtain ⟨k, hk, rfl, hlow, rr, hb⟩ := hrel
      have HLOW := Lib.hid hlow
      clear hlow H0
      by_cases hlt : k < m
      · obtain ⟨b, off, l, r, x, rfl, hbB, ex, hc0, hc1, hx⟩ := rd_at HR.out hb HM.out hlt
        have a1 : wr.cell? ⟨w.heap.size, 1, none⟩ = some (.slice (some ⟨b, off, none⟩) m cv) := rr.cell 1
        have hzx : sz sRule x ≤ 1048576 := by have := HE.out k hlt; rw [ex.out] at this; exact this
        obtain ⟨A1, n1, c1, A2, n2, c2, rfl, rfl, s1, k1, s2, k2, hn1, hn2⟩ := rd_rule hx hzx
        have L := Lib.hid (l2Linear A1 n1 c1 x.1 wr (s1.more hb.size) hn1)
        have i0 : (0 : Int) ≤ (k : Int) := by omega
        have i1 : (k : Int) < (m : Int) := by omega
        clear hx hzx s1 s2 k1 k2
        cases ok : linB x.1 with
        | false =>
          have HO := Lib.hid ok
          clear ok
          have F := Lib.hid (ansB (b := leftLinB d.1 d.2) (a := false) (by rw [ll_bad (by rw [HM.out]; exact hlt) ex.out HO.out]) hb)
          clear rr hb
          go_wp2_with fail
          refine L.out.mono ?_
          rintro e w2 ⟨rfl, he⟩
          rw [HO.out] at he
          subst he
          clear L
          go_wp2
          go_ret
          exact F.out
        | true =>
          have HO := Lib.hid ok
          clear ok
          have F := Lib.hid (headSy_step (f := fun x => linB x.1) (w := w) hlt HLOW.out ex HO.out rr hb)
          clear rr hb
          go_wp2_with fail
          refine L.out.mono ?_
          rintro e w2 ⟨rfl, he⟩
          rw [HO.out] at he
          subst he
          clear L
          go_wp2
          go_roundw
          case rel => exact F.out
          case measure => simp [intOf]; omega
      · have a1 : wr.cell? ⟨w.heap.size, 1, none⟩ = some (.slice V m cv) := rr.cell 1
        have F := Lib.hid (ansB (b := leftLinB d.1 d.2) (a := true) (by rw [ll_yes HS.out (fun j hj => HLOW.out j (by rw [HM.out] at hj; omega))]) hb)
        clear rr hb
        go_wp2
        go_ret
        exact F.out

/-! ### CollapsingIn: the system is asked in each round -/
theorem cl_no {sg : List Int} {rs : List Rl} (h : sysOkB sg rs = false) : collB sg rs = false := by unfold collB; rw [h]; rfl
theorem cl_bad {sg : List Int} {rs : List Rl} {k : Nat} {x : Rl} (h : sysOkB sg rs = true) (hk : k < rs.length) (ex : rs.getD k ([], []) = x) (h2 : fallsB x = true) : collB sg rs = true := by
  unfold collB
  rw [h, any_round hk (f := fallsB) (by rw [ex, h2])]; rfl
theorem cl_yes {sg : List Int} {rs : List Rl} (hl : ∀ j, j < rs.length → fallsB (rs.getD j ([], [])) = false) : collB sg rs = false := by
  unfold collB
  rw [any_rounds (f := fallsB) hl]; simp

set_option maxHeartbeats 4000000 in
theorem specCollapsingIn (a v : Value) (d : Dat sSystem) (w : World) (h : Rd w w.heap.size sSystem [a, v] d) (hz : sz sSystem d ≤ 1048576) :
    Calls Try.prog 34 #[.agg #[a, v]] w (AnsB w (collB d.1 d.2)) := by
  have S1 := fun (w1 : World) (bb : Below w.heap.size w w1) => specSystemOk a v d w1 (h.next bb) hz
  obtain ⟨A, n, c, V, m, cv, rfl, rfl, hs, hc, hcv, hm, hn, hm1, hrs, hsg, hE⟩ := rd_sys h hz
  obtain ⟨W, hW, rA, bel⟩ := box1 w 29 #[.slice A n c, .slice V m cv]
  have HW := Lib.hid hW
  have HM := Lib.hid hm
  have HE := Lib.hid hE
  have HR := Lib.hid hrs
  have LS := Lib.hid S1
  have H0 : Hid (HeadSy w 29 #[.slice A n c, .slice V m cv] m (fun x => !fallsB x) d.2 (.int .i64 0) W) := Lib.hid ⟨0, Nat.zero_le _, rfl, fun j hj => absurd hj (Nat.not_lt_zero _), rA, bel⟩
  clear hW h hz hs hc hcv hm hE hrs hsg S1 rA bel
  go_enter Try.func34, Try.ntmps34
  go_wp2_with fail
  rw [← HW.out]
  go_loopw [3] (fun i wr => HeadSy w 29 #[.slice A n c, .slice V m cv] m (fun x => !fallsB x) d.2 i wr) (fun i _ => m - (intOf i).toNat)
  case atStart => exact H0.out
  case round =>
    obtain ⟨k, hk, rfl, hlow, rr, hb⟩ := hrel
    have HLOW := Lib.hid hlow
    clear hlow H0
    have a0 : wr.cell? ⟨w.heap.size, 0, none⟩ = some (.slice A n c) := rr.cell 0
    have a1 : wr.cell? ⟨w.heap.size, 1, none⟩ = some (.slice V m cv) := rr.cell 1
    by_cases hlt : k < m
    · have i1 : (k : Int) < (m : Int) := by omega
      cases ok : sysOkB d.1 d.2 with
      | false =>
        have HO := Lib.hid ok
        clear ok
        go_wp2_with fail
        refine (LS.out wr hb).mono ?_
        rintro e w2 ⟨he, bb⟩
        rw [HO.out] at he
        subst he
        have F := Lib.hid (ansB (b := collB d.1 d.2) (a := false) (by rw [cl_no HO.out]) (next_trans hb bb))
        clear rr hb bb a0 a1
        go_wp2
        go_ret
        exact F.out
      | true =>
        have HO := Lib.hid ok
        have HZ := Lib.hid ((sys_parts ok).2.2)
        clear ok
        go_wp2_with fail
        refine (LS.out wr hb).mono ?_
        rintro e w2 ⟨he, bb⟩
        rw [HO.out] at he
        subst he
        replace rr := rr.next bb
        replace hb := next_trans hb bb
        obtain ⟨b, off, l, r, x, rfl, hbB, ex, hc0, hc1, hx⟩ := rd_at HR.out hb HM.out hlt
        have a1' : w2.cell? ⟨w.heap.size, 1, none⟩ = some (.slice (some ⟨b, off, none⟩) m cv) := rr.cell 1
        have hzx : sz sRule x ≤ 1048576 := by have := HE.out k hlt; rw [ex.out] at this; exact this
        have hrx : ruleOkB d.1 x = true := HZ.out x (by rw [← ex.out]; exact rl_mem (by rw [HM.out]; exact hlt))
        obtain ⟨A1, n1, c1, A2, n2, c2, rfl, rfl, s1, k1, s2, k2, hn1, hn2⟩ := rd_rule hx hzx
        have hp := (term_len (rule_parts hrx).2.1).1
        rw [s2.1] at hp
        obtain ⟨b2, off2, y, rfl, hbB2, hy, ey⟩ := s2.spot (k := 0) (by omega)
        have hy0 : w2.cell? ⟨b2, off2, none⟩ = some (.int .i64 y) := by simpa using hy
        have i2 : (0 : Int) < (n2 : Int) := by omega
        have i0 : (0 : Int) ≤ (k : Int) := by omega
        by_cases hyn : y < 0
        · have hd : decide (y < 0) = true := decide_eq_true hyn
          have F := Lib.hid (ansB (b := collB d.1 d.2) (a := true) (by rw [cl_bad HO.out (by rw [HM.out]; exact hlt) ex.out (by unfold fallsB ruleMath.hd; rw [ey.out]; exact hd)]) hb)
          clear hx hzx s1 s2 k1 k2 rr hb bb a0 a1 hrx hy ey hc0 LS
          go_wp2
          go_ret
          exact F.out
        · have hd : decide (y < 0) = false := decide_eq_false hyn
          have F := Lib.hid (headSy_step (f := fun x => !fallsB x) (w := w) hlt HLOW.out ex (by unfold fallsB ruleMath.hd; rw [ey.out, hd]; rfl) rr hb)
          clear hx hzx s1 s2 k1 k2 rr hb bb a0 a1 hrx hy ey hc0 LS
          go_wp2
          go_roundw
          case rel => exact F.out
          case measure => simp [intOf]; omega
    · have F := Lib.hid (ansB (b := collB d.1 d.2) (a := false) (by rw [cl_yes (fun j hj => by have := HLOW.out j (by rw [HM.out] at hj; omega); simpa using this)]) hb)
      clear rr hb
      go_wp2
      go_ret
      exact F.out
end Go.Proofs.Ytdkjafjphgcbjaa.ruleSpec
end

section
/-
  CONTRACTS: impl.sameRule, slices.EqualFunc of rules over it, impl.SameSystem. Conditions: the arguments read as data ('Rd'), at most 1048576 numbers. By an AI agent.
-/
namespace Go.Proofs.Ytdkjafjphgcbjaa.ruleImpl
open Go.RowKit Go.Proofs.Ytdkjafjphgcbjaa.base Go.Proofs.Ytdkjafjphgcbjaa.ints Go.Proofs.Ytdkjafjphgcbjaa.sig Go.Proofs.Ytdkjafjphgcbjaa.term Go.Proofs.Ytdkjafjphgcbjaa.termOk Go.Proofs.Ytdkjafjphgcbjaa.marks Go.Proofs.Ytdkjafjphgcbjaa.app Go.Proofs.Ytdkjafjphgcbjaa.sym Go.Proofs.Ytdkjafjphgcbjaa.segs Go.Proofs.Ytdkjafjphgcbjaa.termFacts Go.Proofs.Ytdkjafjphgcbjaa.varsMath Go.Proofs.Ytdkjafjphgcbjaa.varsOf Go.Proofs.Ytdkjafjphgcbjaa.rename Go.Proofs.Ytdkjafjphgcbjaa.same Go.Proofs.Ytdkjafjphgcbjaa.count Go.Proofs.Ytdkjafjphgcbjaa.linear Go.Proofs.Ytdkjafjphgcbjaa.shape Go.Proofs.Ytdkjafjphgcbjaa.kindsR Go.Proofs.Ytdkjafjphgcbjaa.ruleMath Go.Proofs.Ytdkjafjphgcbjaa.ruleSpec Go.Proofs.Ytdkjafjphgcbjaa.anyR
set_option maxRecDepth 100000

set_option maxHeartbeats 4000000 in
theorem implSameRule (l r l' r' : Value) (x y : Dat sRule) (w : World) (h : Rd w w.heap.size sRule [l, r] x) (h' : Rd w w.heap.size sRule [l', r'] y) (hz : sz sRule x ≤ 1048576) (hz' : sz sRule y ≤ 1048576) :
    Calls Try.prog 74 #[.agg #[l, r], .agg #[l', r']] w (AnsB w (sameRB x y)) := by
  obtain ⟨A1, n1, c1, A2, n2, c2, rfl, rfl, s1, k1, s2, k2, hn1, hn2⟩ := rd_rule h hz
  obtain ⟨B1, m1, e1, B2, m2, e2, rfl, rfl, t1, q1, t2, q2, hm1, hm2⟩ := rd_rule h' hz'
  obtain ⟨W, hW, rA, rB, bel⟩ := box2 w 35 35 #[.slice A1 n1 c1, .slice A2 n2 c2] #[.slice B1 m1 e1, .slice B2 m2 e2]
  have HW := Lib.hid hW
  have L1 := Lib.hid (implSame A1 B1 n1 m1 c1 e1 x.1 y.1 W (s1.next bel) (t1.next bel) hn1 hm1)
  have L2 := Lib.hid (fun (w1 : World) (bb : Below w.heap.size w w1) => implSame A2 B2 n2 m2 c2 e2 x.2 y.2 w1 (s2.next bb) (t2.next bb) hn2 hm2)
  clear hW h h' hz hz' k1 k2 q1 q2 s1 s2 t1 t2
  cases ok1 : decide (x.1 = y.1) with
  | false =>
    have HS := Lib.hid ok1
    clear ok1
    go_enter Try.func74, Try.ntmps74
    go_wp2_with fail
    rw [← HW.out]
    refine L1.out.mono ?_
    rintro e w1 ⟨he, d, rfl⟩
    rw [HS.out] at he
    subst he
    have F := Lib.hid (ansB (b := sameRB x y) (a := false) (by rw [same_noL HS.out]) (below_drewN bel d))
    clear bel rA rB
    go_wp2
    go_ret
    exact F.out
  | true =>
    have HS := Lib.hid ok1
    clear ok1
    go_enter Try.func74, Try.ntmps74
    go_wp2_with fail
    rw [← HW.out]
    refine L1.out.mono ?_
    rintro e w1 ⟨he, d, hw1⟩
    rw [HS.out] at he
    subst he
    have rA1 : Row w1 w.heap.size 35 #[.slice A1 n1 c1, .slice A2 n2 c2] := by rw [hw1]; exact rA.drewN d
    have rB1 : Row w1 (w.heap.size + 1) 35 #[.slice B1 m1 e1, .slice B2 m2 e2] := by rw [hw1]; exact rB.drewN d
    have bel1 : Below w.heap.size w w1 := by rw [hw1]; exact below_drewN bel d
    have cA : w1.cell? ⟨w.heap.size, 1, none⟩ = some (.slice A2 n2 c2) := rA1.cell 1
    have cB : w1.cell? ⟨w.heap.size + 1, 1, none⟩ = some (.slice B2 m2 e2) := rB1.cell 1
    clear hw1 L1 rA rB bel
    go_wp2_with fail
    refine (L2.out w1 bel1).mono ?_
    rintro e w2 ⟨he, d2, rfl⟩
    rw [← same_L HS.out] at he
    subst he
    have F := Lib.hid (ansB (b := sameRB x y) (a := sameRB x y) rfl (below_drewN bel1 d2))
    clear bel1 rA1 rB1 cA cB L2
    go_wp2
    go_ret
    exact F.out


def HeadEq (w : World) (n : Nat) (xs ys : List Rl) (i : Value) (wr : World) : Prop := ∃ k : Nat, k ≤ n ∧ i = .int .i64 k ∧ (∀ j, j < k → xs.getD j ([], []) = ys.getD j ([], [])) ∧ Below w.heap.size w wr
theorem eq_no {xs ys : List Rl} {k : Nat} {x y : Rl} (ex : xs.getD k ([], []) = x) (ey : ys.getD k ([], []) = y) (h : sameRB x y = false) : decide (xs = ys) = false :=
  decide_eq_false fun e => (of_decide_eq_false h) (by rw [← ex, ← ey, e])
theorem eq_len {xs ys : List Rl} {n m : Nat} (hn : xs.length = n) (hm : ys.length = m) (h : n ≠ m) : decide (xs = ys) = false := decide_eq_false fun e => by rw [e] at hn; omega
theorem eq_yes {xs ys : List Rl} {n : Nat} (hn : xs.length = n) (hm : ys.length = n) (h : ∀ j, j < n → xs.getD j ([], []) = ys.getD j ([], [])) : decide (xs = ys) = true := decide_eq_true (lists_eq (by omega) (fun j hj => h j (by omega)))

set_option maxHeartbeats 8000000 in
theorem equalRules (A B : Option Addr) (n c m c' : Nat) (xs ys : List Rl) (w : World) (h : Rd w w.heap.size sRuleS [.slice A n c] xs) (h' : Rd w w.heap.size sRuleS [.slice B m c'] ys) (hl : xs.length = n) (hl' : ys.length = m) (hz : sz sRuleS xs ≤ 1048576) (hz' : sz sRuleS ys ≤ 1048576) :
    Calls Try.prog 73 #[.slice A n c, .slice B m c', .func (.func 74) #[] #[]] w (AnsB w (decide (xs = ys))) := by
  have hn1 : n ≤ 1048576 := by rw [← hl]; exact sz_len hz
  have HL := Lib.hid hl
  have HL' := Lib.hid hl'
  have HR := Lib.hid h
  have HR' := Lib.hid h'
  have HZ := Lib.hid hz
  have HZ' := Lib.hid hz'
  have eg : ∀ args w, (callFunc 74 args).run Try.prog w = .ok (.enter 74 args) w := fun _ _ => rfl
  clear h h' hz hz' hl hl'
  by_cases hnm : n = m
  · subst hnm
    go_enter Try.func73, Try.ntmps73
    go_wp2_with fail
    go_loopw [17] (fun i wr => HeadEq w n xs ys i wr) (fun i _ => n - (intOf i).toNat)
    case atStart => exact ⟨0, Nat.zero_le _, rfl, fun j hj => absurd hj (Nat.not_lt_zero _), Below.refl _ _⟩
    case round =>
      obtain ⟨k, hk, rfl, hlow, hb⟩ := hrel
      have HLOW := Lib.hid hlow
      clear hlow
      by_cases hlt : k < n
      · obtain ⟨b, off, l, r, x, rfl, hbB, ex, hc0, hc1, hx⟩ := rd_at HR.out hb HL.out hlt
        obtain ⟨b', off', l', r', y, rfl, hbB', ey, hc0', hc1', hy⟩ := rd_at HR'.out hb HL'.out hlt
        have hzx : sz sRule x ≤ 1048576 := by have := sz_each HZ.out (j := k) (by rw [HL.out]; exact hlt); rw [show xs.getD k (dft sRule) = x from ex.out] at this; exact this
        have hzy : sz sRule y ≤ 1048576 := by have := sz_each HZ'.out (j := k) (by rw [HL'.out]; exact hlt); rw [show ys.getD k (dft sRule) = y from ey.out] at this; exact this
        obtain ⟨A1, n1, c1, A2, n2, c2, rfl, rfl, -⟩ := rd_rule hx hzx
        obtain ⟨B1, m1, e1, B2, m2, e2, rfl, rfl, -⟩ := rd_rule hy hzy
        have hx0 := (hx.more hb.size)
        have hy0 := (hy.more hb.size)
        have bA : Below wr.heap.size wr (wr.alloc (.cells #[.slice A1 n1 c1, .slice A2 n2 c2] 35)) := (Below.refl _ _).alloc (Nat.le_refl _) _
        have k0 := (bA.cell (p := ⟨b', off' + k * 2, none⟩) (Nat.lt_of_lt_of_le hbB' hb.size)).trans hc0'
        have k1 := (bA.cell (p := ⟨b', off' + k * 2 + 1, none⟩) (Nat.lt_of_lt_of_le hbB' hb.size)).trans hc1'
        obtain ⟨w2, hw2, rX, rY, bb⟩ := box2 wr 35 35 #[.slice A1 n1 c1, .slice A2 n2 c2] #[.slice B1 m1 e1, .slice B2 m2 e2]
        have L := Lib.hid (implSameRule _ _ _ _ x y w2 (hx0.next bb) (hy0.next bb) hzx hzy)
        have HW2 := Lib.hid hw2
        have x0 := rX.cell 0
        have x1 := rX.cell 1
        rw [hw2] at x0 x1
        have hb2 := next_trans hb bb
        have i0 : (0 : Int) ≤ (k : Int) := by omega
        have i1 : (k : Int) < (n : Int) := by omega
        clear hx hy hzx hzy hx0 hy0 bA hb bb rX rY hw2
        obtain ⟨z, hzz⟩ : ∃ z, sameRB x y = z := ⟨_, rfl⟩
        rw [hzz] at L
        have HS := Lib.hid hzz
        clear hzz
        cases z with
        | false =>
          have ok := HS.out
          go_wp2_with (go_at_fn 74; rw [← HW2.out]; refine L.out.mono ?_; rintro e w3 ⟨rfl, bb⟩)
          have F := Lib.hid (ansB (b := decide (xs = ys)) (a := false) (by rw [eq_no ex.out ey.out ok]) (next_trans hb2 bb))
          clear bb hb2 L x0 x1 k0 k1 hc0 hc1 hc0' hc1' ok
          go_wp2
          go_ret
          exact F.out
        | true =>
          have ok := HS.out
          go_wp2_with (go_at_fn 74; rw [← HW2.out]; refine L.out.mono ?_; rintro e w3 ⟨rfl, bb⟩)
          have F : HeadEq w n xs ys (.int .i64 ((k : Int) + 1)) w3 := ⟨k + 1, hlt, by simp, fun j hj => by
            by_cases e : j = k
            · subst e; rw [ex.out, ey.out]; exact of_decide_eq_true ok
            · exact HLOW.out j (by omega), next_trans hb2 bb⟩
          have HF := Lib.hid F
          clear F bb hb2 L x0 x1 k0 k1 hc0 hc1 hc0' hc1' ok
          go_wp2
          go_roundw
          case rel => exact HF.out
          case measure => simp [intOf]; omega
      · have F := Lib.hid (ansB (b := decide (xs = ys)) (a := true) (by rw [eq_yes HL.out HL'.out (fun j hj => HLOW.out j (by omega))]) hb)
        clear hb
        go_wp2
        go_ret
        exact F.out
  · have hne : ((n : Int) != (m : Int)) = true := by simp; omega
    have F := Lib.hid (ansB (b := decide (xs = ys)) (a := false) (by rw [eq_len HL.out HL'.out hnm]) (Below.refl w.heap.size w))
    go_enter Try.func73, Try.ntmps73
    go_wp2
    go_ret
    exact F.out

theorem ss_form {sg sg' : List Int} {rs rs' : List Rl} (h : sysOkB sg rs = true) (h2 : decide (sg = sg') = true) : sameSB sg sg' rs rs' = decide (rs = rs') := by unfold sameSB; rw [h, h2]; rfl

set_option maxHeartbeats 8000000 in
theorem implSameSystem (a v a' v' : Value) (d d' : Dat sSystem) (w : World) (h : Rd w w.heap.size sSystem [a, v] d) (h' : Rd w w.heap.size sSystem [a', v'] d') (hz : sz sSystem d ≤ 1048576) (hz' : sz sSystem d' ≤ 1048576) :
    Calls Try.prog 27 #[.agg #[a, v], .agg #[a', v']] w (AnsB w (sameSB d.1 d'.1 d.2 d'.2)) := by
  have S1 := fun (w1 : World) (bb : Below w.heap.size w w1) => implSystemOk a v d w1 (h.next bb) hz
  have zr := (sys_szs hz).2
  have zr' := (sys_szs hz').2
  obtain ⟨A, n, c, V, m, cv, rfl, rfl, hs, hc, hcv, hm, hn, hm1, hrs, hsg, hE⟩ := rd_sys h hz
  obtain ⟨A', n', c', V', m', cv', rfl, rfl, hs', hc', hcv', hm', hn', hm1', hrs', hsg', hE'⟩ := rd_sys h' hz'
  obtain ⟨W, hW, rA, rB, bel⟩ := box2 w 29 29 #[.slice A n c, .slice V m cv] #[.slice A' n' c', .slice V' m' cv']
  have HW := Lib.hid hW
  have LS1 := Lib.hid (S1 W bel)
  have LT := Lib.hid (fun (w1 : World) (bb : Below w.heap.size w w1) => libEqual A A' n n' c c' d.1 d'.1 w1 (hs.next bb) (hs'.next bb) hn hn')
  have LR := Lib.hid (fun (w1 : World) (bb : Below w.heap.size w w1) => equalRules V V' m cv m' cv' d.2 d'.2 w1 (hrs.next bb) (hrs'.next bb) hm hm' zr zr')
  clear hW h h' hz hz' hs hs' hc hc' hcv hcv' hm hm' hE hE' hrs hrs' hsg hsg' S1 zr zr'
  cases ok1 : sysOkB d.1 d.2 with
  | false =>
    have HS := Lib.hid ok1
    clear ok1
    go_enter Try.func27, Try.ntmps27
    go_wp2_with fail
    rw [← HW.out]
    refine LS1.out.mono ?_
    rintro e w1 ⟨he, bb⟩
    rw [HS.out] at he
    subst he
    have F := Lib.hid (ansB (b := sameSB d.1 d'.1 d.2 d'.2) (a := false) (by rw [ss_no HS.out]) (next_trans bel bb))
    clear bel rA rB bb
    go_wp2
    go_ret
    exact F.out
  | true =>
    have HS := Lib.hid ok1
    clear ok1
    go_enter Try.func27, Try.ntmps27
    go_wp2_with fail
    rw [← HW.out]
    refine LS1.out.mono ?_
    rintro e w1 ⟨he, bb⟩
    rw [HS.out] at he
    subst he
    replace rA := rA.next bb
    replace rB := rB.next bb
    replace bel := next_trans bel bb
    have a0 : w1.cell? ⟨w.heap.size, 0, none⟩ = some (.slice A n c) := rA.cell 0
    have b0 : w1.cell? ⟨w.heap.size + 1, 0, none⟩ = some (.slice A' n' c') := rB.cell 0
    clear bb LS1
    go_wp2_with fail
    refine (LT.out w1 bel).mono ?_
    cases ok3 : decide (d.1 = d'.1) with
    | false =>
      have HS3 := Lib.hid ok3
      clear ok3
      rintro e w3 ⟨he, dd, rfl⟩
      rw [HS3.out] at he
      subst he
      have F := Lib.hid (ansB (b := sameSB d.1 d'.1 d.2 d'.2) (a := false) (by rw [ss_sig HS3.out]) (below_drewN bel dd))
      clear bel rA rB a0 b0
      go_wp2
      go_ret
      exact F.out
    | true =>
      have HS3 := Lib.hid ok3
      clear ok3
      rintro e w3 ⟨he, dd, hw3⟩
      rw [HS3.out] at he
      subst he
      replace rA := rA.drewN dd
      replace rB := rB.drewN dd
      replace bel := below_drewN bel dd
      rw [← hw3] at rA rB bel
      have a1 : w3.cell? ⟨w.heap.size, 1, none⟩ = some (.slice V m cv) := rA.cell 1
      have b1 : w3.cell? ⟨w.heap.size + 1, 1, none⟩ = some (.slice V' m' cv') := rB.cell 1
      clear a0 b0 hw3 LT
      go_wp2_with fail
      refine (LR.out w3 bel).mono ?_
      rintro e w4 ⟨he, bb⟩
      rw [← ss_form HS.out HS3.out] at he
      subst he
      have F := Lib.hid (ansB (b := sameSB d.1 d'.1 d.2 d'.2) rfl (next_trans bel bb))
      clear bel bb rA rB a1 b1 LR
      generalize sameSB d.1 d'.1 d.2 d'.2 = z at *
      go_wp2
      go_ret
      exact F.out
end Go.Proofs.Ytdkjafjphgcbjaa.ruleImpl
end

section
/-
  THE WALK of laws.FnExactSameSystem: it returns true, whatever the arguments, and writes nothing that was there. Conditions: the arguments read as data. Written by a program of mine (gen_x.py). By an AI agent.
-/
namespace Go.Proofs.Ytdkjafjphgcbjaa.wSameSystem
open Go.RowKit Go.Proofs.Ytdkjafjphgcbjaa.base Go.Proofs.Ytdkjafjphgcbjaa.ints Go.Proofs.Ytdkjafjphgcbjaa.sig Go.Proofs.Ytdkjafjphgcbjaa.cursor Go.Proofs.Ytdkjafjphgcbjaa.marks Go.Proofs.Ytdkjafjphgcbjaa.app Go.Proofs.Ytdkjafjphgcbjaa.sym Go.Proofs.Ytdkjafjphgcbjaa.appAt Go.Proofs.Ytdkjafjphgcbjaa.segs Go.Proofs.Ytdkjafjphgcbjaa.segsHelp Go.Proofs.Ytdkjafjphgcbjaa.segsMark Go.Proofs.Ytdkjafjphgcbjaa.kinds Go.Proofs.Ytdkjafjphgcbjaa.shape Go.Proofs.Ytdkjafjphgcbjaa.varsOf Go.Proofs.Ytdkjafjphgcbjaa.kindsR Go.Proofs.Ytdkjafjphgcbjaa.ruleMath Go.Proofs.Ytdkjafjphgcbjaa.ruleSpec Go.Proofs.Ytdkjafjphgcbjaa.ruleImpl
set_option maxRecDepth 100000

set_option maxHeartbeats 8000000 in
theorem law (v0_0 v0_1 : Value) (d0 : Dat sSystem) (v1_0 v1_1 : Value) (d1 : Dat sSystem) (w : World) (s0 : Rd w w.heap.size sSystem [v0_0, v0_1] d0) (s1 : Rd w w.heap.size sSystem [v1_0, v1_1] d1) :
    Calls Try.prog 7 #[.agg #[v0_0, v0_1], .agg #[v1_0, v1_1]] w (Fine w) := by
  obtain ⟨W, hW⟩ : ∃ W, W = (w.alloc (.cells #[v0_0, v0_1] 51)).alloc (.cells #[v1_0, v1_1] 51) := ⟨_, rfl⟩
  have rA0 : Row W (w.heap.size) 51 #[v0_0, v0_1] := by rw [hW]; have := (Row.new (w) 51 #[v0_0, v0_1]).alloc (.cells #[v1_0, v1_1] 51); simpa using this
  have rA1 : Row W (w.heap.size + 1) 51 #[v1_0, v1_1] := by rw [hW]; have := Row.new (w.alloc (.cells #[v0_0, v0_1] 51)) 51 #[v1_0, v1_1]; simpa using this
  have bW : Below w.heap.size w W := by rw [hW]; exact ((Below.refl w.heap.size w).alloc (by simp) (.cells #[v0_0, v0_1] 51)).alloc (by simp) (.cells #[v1_0, v1_1] 51)
  have zA0 := rA0.lt
  have zA1 := rA1.lt
  replace s0 := s0.next bW
  replace s1 := s1.next bW
  have HW := Lib.hid hW
  clear hW
  obtain ⟨t0, ht0⟩ : ∃ z, sz sSystem d0 = z := ⟨_, rfl⟩
  have HT0 := Lib.hid ht0
  clear ht0
  obtain ⟨t1, ht1⟩ : ∃ z, sz sSystem d1 = z := ⟨_, rfl⟩
  have HT1 := Lib.hid ht1
  clear ht1
  obtain ⟨v, hv⟩ : ∃ v, sameSB d0.1 d1.1 d0.2 d1.2 = v := ⟨_, rfl⟩
  have HV := Lib.hid hv
  clear hv
  have ev : (v != v) = false := by simp
  go_enter Try.func7, Try.ntmps7
  go_wp2_with fail
  rw [← HW.out]
  clear HW
  have bel := Below.refl W.heap.size W
  have cA0_0 : W.cell? ⟨w.heap.size, 0, none⟩ = some (v0_0) := (rA0.next bel).cell 0
  have cA0_1 : W.cell? ⟨w.heap.size, 1, none⟩ = some (v0_1) := (rA0.next bel).cell 1
  have cA1_0 : W.cell? ⟨w.heap.size + 1, 0, none⟩ = some (v1_0) := (rA1.next bel).cell 0
  have cA1_1 : W.cell? ⟨w.heap.size + 1, 1, none⟩ = some (v1_1) := (rA1.next bel).cell 1
  refine (szK_System _ _ d0 (1048576) _ (s0.next bel) (by omega) (by omega)).mono ?_
  rintro e w1 ⟨he, bb⟩
  rw [HT0.out] at he
  replace bel := next_trans bel bb
  have zw1 := bb.size
  clear bb
  by_cases q0 : t0 ≤ 1048576
  case neg =>
    rw [if_pos (by omega)] at he
    subst he
    have F := Lib.hid (bW.trans (bel.mono bW.size))
    clear bel bW cA0_0 cA0_1 cA1_0 cA1_1
    go_wp2
    go_ret
    exact ⟨rfl, F.out⟩
  rw [if_neg (by omega)] at he
  subst he
  have h0 : Hid (sz sSystem d0 ≤ 1048576) := Lib.hid (by rw [HT0.out]; omega)
  clear cA0_0 cA0_1 cA1_0 cA1_1
  have cA0_0 : w1.cell? ⟨w.heap.size, 0, none⟩ = some (v0_0) := (rA0.next bel).cell 0
  have cA0_1 : w1.cell? ⟨w.heap.size, 1, none⟩ = some (v0_1) := (rA0.next bel).cell 1
  have cA1_0 : w1.cell? ⟨w.heap.size + 1, 0, none⟩ = some (v1_0) := (rA1.next bel).cell 0
  have cA1_1 : w1.cell? ⟨w.heap.size + 1, 1, none⟩ = some (v1_1) := (rA1.next bel).cell 1
  go_wp2_with fail
  refine (szK_System _ _ d1 (1048576 - (t0 : Int)) _ (s1.next bel) (by omega) (by omega)).mono ?_
  rintro e w2 ⟨he, bb⟩
  rw [HT1.out] at he
  replace bel := next_trans bel bb
  have zw2 := bb.size
  clear bb
  by_cases q1 : t0 + t1 ≤ 1048576
  case neg =>
    rw [if_pos (by omega)] at he
    subst he
    have F := Lib.hid (bW.trans (bel.mono bW.size))
    clear bel bW cA0_0 cA0_1 cA1_0 cA1_1
    go_wp2
    go_ret
    exact ⟨rfl, F.out⟩
  rw [if_neg (by omega)] at he
  subst he
  have h1 : Hid (sz sSystem d1 ≤ 1048576) := Lib.hid (by rw [HT1.out]; omega)
  clear cA0_0 cA0_1 cA1_0 cA1_1
  have cA0_0 : w2.cell? ⟨w.heap.size, 0, none⟩ = some (v0_0) := (rA0.next bel).cell 0
  have cA0_1 : w2.cell? ⟨w.heap.size, 1, none⟩ = some (v0_1) := (rA0.next bel).cell 1
  have cA1_0 : w2.cell? ⟨w.heap.size + 1, 0, none⟩ = some (v1_0) := (rA1.next bel).cell 0
  have cA1_1 : w2.cell? ⟨w.heap.size + 1, 1, none⟩ = some (v1_1) := (rA1.next bel).cell 1
  go_wp2_with fail
  replace bel := bel.drew
  have zdw2 := (drew_below w2).size
  go_region_held3 (fun w' => w'.cell? ⟨w.heap.size, 0, none⟩ = some (v0_0) ∧ w'.cell? ⟨w.heap.size, 1, none⟩ = some (v0_1) ∧ w'.cell? ⟨w.heap.size + 1, 0, none⟩ = some (v1_0) ∧ w'.cell? ⟨w.heap.size + 1, 1, none⟩ = some (v1_1))
    (go_keep)
    (first
      | (go_at_call_of 45 (Value.agg #[v0_0, v0_1]); refine (toK_System _ _ d0 _ (s0.next bel) h0.out).mono ?_; rintro e w3 ⟨p0A0, p0n0, p0c0, p0A1, p0n1, p0c1, rfl, op0, bb⟩; replace bel := next_trans bel bb; have cA0_0w3 : w3.cell? ⟨w.heap.size, 0, none⟩ = some (v0_0) := (rA0.next bel).cell 0; have cA0_1w3 : w3.cell? ⟨w.heap.size, 1, none⟩ = some (v0_1) := (rA0.next bel).cell 1; have cA1_0w3 : w3.cell? ⟨w.heap.size + 1, 0, none⟩ = some (v1_0) := (rA1.next bel).cell 0; have cA1_1w3 : w3.cell? ⟨w.heap.size + 1, 1, none⟩ = some (v1_1) := (rA1.next bel).cell 1; have zqw3 := bb.size; clear bb)
      | (go_at_call_of 45 (Value.agg #[v1_0, v1_1]); refine (toK_System _ _ d1 _ (s1.next bel) h1.out).mono ?_; rintro e w4 ⟨p1A0, p1n0, p1c0, p1A1, p1n1, p1c1, rfl, op1, bb⟩; replace op0 := op0.next bb; replace bel := next_trans bel bb; have cA0_0w4 : w4.cell? ⟨w.heap.size, 0, none⟩ = some (v0_0) := (rA0.next bel).cell 0; have cA0_1w4 : w4.cell? ⟨w.heap.size, 1, none⟩ = some (v0_1) := (rA0.next bel).cell 1; have cA1_0w4 : w4.cell? ⟨w.heap.size + 1, 0, none⟩ = some (v1_0) := (rA1.next bel).cell 0; have cA1_1w4 : w4.cell? ⟨w.heap.size + 1, 1, none⟩ = some (v1_1) := (rA1.next bel).cell 1; have zqw4 := bb.size; clear bb)
      | (go_at_call 47; refine (specSameSystem _ _ _ _ d0 d1 _ op0.rd op1.rd h0.out h1.out).mono ?_; rintro e w5 ⟨he, bb⟩; rw [HV.out] at he; subst he; replace bel := next_trans bel bb; have cA0_0w5 : w5.cell? ⟨w.heap.size, 0, none⟩ = some (v0_0) := (rA0.next bel).cell 0; have cA0_1w5 : w5.cell? ⟨w.heap.size, 1, none⟩ = some (v0_1) := (rA0.next bel).cell 1; have cA1_0w5 : w5.cell? ⟨w.heap.size + 1, 0, none⟩ = some (v1_0) := (rA1.next bel).cell 0; have cA1_1w5 : w5.cell? ⟨w.heap.size + 1, 1, none⟩ = some (v1_1) := (rA1.next bel).cell 1; have zqw5 := bb.size; clear bb op0 op1))
  clear cA0_0 cA0_1 cA1_0 cA1_1 cA0_0w5 cA0_1w5 cA1_0w5 cA1_1w5
  have cA0_0 : w5.cell? ⟨w.heap.size, 0, none⟩ = some (v0_0) := (rA0.next bel).cell 0
  have cA0_1 : w5.cell? ⟨w.heap.size, 1, none⟩ = some (v0_1) := (rA0.next bel).cell 1
  have cA1_0 : w5.cell? ⟨w.heap.size + 1, 0, none⟩ = some (v1_0) := (rA1.next bel).cell 0
  have cA1_1 : w5.cell? ⟨w.heap.size + 1, 1, none⟩ = some (v1_1) := (rA1.next bel).cell 1
  go_wp2_with fail
  refine (toK_System _ _ d0 _ (s0.next bel) h0.out).mono ?_
  rintro e w6 ⟨x0A0, x0n0, x0c0, x0A1, x0n1, x0c1, rfl, ox0, bb⟩
  replace bel := next_trans bel bb
  have zw6 := bb.size
  clear bb
  clear cA0_0 cA0_1 cA1_0 cA1_1
  have cA0_0 : w6.cell? ⟨w.heap.size, 0, none⟩ = some (v0_0) := (rA0.next bel).cell 0
  have cA0_1 : w6.cell? ⟨w.heap.size, 1, none⟩ = some (v0_1) := (rA0.next bel).cell 1
  have cA1_0 : w6.cell? ⟨w.heap.size + 1, 0, none⟩ = some (v1_0) := (rA1.next bel).cell 0
  have cA1_1 : w6.cell? ⟨w.heap.size + 1, 1, none⟩ = some (v1_1) := (rA1.next bel).cell 1
  have dA0_0 : (w6.alloc (.cells #[.slice x0A0 x0n0 x0c0, .slice x0A1 x0n1 x0c1] 29)).cell? ⟨w.heap.size, 0, none⟩ = some (v0_0) := ((rA0.next bel).alloc _).cell 0
  have dA0_1 : (w6.alloc (.cells #[.slice x0A0 x0n0 x0c0, .slice x0A1 x0n1 x0c1] 29)).cell? ⟨w.heap.size, 1, none⟩ = some (v0_1) := ((rA0.next bel).alloc _).cell 1
  have dA1_0 : (w6.alloc (.cells #[.slice x0A0 x0n0 x0c0, .slice x0A1 x0n1 x0c1] 29)).cell? ⟨w.heap.size + 1, 0, none⟩ = some (v1_0) := ((rA1.next bel).alloc _).cell 0
  have dA1_1 : (w6.alloc (.cells #[.slice x0A0 x0n0 x0c0, .slice x0A1 x0n1 x0c1] 29)).cell? ⟨w.heap.size + 1, 1, none⟩ = some (v1_1) := ((rA1.next bel).alloc _).cell 1
  go_wp2_with fail
  obtain ⟨w7, hw⟩ : ∃ W, W = w6.alloc (.cells #[.slice x0A0 x0n0 x0c0, .slice x0A1 x0n1 x0c1] 29) := ⟨_, rfl⟩
  rw [← hw]
  have rx0 : Row w7 w6.heap.size 29 #[.slice x0A0 x0n0 x0c0, .slice x0A1 x0n1 x0c1] := by rw [hw]; exact Row.new _ _ _
  have bb : Below w6.heap.size w6 w7 := by rw [hw]; exact (Below.refl _ _).alloc (Nat.le_refl _) _
  have yrx0 : w6.heap.size < w7.heap.size := by rw [hw]; simp
  clear hw
  replace ox0 := ox0.next bb
  replace bel := next_trans bel bb
  have zw7 := bb.size
  clear bb
  clear dA0_0 dA0_1 dA1_0 dA1_1
  clear cA0_0 cA0_1 cA1_0 cA1_1
  have cA0_0 : w7.cell? ⟨w.heap.size, 0, none⟩ = some (v0_0) := (rA0.next bel).cell 0
  have cA0_1 : w7.cell? ⟨w.heap.size, 1, none⟩ = some (v0_1) := (rA0.next bel).cell 1
  have cA1_0 : w7.cell? ⟨w.heap.size + 1, 0, none⟩ = some (v1_0) := (rA1.next bel).cell 0
  have cA1_1 : w7.cell? ⟨w.heap.size + 1, 1, none⟩ = some (v1_1) := (rA1.next bel).cell 1
  have cx0_0 : w7.cell? ⟨w6.heap.size, 0, none⟩ = some (.slice x0A0 x0n0 x0c0) := (rx0).cell 0
  have cx0_1 : w7.cell? ⟨w6.heap.size, 1, none⟩ = some (.slice x0A1 x0n1 x0c1) := (rx0).cell 1
  refine (toK_System _ _ d1 _ (s1.next bel) h1.out).mono ?_
  rintro e w8 ⟨x1A0, x1n0, x1c0, x1A1, x1n1, x1c1, rfl, ox1, bb⟩
  replace ox0 := ox0.next bb
  replace rx0 := rx0.next bb
  replace bel := next_trans bel bb
  have zw8 := bb.size
  clear bb
  clear cA0_0 cA0_1 cA1_0 cA1_1 cx0_0 cx0_1
  have cA0_0 : w8.cell? ⟨w.heap.size, 0, none⟩ = some (v0_0) := (rA0.next bel).cell 0
  have cA0_1 : w8.cell? ⟨w.heap.size, 1, none⟩ = some (v0_1) := (rA0.next bel).cell 1
  have cA1_0 : w8.cell? ⟨w.heap.size + 1, 0, none⟩ = some (v1_0) := (rA1.next bel).cell 0
  have cA1_1 : w8.cell? ⟨w.heap.size + 1, 1, none⟩ = some (v1_1) := (rA1.next bel).cell 1
  have cx0_0 : w8.cell? ⟨w6.heap.size, 0, none⟩ = some (.slice x0A0 x0n0 x0c0) := (rx0).cell 0
  have cx0_1 : w8.cell? ⟨w6.heap.size, 1, none⟩ = some (.slice x0A1 x0n1 x0c1) := (rx0).cell 1
  have dA0_0 : (w8.alloc (.cells #[.slice x1A0 x1n0 x1c0, .slice x1A1 x1n1 x1c1] 29)).cell? ⟨w.heap.size, 0, none⟩ = some (v0_0) := ((rA0.next bel).alloc _).cell 0
  have dA0_1 : (w8.alloc (.cells #[.slice x1A0 x1n0 x1c0, .slice x1A1 x1n1 x1c1] 29)).cell? ⟨w.heap.size, 1, none⟩ = some (v0_1) := ((rA0.next bel).alloc _).cell 1
  have dA1_0 : (w8.alloc (.cells #[.slice x1A0 x1n0 x1c0, .slice x1A1 x1n1 x1c1] 29)).cell? ⟨w.heap.size + 1, 0, none⟩ = some (v1_0) := ((rA1.next bel).alloc _).cell 0
  have dA1_1 : (w8.alloc (.cells #[.slice x1A0 x1n0 x1c0, .slice x1A1 x1n1 x1c1] 29)).cell? ⟨w.heap.size + 1, 1, none⟩ = some (v1_1) := ((rA1.next bel).alloc _).cell 1
  have dx0_0 : (w8.alloc (.cells #[.slice x1A0 x1n0 x1c0, .slice x1A1 x1n1 x1c1] 29)).cell? ⟨w6.heap.size, 0, none⟩ = some (.slice x0A0 x0n0 x0c0) := ((rx0).alloc _).cell 0
  have dx0_1 : (w8.alloc (.cells #[.slice x1A0 x1n0 x1c0, .slice x1A1 x1n1 x1c1] 29)).cell? ⟨w6.heap.size, 1, none⟩ = some (.slice x0A1 x0n1 x0c1) := ((rx0).alloc _).cell 1
  go_wp2_with fail
  obtain ⟨w9, hw⟩ : ∃ W, W = w8.alloc (.cells #[.slice x1A0 x1n0 x1c0, .slice x1A1 x1n1 x1c1] 29) := ⟨_, rfl⟩
  rw [← hw]
  have rx1 : Row w9 w8.heap.size 29 #[.slice x1A0 x1n0 x1c0, .slice x1A1 x1n1 x1c1] := by rw [hw]; exact Row.new _ _ _
  have bb : Below w8.heap.size w8 w9 := by rw [hw]; exact (Below.refl _ _).alloc (Nat.le_refl _) _
  have yrx1 : w8.heap.size < w9.heap.size := by rw [hw]; simp
  clear hw
  replace ox0 := ox0.next bb
  replace rx0 := rx0.next bb
  replace ox1 := ox1.next bb
  replace bel := next_trans bel bb
  have zw9 := bb.size
  clear bb
  clear dA0_0 dA0_1 dA1_0 dA1_1 dx0_0 dx0_1
  clear cA0_0 cA0_1 cA1_0 cA1_1 cx0_0 cx0_1
  have cA0_0 : w9.cell? ⟨w.heap.size, 0, none⟩ = some (v0_0) := (rA0.next bel).cell 0
  have cA0_1 : w9.cell? ⟨w.heap.size, 1, none⟩ = some (v0_1) := (rA0.next bel).cell 1
  have cA1_0 : w9.cell? ⟨w.heap.size + 1, 0, none⟩ = some (v1_0) := (rA1.next bel).cell 0
  have cA1_1 : w9.cell? ⟨w.heap.size + 1, 1, none⟩ = some (v1_1) := (rA1.next bel).cell 1
  have cx0_0 : w9.cell? ⟨w6.heap.size, 0, none⟩ = some (.slice x0A0 x0n0 x0c0) := (rx0).cell 0
  have cx0_1 : w9.cell? ⟨w6.heap.size, 1, none⟩ = some (.slice x0A1 x0n1 x0c1) := (rx0).cell 1
  have cx1_0 : w9.cell? ⟨w8.heap.size, 0, none⟩ = some (.slice x1A0 x1n0 x1c0) := (rx1).cell 0
  have cx1_1 : w9.cell? ⟨w8.heap.size, 1, none⟩ = some (.slice x1A1 x1n1 x1c1) := (rx1).cell 1
  refine (implSameSystem _ _ _ _ d0 d1 _ ox0.rd ox1.rd h0.out h1.out).mono ?_
  rintro e w10 ⟨he, bb⟩
  rw [HV.out] at he
  subst he
  replace ox0 := ox0.next bb
  replace rx0 := rx0.next bb
  replace ox1 := ox1.next bb
  replace rx1 := rx1.next bb
  replace bel := next_trans bel bb
  have zw10 := bb.size
  clear bb
  clear cA0_0 cA0_1 cA1_0 cA1_1 cx0_0 cx0_1 cx1_0 cx1_1
  have cA0_0 : w10.cell? ⟨w.heap.size, 0, none⟩ = some (v0_0) := (rA0.next bel).cell 0
  have cA0_1 : w10.cell? ⟨w.heap.size, 1, none⟩ = some (v0_1) := (rA0.next bel).cell 1
  have cA1_0 : w10.cell? ⟨w.heap.size + 1, 0, none⟩ = some (v1_0) := (rA1.next bel).cell 0
  have cA1_1 : w10.cell? ⟨w.heap.size + 1, 1, none⟩ = some (v1_1) := (rA1.next bel).cell 1
  have cx0_0 : w10.cell? ⟨w6.heap.size, 0, none⟩ = some (.slice x0A0 x0n0 x0c0) := (rx0).cell 0
  have cx0_1 : w10.cell? ⟨w6.heap.size, 1, none⟩ = some (.slice x0A1 x0n1 x0c1) := (rx0).cell 1
  have cx1_0 : w10.cell? ⟨w8.heap.size, 0, none⟩ = some (.slice x1A0 x1n0 x1c0) := (rx1).cell 0
  have cx1_1 : w10.cell? ⟨w8.heap.size, 1, none⟩ = some (.slice x1A1 x1n1 x1c1) := (rx1).cell 1
  go_wp2_with fail
  replace ox0 := ox0.drew
  replace rx0 := rx0.drew
  replace ox1 := ox1.drew
  replace rx1 := rx1.drew
  replace bel := bel.drew
  have zdw10 := (drew_below w10).size
  go_region_held3 (fun w' => w'.cell? ⟨w6.heap.size, 0, none⟩ = some (.slice x0A0 x0n0 x0c0) ∧ w'.cell? ⟨w6.heap.size, 1, none⟩ = some (.slice x0A1 x0n1 x0c1) ∧ w'.cell? ⟨w.heap.size, 0, none⟩ = some (v0_0) ∧ w'.cell? ⟨w.heap.size, 1, none⟩ = some (v0_1))
    (go_keep)
    (first
      | (go_at_call 45; refine (toK_System _ _ d0 _ (s0.next bel) h0.out).mono ?_; rintro e w11 ⟨t0A0, t0n0, t0c0, t0A1, t0n1, t0c1, rfl, ot, bb⟩; replace ox0 := ox0.next bb; replace rx0 := rx0.next bb; replace ox1 := ox1.next bb; replace rx1 := rx1.next bb; replace bel := next_trans bel bb; have k0_0w11 : w11.cell? ⟨w.heap.size, 0, none⟩ = some (v0_0) := (rA0.next bel).cell 0; have k0_1w11 : w11.cell? ⟨w.heap.size, 1, none⟩ = some (v0_1) := (rA0.next bel).cell 1; have l0_0w11 : w11.cell? ⟨w6.heap.size, 0, none⟩ = some (.slice x0A0 x0n0 x0c0) := rx0.cell 0; have l0_1w11 : w11.cell? ⟨w6.heap.size, 1, none⟩ = some (.slice x0A1 x0n1 x0c1) := rx0.cell 1; have zqw11 := bb.size; clear bb)
      | (go_at_call 46; refine (eqK_System _ _ _ _ d0 _ ox0.rd ot.rd h0.out).mono ?_; rintro e w12 ⟨rfl, bb⟩; replace ox0 := ox0.next bb; replace rx0 := rx0.next bb; replace ox1 := ox1.next bb; replace rx1 := rx1.next bb; replace bel := next_trans bel bb; have k0_0w12 : w12.cell? ⟨w.heap.size, 0, none⟩ = some (v0_0) := (rA0.next bel).cell 0; have k0_1w12 : w12.cell? ⟨w.heap.size, 1, none⟩ = some (v0_1) := (rA0.next bel).cell 1; have l0_0w12 : w12.cell? ⟨w6.heap.size, 0, none⟩ = some (.slice x0A0 x0n0 x0c0) := rx0.cell 0; have l0_1w12 : w12.cell? ⟨w6.heap.size, 1, none⟩ = some (.slice x0A1 x0n1 x0c1) := rx0.cell 1; have zqw12 := bb.size; clear bb ot))
  clear k0_0w11 l0_0w11 k0_1w11 l0_1w11 k0_0w12 l0_0w12 k0_1w12 l0_1w12
  clear ox0 rx0
  clear cA0_0 cA0_1 cA1_0 cA1_1 cx0_0 cx0_1 cx1_0 cx1_1
  have cA0_0 : w12.cell? ⟨w.heap.size, 0, none⟩ = some (v0_0) := (rA0.next bel).cell 0
  have cA0_1 : w12.cell? ⟨w.heap.size, 1, none⟩ = some (v0_1) := (rA0.next bel).cell 1
  have cA1_0 : w12.cell? ⟨w.heap.size + 1, 0, none⟩ = some (v1_0) := (rA1.next bel).cell 0
  have cA1_1 : w12.cell? ⟨w.heap.size + 1, 1, none⟩ = some (v1_1) := (rA1.next bel).cell 1
  have cx1_0 : w12.cell? ⟨w8.heap.size, 0, none⟩ = some (.slice x1A0 x1n0 x1c0) := (rx1).cell 0
  have cx1_1 : w12.cell? ⟨w8.heap.size, 1, none⟩ = some (.slice x1A1 x1n1 x1c1) := (rx1).cell 1
  go_wp2_with fail
  replace ox1 := ox1.drew
  replace rx1 := rx1.drew
  replace bel := bel.drew
  have zdw12 := (drew_below w12).size
  go_region_held3 (fun w' => w'.cell? ⟨w8.heap.size, 0, none⟩ = some (.slice x1A0 x1n0 x1c0) ∧ w'.cell? ⟨w8.heap.size, 1, none⟩ = some (.slice x1A1 x1n1 x1c1) ∧ w'.cell? ⟨w.heap.size + 1, 0, none⟩ = some (v1_0) ∧ w'.cell? ⟨w.heap.size + 1, 1, none⟩ = some (v1_1))
    (go_keep)
    (first
      | (go_at_call 45; refine (toK_System _ _ d1 _ (s1.next bel) h1.out).mono ?_; rintro e w13 ⟨t1A0, t1n0, t1c0, t1A1, t1n1, t1c1, rfl, ot, bb⟩; replace ox1 := ox1.next bb; replace rx1 := rx1.next bb; replace bel := next_trans bel bb; have k1_0w13 : w13.cell? ⟨w.heap.size + 1, 0, none⟩ = some (v1_0) := (rA1.next bel).cell 0; have k1_1w13 : w13.cell? ⟨w.heap.size + 1, 1, none⟩ = some (v1_1) := (rA1.next bel).cell 1; have l1_0w13 : w13.cell? ⟨w8.heap.size, 0, none⟩ = some (.slice x1A0 x1n0 x1c0) := rx1.cell 0; have l1_1w13 : w13.cell? ⟨w8.heap.size, 1, none⟩ = some (.slice x1A1 x1n1 x1c1) := rx1.cell 1; have zqw13 := bb.size; clear bb)
      | (go_at_call 46; refine (eqK_System _ _ _ _ d1 _ ox1.rd ot.rd h1.out).mono ?_; rintro e w14 ⟨rfl, bb⟩; replace ox1 := ox1.next bb; replace rx1 := rx1.next bb; replace bel := next_trans bel bb; have k1_0w14 : w14.cell? ⟨w.heap.size + 1, 0, none⟩ = some (v1_0) := (rA1.next bel).cell 0; have k1_1w14 : w14.cell? ⟨w.heap.size + 1, 1, none⟩ = some (v1_1) := (rA1.next bel).cell 1; have l1_0w14 : w14.cell? ⟨w8.heap.size, 0, none⟩ = some (.slice x1A0 x1n0 x1c0) := rx1.cell 0; have l1_1w14 : w14.cell? ⟨w8.heap.size, 1, none⟩ = some (.slice x1A1 x1n1 x1c1) := rx1.cell 1; have zqw14 := bb.size; clear bb ot))
  clear k1_0w13 l1_0w13 k1_1w13 l1_1w13 k1_0w14 l1_0w14 k1_1w14 l1_1w14
  clear ox1 rx1
  clear cA0_0 cA0_1 cA1_0 cA1_1 cx1_0 cx1_1
  have cA0_0 : w14.cell? ⟨w.heap.size, 0, none⟩ = some (v0_0) := (rA0.next bel).cell 0
  have cA0_1 : w14.cell? ⟨w.heap.size, 1, none⟩ = some (v0_1) := (rA0.next bel).cell 1
  have cA1_0 : w14.cell? ⟨w.heap.size + 1, 0, none⟩ = some (v1_0) := (rA1.next bel).cell 0
  have cA1_1 : w14.cell? ⟨w.heap.size + 1, 1, none⟩ = some (v1_1) := (rA1.next bel).cell 1
  have F := Lib.hid (bW.trans (bel.mono bW.size))
  clear bel bW cA0_0 cA0_1 cA1_0 cA1_1
  go_wp2
  go_ret
  exact ⟨rfl, F.out⟩
end Go.Proofs.Ytdkjafjphgcbjaa.wSameSystem
end

section
/-
  ARGUMENTS OPENED OVER SHAPES: an argument of a law, as the row's form hands it over, reads as data ('Rd'), its numbers are numbers of 64 bits ('Wf'); whether a type has a shape is reckoned ('fitsB'). Conditions: none; plain lemmas over any program. By an AI agent.
-/
namespace Go.Proofs.Ytdkjafjphgcbjaa.openX
open Go.ChangeShapes Go.WideShapes Go.ChangeAt Go.RowKit Go.Proofs.Ytdkjafjphgcbjaa.base Go.Proofs.Ytdkjafjphgcbjaa.segs Go.Proofs.Ytdkjafjphgcbjaa.shape

/-- every number is one of 64 bits -/
def Wf : (s : Sh) → Dat s → Prop
  | .num, (x : Int) => -9223372036854775808 ≤ x ∧ x ≤ 9223372036854775807
  | .bit, _ => True
  | .row _ s, (d : List (Dat s)) => ∀ j, j < d.length → Wf s (d.getD j (dft s))
  | .cat a b, d => Wf a d.1 ∧ Wf b d.2
mutual
def fitsB (P : Program) : Nat → Sh → TypeId → Bool
  | 0, _, _ => false
  | n + 1, s, t => match P.underlying t with
    | some (.struct fs) => P.cellsOf t == nc s && fitsL P n fs.toList 0 s
    | some (.int .i64) => match s with | .num => true | _ => false
    | some .bool => match s with | .bit => true | _ => false
    | some (.slice e) => match s with | .row _ s' => P.cellsOf e == nc s' && fitsB P n s' e | _ => false
    | _ => false
def fitsL (P : Program) : Nat → List Field → Nat → Sh → Bool
  | 0, _, _, _ => false
  | _ + 1, [], _, _ => false
  | n + 1, [f], k, s => f.offset == k && (P.cellsOf f.type == nc s && fitsB P n s f.type)
  | n + 1, f :: g :: fs, k, s => match s with | .cat a b => f.offset == k && (P.cellsOf f.type == nc a && (fitsB P n a f.type && fitsL P n (g :: fs) (k + nc a) b)) | _ => false
end

section
variable {H : Type} {enc : TypeId × Value → H} {P : Program} {w : World} {held : Bool}
theorem addr_add {b off i : Nat} : (⟨b, off, none⟩ : Addr).add i = ⟨b, off + i, none⟩ := by unfold Addr.add; split <;> simp_all
theorem rd_trod : ∀ n : Nat, (∀ (s : Sh) (t : TypeId) (fuel : Nat) (cs : List Value) (x : DataW H × List MemPlace), fitsB P n s t = true → DataW.trod enc P w 0 (fun _ => true) held fuel t cs = some x → ∃ d, Rd w w.heap.size s cs d ∧ Wf s d) ∧
    (∀ (fs : List Field) (k : Nat) (s : Sh) (cs : List Value) (m : Nat), fitsL P n fs k s = true → (∀ (i : Nat) (f : Field), fs[i]? = some f → ∃ x, DataW.trod enc P w 0 (fun _ => true) held m f.type ((cs.drop f.offset).take (P.cellsOf f.type)) = some x) →
      ∃ d, Rd w w.heap.size s ((cs.drop k).take (nc s)) d ∧ Wf s d) := by
  intro n
  induction n with
  | zero => exact ⟨fun _ _ _ _ _ h => by simp [fitsB] at h, fun _ _ _ _ _ h => by simp [fitsL] at h⟩
  | succ n ih =>
    refine ⟨fun s t fuel cs x hf h => ?_, fun fs k s cs m hf h => ?_⟩
    · unfold fitsB at hf
      split at hf
      · rename_i fs hu
        simp only [Bool.and_eq_true, beq_iff_eq] at hf
        obtain ⟨xs, n', hfu, hx, hlen, hxl, hg⟩ := DataW.trod_struct hu h
        obtain ⟨d, hr, hw⟩ := ih.2 fs.toList 0 s cs n' hf.2 (fun i f hi => by
          have hi' : fs[i]? = some f := by simpa using hi
          have h1 := hg i f hi'
          have hlt : i < fs.size := (Array.getElem?_eq_some_iff.1 hi').1
          exact ⟨xs[i]'(by omega), by rw [h1]; exact List.getElem?_eq_getElem (by omega)⟩)
        rw [List.drop_zero, List.take_of_length_le (by omega)] at hr
        exact ⟨d, hr, hw⟩
      · rename_i hu
        split at hf
        · obtain ⟨z, e1, _, hw⟩ := DataW.trod_int hu h
          refine ⟨z, e1, ?_⟩
          show -9223372036854775808 ≤ z ∧ z ≤ 9223372036854775807
          simpa [Lit.wf, IntKind.min, IntKind.max, IntKind.signed, IntKind.bits] using hw
        · cases hf
      · rename_i hu
        split at hf
        · obtain ⟨z, e1, _⟩ := DataW.trod_bool hu h
          exact ⟨z, e1, trivial⟩
        · cases hf
      · rename_i e hu
        split at hf
        · rename_i e0 s'
          simp only [Bool.and_eq_true, beq_iff_eq] at hf
          rcases Go.Deep.open_slice hu h with ⟨hcs, _⟩ | ⟨a, len, cap, m, n', D, Pl, hcs, _, hl, hm, hmm, _, hi⟩
          · exact ⟨[], ⟨none, 0, 0, hcs, ⟨by omega, by omega, fun _ => rfl⟩, rfl, fun h => absurd h (by omega)⟩, fun j hj => absurd hj (Nat.not_lt_zero _)⟩
          · have hmc : m = cap := by simpa using hmm
            subst hmc
            have hd : ∀ j, j < len → ∃ (es : List Value) (dj : Dat s'), es.length = nc s' ∧ (∀ i, i < nc s' → w.cell? ((a.add (j * nc s')).add i) = es[i]?) ∧ Rd w w.heap.size s' es dj ∧ Wf s' dj := fun j hj => by
              obtain ⟨cs', hc, ht⟩ := hi j (by omega)
              obtain ⟨dj, hr, hw⟩ := ih.1 s' e n' cs' _ hf.2 ht
              rw [hf.1] at hc
              obtain ⟨_, hcl, hat⟩ := World.cells?_some hc
              exact ⟨cs', dj, hcl, hat, hr, hw⟩
            have hspot : 0 < len → a.spot = none := fun h0 => by
              obtain ⟨es, dj, h1, h2, _⟩ := hd 0 h0
              have hp := nc_pos s'
              have h3 := h2 0 (by omega)
              rw [List.getElem?_eq_getElem (by omega)] at h3
              have := World.cell?_spot h3
              simpa [Addr.add] using this
            obtain ⟨ds, hdl, hds⟩ : ∃ ds : List (Dat s'), ds.length = len ∧ ∀ j, j < len → ∃ es : List Value, es.length = nc s' ∧ (∀ i, i < nc s' → w.cell? ((a.add (j * nc s')).add i) = es[i]?) ∧ Rd w w.heap.size s' es (ds.getD j (dft s')) ∧ Wf s' (ds.getD j (dft s')) := by
              refine ⟨(List.range len).map fun j => if hj : j < len then Classical.choose (Classical.choose_spec (hd j hj)) else dft s', by simp, fun j hj => ?_⟩
              refine ⟨Classical.choose (hd j hj), ?_⟩
              have h1 := Classical.choose_spec (Classical.choose_spec (hd j hj))
              have e1 : ((List.range len).map fun j => if hj : j < len then Classical.choose (Classical.choose_spec (hd j hj)) else dft s').getD j (dft s') = Classical.choose (Classical.choose_spec (hd j hj)) := by simp [List.getD, hj]
              rw [e1]
              exact h1
            refine ⟨ds, ⟨some a, len, m, hcs, ⟨hl, by unfold maxLen at hm; omega, fun e => by cases e⟩, hdl, fun h0 => ?_⟩, fun j hj => by
              obtain ⟨es, _, _, _, hw⟩ := hds j (by rw [← hdl]; exact hj)
              exact hw⟩
            obtain ⟨b, off, spot⟩ := a
            have hs := hspot h0
            simp only at hs
            subst hs
            refine ⟨b, off, rfl, ?_, fun j hj => ?_⟩
            · obtain ⟨es, h1, h2, _⟩ := hds 0 h0
              have hp := nc_pos s'
              have h3 := h2 0 (by omega)
              rw [List.getElem?_eq_getElem (by omega)] at h3
              have h4 := World.block_lt_of_cell? _ _ h3
              simpa [addr_add] using h4
            · obtain ⟨es, h1, h2, h3, _⟩ := hds j hj
              refine ⟨es, h1, fun i hi2 => ?_, h3⟩
              have := h2 i (by omega)
              rw [addr_add, addr_add] at this
              exact this
        · cases hf
      · cases hf
    · match fs, hf, h with
      | [], hf, _ => simp [fitsL] at hf
      | [f], hf, h =>
        unfold fitsL at hf
        simp only [Bool.and_eq_true, beq_iff_eq] at hf
        obtain ⟨h1, h2, h3⟩ := hf
        obtain ⟨x, hx⟩ := h 0 f rfl
        rw [h1, h2] at hx
        exact ih.1 s f.type m _ x h3 hx
      | f :: g :: fs, hf, h =>
        cases s with
        | cat a b =>
          unfold fitsL at hf
          simp only [Bool.and_eq_true, beq_iff_eq] at hf
          obtain ⟨h1, h2, h3, h4⟩ := hf
          obtain ⟨x, hx⟩ := h 0 f rfl
          rw [h1, h2] at hx
          obtain ⟨d1, r1, w1⟩ := ih.1 a f.type m _ x h3 hx
          obtain ⟨d2, r2, w2⟩ := ih.2 (g :: fs) (k + nc a) b cs m h4 (fun i f' hi => h (i + 1) f' hi)
          refine ⟨(d1, d2), ⟨_, _, ?_, r1, r2⟩, w1, w2⟩
          show List.take (nc a + nc b) (List.drop k cs) = _
          rw [List.take_add, List.drop_drop]
        | num => simp [fitsL] at hf
        | bit => simp [fitsL] at hf
        | row e s' => simp [fitsL] at hf
/-- a slice, or a number, as an argument -/
theorem open_val {s : Sh} {t : TypeId} {v : Value} {d : DataW H} {p : List MemPlace} {n : Nat} (hf : fitsB P n s t = true) (h : DataW.Trod enc P w 0 (fun _ => true) held t v d p) : ∃ x, Rd w w.heap.size s v.cells.toList x ∧ Wf s x := by
  obtain ⟨fuel, hfu⟩ := h
  exact (rd_trod n).1 s t fuel _ _ hf hfu
end
end Go.Proofs.Ytdkjafjphgcbjaa.openX
end
