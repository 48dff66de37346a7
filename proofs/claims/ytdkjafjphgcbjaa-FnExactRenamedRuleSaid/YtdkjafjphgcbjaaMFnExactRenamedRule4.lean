/-
  MERGED: my texts RuleSpecC, RuleSpecD, Look, RenImpl, RuleImplG, one behind the other, as they are. By an AI agent.
-/
import Derived.Test.YtdkjafjphgcbjaaMFnExactRenamedRule3
import Derived.Shelf.Abstract
section
/-
  CONTRACTS: spec.l6Doubles, DuplicatingIn, l6Defined, DefinedIn, ConstructorsIn, ConstructorSystem, RenamedRule. Conditions: the arguments read as data ('Rd'), at most 1048576 numbers. By an AI agent.
-/
namespace Go.Proofs.Ytdkjafjphgcbjaa.ruleSpec
open Go.RowKit Go.Proofs.Ytdkjafjphgcbjaa.base Go.Proofs.Ytdkjafjphgcbjaa.ints Go.Proofs.Ytdkjafjphgcbjaa.sig Go.Proofs.Ytdkjafjphgcbjaa.term Go.Proofs.Ytdkjafjphgcbjaa.termOk Go.Proofs.Ytdkjafjphgcbjaa.marks Go.Proofs.Ytdkjafjphgcbjaa.app Go.Proofs.Ytdkjafjphgcbjaa.sym Go.Proofs.Ytdkjafjphgcbjaa.segs Go.Proofs.Ytdkjafjphgcbjaa.termFacts Go.Proofs.Ytdkjafjphgcbjaa.varsMath Go.Proofs.Ytdkjafjphgcbjaa.varsOf Go.Proofs.Ytdkjafjphgcbjaa.rename Go.Proofs.Ytdkjafjphgcbjaa.renMath Go.Proofs.Ytdkjafjphgcbjaa.same Go.Proofs.Ytdkjafjphgcbjaa.count Go.Proofs.Ytdkjafjphgcbjaa.linear Go.Proofs.Ytdkjafjphgcbjaa.shape Go.Proofs.Ytdkjafjphgcbjaa.kindsR Go.Proofs.Ytdkjafjphgcbjaa.ruleMath Go.Proofs.Ytdkjafjphgcbjaa.appAt Go.Proofs.Ytdkjafjphgcbjaa.kinds
set_option maxRecDepth 100000

/-! ### l6Doubles -/
def HeadDb (w : World) (T : TypeId) (cs : Array Value) (n : Nat) (d : Rl) (i : Value) (wr : World) : Prop :=
  ∃ k : Nat, k ≤ n ∧ i = .int .i64 k ∧ (∀ j, j < k → moreB d (d.2.getD j 0) = false) ∧ Row wr w.heap.size T cs ∧ Below w.heap.size w wr
theorem headDb_step {w wr : World} {T : TypeId} {cs : Array Value} {n k : Nat} {d : Rl} {x : Int} (hk : k < n) (hlow : ∀ j, j < k → moreB d (d.2.getD j 0) = false) (ex : Hid (d.2.getD k 0 = x)) (h : moreB d x = false) (hr : Row wr w.heap.size T cs) (hb : Below w.heap.size w wr) : HeadDb w T cs n d (.int .i64 ((k : Int) + 1)) wr :=
  ⟨k + 1, hk, by simp, fun j hj => by
    by_cases e : j = k
    · subst e; rw [ex.out]; exact h
    · exact hlow j (by omega), hr, hb⟩
theorem db_yes {d : Rl} {x : Int} (hx : x ∈ d.2) (h : moreB d x = true) : dblB d = true := List.any_eq_true.2 ⟨x, hx, h⟩
theorem db_no {d : Rl} {n : Nat} (hl : d.2.length = n) (h : ∀ j, j < n → moreB d (d.2.getD j 0) = false) : dblB d = false := by
  unfold dblB
  rw [List.any_eq_false]
  intro x hx
  obtain ⟨i, hi, rfl⟩ := List.getElem_of_mem hx
  have := h i (by omega)
  have e : d.2.getD i 0 = d.2[i] := by simp [List.getD, hi]
  rw [e] at this; simp [this]

set_option maxHeartbeats 4000000 in
theorem l6Doubles (l r : Value) (d : Dat sRule) (w : World) (h : Rd w w.heap.size sRule [l, r] d) (hz : sz sRule d ≤ 1048576) :
    Calls Try.prog 80 #[.agg #[l, r]] w (AnsB w (dblB d)) := by
  obtain ⟨A1, n1, c1, A2, n2, c2, rfl, rfl, s1, k1, s2, k2, hn1, hn2⟩ := rd_rule h hz
  obtain ⟨W, hW, rA, bel⟩ := box1 w 35 #[.slice A1 n1 c1, .slice A2 n2 c2]
  have HW := Lib.hid hW
  have HL2 := Lib.hid s2.1
  have H0 : Hid (HeadDb w 35 #[.slice A1 n1 c1, .slice A2 n2 c2] n2 d (.int .i64 0) W) := Lib.hid ⟨0, Nat.zero_le _, rfl, fun j hj => absurd hj (Nat.not_lt_zero _), rA, bel⟩
  clear hW h hz k1 k2 rA bel
  go_enter Try.func80, Try.ntmps80
  go_wp2_with fail
  rw [← HW.out]
  go_loopw [3] (fun i wr => HeadDb w 35 #[.slice A1 n1 c1, .slice A2 n2 c2] n2 d i wr) (fun i _ => n2 - (intOf i).toNat)
  case atStart => exact H0.out
  case round =>
    obtain ⟨k, hk, rfl, hlow, rr, hb⟩ := hrel
    have HLOW := Lib.hid hlow
    clear hlow H0
    have a0 : wr.cell? ⟨w.heap.size, 0, none⟩ = some (.slice A1 n1 c1) := rr.cell 0
    have a1 : wr.cell? ⟨w.heap.size, 1, none⟩ = some (.slice A2 n2 c2) := rr.cell 1
    by_cases hlt : k < n2
    · obtain ⟨b, off, y, rfl, hbB, hy0, ey⟩ := s2.spot hlt
      have hy : wr.cell? ⟨b, off + k, none⟩ = some (.int .i64 y) := (hb.cell (p := ⟨b, off + k, none⟩) hbB).trans hy0
      have hmem := mem_of_get (by rw [HL2.out]; exact hlt) ey.out
      have i0 : (0 : Int) ≤ (k : Int) := by omega
      have i1 : (k : Int) < (n2 : Int) := by omega
      have LC2 := Lib.hid (fun d' : Nat => l1Count (some ⟨b, off, none⟩) n2 c2 d.2 y (wr.drewN d') ((s2.next hb).drewN d') hn2)
      have LC1 := Lib.hid (fun d' : Nat => l1Count A1 n1 c1 d.1 y (wr.drewN d') ((s1.next hb).drewN d') hn1)
      by_cases hyn : y < 0
      · have hdy : decide (y < 0) = true := decide_eq_true hyn
        obtain ⟨p, hp⟩ : ∃ p, cnt d.2 y d.2.length = p := ⟨_, rfl⟩
        obtain ⟨q, hq⟩ : ∃ q, cnt d.1 y d.1.length = q := ⟨_, rfl⟩
        rw [hp] at LC2
        rw [hq] at LC1
        by_cases hpq : q < p
        · have M := Lib.hid (show moreB d y = true by unfold moreB many; rw [hp, hq]; exact decide_eq_true ⟨hyn, hpq⟩)
          have F := Lib.hid (fun d' : Nat => ansB (w' := wr.drewN d') (b := dblB d) (a := true) (by rw [db_yes hmem M.out]) (below_drewN hb d'))
          have hpd : decide ((q : Int) < (p : Int)) = true := decide_eq_true (by omega)
          clear s1 s2 rr hb hmem hy0 ey hp hq
          go_wp2_with fail
          go_quiet (first
            | (go_at_call_of 111 (Value.slice (some ⟨b, off, none⟩) n2 c2); exact Calls.quiet_of_same (v := .int .i64 p) ((LC2.out _).mono fun _ _ ⟨h1, h2⟩ => ⟨h2, h1.symm⟩))
            | (go_at_call_of 111 (Value.slice A1 n1 c1); exact Calls.quiet_of_same (v := .int .i64 q) ((LC1.out _).mono fun _ _ ⟨h1, h2⟩ => ⟨h2, h1.symm⟩)))
          go_wp2
          go_ret
          exact F.out _
        · have M := Lib.hid (show moreB d y = false by unfold moreB many; rw [hp, hq]; exact decide_eq_false (fun hh => hpq hh.2))
          have S := Lib.hid (fun d' : Nat => headDb_step (w := w) (wr := wr.drewN d') hlt HLOW.out ey M.out (rr.drewN d') (below_drewN hb d'))
          have hpd : decide ((q : Int) < (p : Int)) = false := decide_eq_false (by omega)
          clear s1 s2 rr hb hmem hy0 ey hp hq
          go_wp2_with fail
          go_quiet (first
            | (go_at_call_of 111 (Value.slice (some ⟨b, off, none⟩) n2 c2); exact Calls.quiet_of_same (v := .int .i64 p) ((LC2.out _).mono fun _ _ ⟨h1, h2⟩ => ⟨h2, h1.symm⟩))
            | (go_at_call_of 111 (Value.slice A1 n1 c1); exact Calls.quiet_of_same (v := .int .i64 q) ((LC1.out _).mono fun _ _ ⟨h1, h2⟩ => ⟨h2, h1.symm⟩)))
          go_wp2
          go_roundw
          case rel => exact S.out _
          case measure => simp [intOf]; omega
      · have hdy : decide (y < 0) = false := decide_eq_false hyn
        have M := Lib.hid (show moreB d y = false by unfold moreB; exact decide_eq_false (fun hh => hyn hh.1))
        have S := Lib.hid (fun d' : Nat => headDb_step (w := w) (wr := wr.drewN d') hlt HLOW.out ey M.out (rr.drewN d') (below_drewN hb d'))
        clear s1 s2 rr hb hmem hy0 ey LC1 LC2
        go_wp2_with fail
        go_quiet (fail)
        go_wp2
        go_roundw
        case rel => exact S.out _
        case measure => simp [intOf]; omega
    · have F := Lib.hid (ansB (b := dblB d) (a := false) (by rw [db_no HL2.out (fun j hj => HLOW.out j (by omega))]) hb)
      clear s1 s2 rr hb
      go_wp2
      go_ret
      exact F.out

/-! ### DuplicatingIn -/
theorem du_no {sg : List Int} {rs : List Rl} (h : sysOkB sg rs = false) : dupB sg rs = false := by unfold dupB; rw [h]; rfl
theorem du_bad {sg : List Int} {rs : List Rl} {k : Nat} {x : Rl} (h : sysOkB sg rs = true) (hk : k < rs.length) (ex : rs.getD k ([], []) = x) (h2 : dblB x = true) : dupB sg rs = true := by
  unfold dupB
  rw [h, any_round hk (f := dblB) (by rw [ex, h2])]; rfl
theorem du_yes {sg : List Int} {rs : List Rl} (hl : ∀ j, j < rs.length → dblB (rs.getD j ([], [])) = false) : dupB sg rs = false := by
  unfold dupB
  rw [any_rounds (f := dblB) hl]; simp

set_option maxHeartbeats 4000000 in
theorem specDuplicatingIn (a v : Value) (d : Dat sSystem) (w : World) (h : Rd w w.heap.size sSystem [a, v] d) (hz : sz sSystem d ≤ 1048576) :
    Calls Try.prog 33 #[.agg #[a, v]] w (AnsB w (dupB d.1 d.2)) := by
  have S1 := fun (w1 : World) (bb : Below w.heap.size w w1) => specSystemOk a v d w1 (h.next bb) hz
  obtain ⟨A, n, c, V, m, cv, rfl, rfl, hs, hc, hcv, hm, hn, hm1, hrs, hsg, hE⟩ := rd_sys h hz
  obtain ⟨W, hW, rA, bel⟩ := box1 w 29 #[.slice A n c, .slice V m cv]
  have HW := Lib.hid hW
  have HM := Lib.hid hm
  have HE := Lib.hid hE
  have HR := Lib.hid hrs
  have LS := Lib.hid S1
  have H0 : Hid (HeadSy w 29 #[.slice A n c, .slice V m cv] m (fun x => !dblB x) d.2 (.int .i64 0) W) := Lib.hid ⟨0, Nat.zero_le _, rfl, fun j hj => absurd hj (Nat.not_lt_zero _), rA, bel⟩
  clear hW h hz hs hc hcv hm hE hrs hsg S1 rA bel
  go_enter Try.func33, Try.ntmps33
  go_wp2_with fail
  rw [← HW.out]
  go_loopw [3] (fun i wr => HeadSy w 29 #[.slice A n c, .slice V m cv] m (fun x => !dblB x) d.2 i wr) (fun i _ => m - (intOf i).toNat)
  case atStart => exact H0.out
  case round =>
    obtain ⟨k, hk, rfl, hlow, rr, hb⟩ := hrel
    have HLOW := Lib.hid hlow
    clear hlow H0
    have a0 : wr.cell? ⟨w.heap.size, 0, none⟩ = some (.slice A n c) := rr.cell 0
    have a1 : wr.cell? ⟨w.heap.size, 1, none⟩ = some (.slice V m cv) := rr.cell 1
    by_cases hlt : k < m
    · have i1 : (k : Int) < (m : Int) := by omega
      cases ok : sysOkB d.1 d.2 with
      | false =>
        have HO := Lib.hid ok
        clear ok
        go_wp2_with fail
        refine (LS.out wr hb).mono ?_
        rintro e w2 ⟨he, bb⟩
        rw [HO.out] at he
        subst he
        have F := Lib.hid (ansB (b := dupB d.1 d.2) (a := false) (by rw [du_no HO.out]) (next_trans hb bb))
        clear rr hb bb a0 a1
        go_wp2
        go_ret
        exact F.out
      | true =>
        have HO := Lib.hid ok
        clear ok
        go_wp2_with fail
        refine (LS.out wr hb).mono ?_
        rintro e w2 ⟨he, bb⟩
        rw [HO.out] at he
        subst he
        replace rr := rr.next bb
        replace hb := next_trans hb bb
        obtain ⟨b, off, l, r, x, rfl, hbB, ex, hc0, hc1, hx⟩ := rd_at HR.out hb HM.out hlt
        have a1' : w2.cell? ⟨w.heap.size, 1, none⟩ = some (.slice (some ⟨b, off, none⟩) m cv) := rr.cell 1
        have hzx : sz sRule x ≤ 1048576 := by have := HE.out k hlt; rw [ex.out] at this; exact this
        have L := Lib.hid (l6Doubles l r x w2 (hx.more hb.size) hzx)
        have i0 : (0 : Int) ≤ (k : Int) := by omega
        clear hx hzx bb a0 a1 LS
        cases ok : dblB x with
        | true =>
          have HB := Lib.hid ok
          clear ok
          go_wp2_with fail
          refine L.out.mono ?_
          rintro e w3 ⟨he, bb⟩
          rw [HB.out] at he
          subst he
          have F := Lib.hid (ansB (b := dupB d.1 d.2) (a := true) (by rw [du_bad HO.out (by rw [HM.out]; exact hlt) ex.out HB.out]) (next_trans hb bb))
          clear rr hb bb L
          go_wp2
          go_ret
          exact F.out
        | false =>
          have HB := Lib.hid ok
          clear ok
          go_wp2_with fail
          refine L.out.mono ?_
          rintro e w3 ⟨he, bb⟩
          rw [HB.out] at he
          subst he
          have F := Lib.hid (headSy_step (f := fun x => !dblB x) (w := w) hlt HLOW.out ex (by rw [HB.out]; rfl) (rr.next bb) (next_trans hb bb))
          clear rr hb bb L
          go_wp2
          go_roundw
          case rel => exact F.out
          case measure => simp [intOf]; omega
    · have F := Lib.hid (ansB (b := dupB d.1 d.2) (a := false) (by rw [du_yes (fun j hj => by have := HLOW.out j (by rw [HM.out] at hj; omega); simpa using this)]) hb)
      clear rr hb
      go_wp2
      go_ret
      exact F.out

/-! ### l6Defined -/
def HeadDf (w : World) (T : TypeId) (cs : Array Value) (m : Nat) (rs : List Rl) (out i : Value) (wr : World) : Prop :=
  ∃ (k : Nat) (b off n c : Nat), k ≤ m ∧ i = .int .i64 k ∧ out = .slice (some ⟨b, off, none⟩) n c ∧ Seg wr wr.heap.size (some ⟨b, off, none⟩) n (defL (rs.take k)) ∧ n ≤ c ∧ c ≤ 9223372036854775807 ∧ Row wr w.heap.size T cs ∧ Below w.heap.size w wr

set_option maxHeartbeats 4000000 in
theorem l6Defined (a v : Value) (d : Dat sSystem) (w : World) (h : Rd w w.heap.size sSystem [a, v] d) (hz : sz sSystem d ≤ 1048576) (hok : sysOkB d.1 d.2 = true) :
    Calls Try.prog 60 #[.agg #[a, v]] w (AnsInto w (defL d.2)) := by
  obtain ⟨A, n, c, V, m, cv, rfl, rfl, hs, hc, hcv, hm, hn, hm1, hrs, hsg, hE⟩ := rd_sys h hz
  have bel : Below w.heap.size w ((w.alloc (.cells #[.slice A n c, .slice V m cv] 29)).alloc (.cells #[] 2)) := ((Below.refl _ _).alloc (Nat.le_refl _) _).alloc (by simp) _
  have rA := (Row.new w 29 #[.slice A n c, .slice V m cv]).alloc (.cells #[] 2)
  have HM := Lib.hid hm
  have HE := Lib.hid hE
  have HR := Lib.hid hrs
  have HZ := Lib.hid ((sys_parts hok).2.2)
  have H0 : Hid (HeadDf w 29 #[.slice A n c, .slice V m cv] m d.2 (.slice (some ⟨w.heap.size + 1, 0, none⟩) 0 0) (.int .i64 0) ((w.alloc (.cells #[.slice A n c, .slice V m cv] 29)).alloc (.cells #[] 2))) :=
    Lib.hid ⟨0, _, _, 0, 0, Nat.zero_le _, rfl, rfl, Seg.empty, Nat.le_refl _, by omega, rA, bel⟩
  clear h hz hs hc hcv hm hE hrs hsg rA bel hok
  go_enter Try.func60, Try.ntmps60
  go_wp2_with fail
  go_loopw [3, 4] (fun out i wr => HeadDf w 29 #[.slice A n c, .slice V m cv] m d.2 out i wr) (fun _ i _ => m - (intOf i).toNat)
  case atStart => exact H0.out
  case round =>
    obtain ⟨k, ob, oo, on, oc, hk, rfl, rfl, hseg, ho1, ho2, rr, hb⟩ := hrel
    clear H0
    have a1 : wr.cell? ⟨w.heap.size, 1, none⟩ = some (.slice V m cv) := rr.cell 1
    by_cases hlt : k < m
    · obtain ⟨b, off, l, r, x, rfl, hbB, ex, hc0, hc1, hx⟩ := rd_at HR.out hb HM.out hlt
      have hzx : sz sRule x ≤ 1048576 := by have := HE.out k hlt; rw [ex.out] at this; exact this
      have hrx := HZ.out x (by rw [← ex.out]; exact rl_mem (by rw [HM.out]; exact hlt))
      obtain ⟨A1, n1, c1, A2, n2, c2, rfl, rfl, s1, k1, s2, k2, hn1, hn2⟩ := rd_rule hx hzx
      have hp := (term_len (rule_parts hrx).1).1
      rw [s1.1] at hp
      obtain ⟨b2, off2, y, rfl, hbB2, hy, ey⟩ := s1.spot (k := 0) (by omega)
      have hy0 : wr.cell? ⟨b2, off2, none⟩ = some (.int .i64 y) := by simpa using hy
      have i2 : (0 : Int) < (n1 : Int) := by omega
      have i0 : (0 : Int) ≤ (k : Int) := by omega
      have i1 : (k : Int) < (m : Int) := by omega
      have hon : on ≤ 1048576 := by have h1 := hseg.1; have h2 := def_len (d.2.take k); rw [List.length_take] at h2; omega
      have L := Lib.hid (l1Into ob oo on oc (defL (d.2.take k)) y wr hseg ho1 ho2 hon)
      have E := Lib.hid (show defL (d.2.take (k + 1)) = into (defL (d.2.take k)) y by rw [def_take (by rw [HM.out]; exact hlt), ex.out]; unfold ruleMath.hd; rw [ey.out])
      clear hx hzx hrx s1 s2 k1 k2 hy ey ex hseg hc1
      go_wp2_with fail
      refine L.out.mono ?_
      rintro e w2 ⟨ob', oo', on', oc', rfl, hseg', h1', h2', bb⟩
      have F : HeadDf w 29 #[.slice A n c, .slice (some ⟨b, off, none⟩) m cv] m d.2 (.slice (some ⟨ob', oo', none⟩) on' oc') (.int .i64 ((k : Int) + 1)) w2 :=
        ⟨k + 1, ob', oo', on', oc', hlt, by simp, rfl, by rw [E.out]; exact hseg', h1', h2', rr.next bb, next_trans hb bb⟩
      have HF := Lib.hid F
      clear F hseg' bb rr hb L E
      go_wp2
      go_roundw
      case rel => exact HF.out
      case measure => simp [intOf]; omega
    · have F : AnsInto w (defL d.2) (.returned (.slice (some ⟨ob, oo, none⟩) on oc)) wr := ⟨ob, oo, on, oc, rfl, by rw [List.take_of_length_le (by rw [HM.out]; omega)] at hseg; exact hseg, ho1, ho2, hb⟩
      have HF := Lib.hid F
      clear F hseg rr hb
      go_wp2
      go_ret
      exact HF.out

set_option maxHeartbeats 4000000 in
theorem specDefinedIn (a v : Value) (d : Dat sSystem) (w : World) (h : Rd w w.heap.size sSystem [a, v] d) (hz : sz sSystem d ≤ 1048576) :
    Calls Try.prog 20 #[.agg #[a, v]] w (AnsSeg w (definedI d.1 d.2)) := by
  obtain ⟨W, hW, rA, bel⟩ := box1 w 29 #[a, v]
  have HW := Lib.hid hW
  have L1 := Lib.hid (specSystemOk a v d W (h.next bel) hz)
  have L2 := Lib.hid (fun (w1 : World) (bb : Below w.heap.size w w1) => l6Defined a v d w1 (h.next bb) hz)
  clear hW h hz
  cases ok : sysOkB d.1 d.2 with
  | false =>
    have HS := Lib.hid ok
    clear ok
    go_enter Try.func20, Try.ntmps20
    go_wp2_with fail
    rw [← HW.out]
    refine L1.out.mono ?_
    rintro e w1 ⟨he, bb⟩
    rw [HS.out] at he
    subst he
    have F : AnsSeg w (definedI d.1 d.2) (.returned (.slice (some ⟨w1.heap.size, 0, none⟩) 0 0)) (w1.alloc (.cells #[] 2)) :=
      ⟨_, 0, 0, rfl, by unfold definedI; rw [if_neg (by rw [HS.out]; simp)]; exact Seg.empty, (next_trans bel bb).alloc (next_trans bel bb).size _⟩
    have HF := Lib.hid F
    clear F bel rA bb
    go_wp2
    go_ret
    exact HF.out
  | true =>
    have HS := Lib.hid ok
    clear ok
    go_enter Try.func20, Try.ntmps20
    go_wp2_with fail
    rw [← HW.out]
    refine L1.out.mono ?_
    rintro e w1 ⟨he, bb⟩
    rw [HS.out] at he
    subst he
    replace rA := rA.next bb
    replace bel := next_trans bel bb
    have a0 : w1.cell? ⟨w.heap.size, 0, none⟩ = some a := rA.cell 0
    have a1 : w1.cell? ⟨w.heap.size, 1, none⟩ = some v := rA.cell 1
    clear bb L1
    go_wp2_with fail
    refine (L2.out w1 bel HS.out).mono ?_
    rintro e w2 ⟨b, off, n, c, rfl, hseg, _, _, bb⟩
    have F : AnsSeg w (definedI d.1 d.2) (.returned (.slice (some ⟨b, off, none⟩) n c)) w2 := ⟨_, n, c, rfl, by unfold definedI; rw [if_pos HS.out]; exact hseg, next_trans bel bb⟩
    have HF := Lib.hid F
    clear F bel rA bb hseg a0 a1 L2
    go_wp2
    go_ret
    exact HF.out

/-! ### ConstructorsIn -/
theorem one_row (w : World) (y : Int) : Seg (w.alloc (.cells #[.int .i64 y] 2)) (w.heap.size + 1) (some ⟨w.heap.size, 0, none⟩) 1 [y] :=
  (Row.new w 2 #[.int .i64 y]).seg rfl (by omega) (fun j hj => by
    have e : j = 0 := by omega
    subst e
    rfl)
def HeadCo (w : World) (T : TypeId) (cs : Array Value) (n : Nat) (rs : List Rl) (db dx dn : Nat) (out i : Value) (wr : World) : Prop :=
  ∃ (k : Nat) (O : Option Addr) (on oc : Nat), k ≤ n ∧ i = .int .i64 k ∧ out = .slice O on oc ∧ Own wr (w.heap.size + 1) (.slice O on oc) (symL (fun x => !isDef rs x) k) ∧ Seg wr wr.heap.size (some ⟨db, dx, none⟩) dn (defL rs) ∧ (dn = 0 ∨ blk O ≠ some db) ∧ Row wr w.heap.size T cs ∧ Below w.heap.size w wr
theorem sym_yes {p : Int → Bool} {k : Nat} (h : p (k : Int) = true) : symL p (k + 1) = symL p k ++ [(k : Int)] := by rw [symL, if_pos h]
theorem sym_no {p : Int → Bool} {k : Nat} (h : p (k : Int) = false) : symL p (k + 1) = symL p k := by rw [symL, if_neg (by rw [h]; simp), List.append_nil]

set_option maxHeartbeats 4000000 in
theorem specConstructorsIn (a v : Value) (d : Dat sSystem) (w : World) (h : Rd w w.heap.size sSystem [a, v] d) (hz : sz sSystem d ≤ 1048576) :
    Calls Try.prog 21 #[.agg #[a, v]] w (AnsSeg w (consI d.1 d.2)) := by
  have S1 := fun (w1 : World) (bb : Below w.heap.size w w1) => specSystemOk a v d w1 (h.next bb) hz
  have S2 := fun (w1 : World) (bb : Below w.heap.size w w1) => l6Defined a v d w1 (h.next bb) hz
  obtain ⟨A, n, c, V, m, cv, rfl, rfl, hs, hc, hcv, hm, hn, hm1, hrs, hsg, hE⟩ := rd_sys h hz
  obtain ⟨W, hW, rA, rO, bel⟩ := box2 w 29 2 #[.slice A n c, .slice V m cv] #[]
  have hO := own_empty (w.alloc (.cells #[.slice A n c, .slice V m cv] 29)) (w.heap.size + 1) (by simp)
  rw [← hW] at hO
  have hO : Own W (w.heap.size + 1) (.slice (some ⟨w.heap.size + 1, 0, none⟩) 0 0) [] := by simpa using hO
  have HW := Lib.hid hW
  have HN := Lib.hid hs.1
  have L1 := Lib.hid (S1 W bel)
  have L2 := Lib.hid S2
  clear hW h hz hs hc hcv hm hE hrs hsg S1 S2
  cases ok : sysOkB d.1 d.2 with
  | false =>
    have HS := Lib.hid ok
    clear ok
    go_enter Try.func21, Try.ntmps21
    go_wp2_with fail
    rw [← HW.out]
    refine L1.out.mono ?_
    rintro e w1 ⟨he, bb⟩
    rw [HS.out] at he
    subst he
    have F : AnsSeg w (consI d.1 d.2) (.returned (.slice (some ⟨w.heap.size + 1, 0, none⟩) 0 0)) w1 :=
      ⟨_, 0, 0, rfl, by unfold consI; rw [if_neg (by rw [HS.out]; simp)]; exact Seg.empty, next_trans bel bb⟩
    have HF := Lib.hid F
    clear F bel rA rO hO bb
    go_wp2
    go_ret
    exact HF.out
  | true =>
    have HS := Lib.hid ok
    clear ok
    go_enter Try.func21, Try.ntmps21
    go_wp2_with fail
    rw [← HW.out]
    refine L1.out.mono ?_
    rintro e w1 ⟨he, bb⟩
    rw [HS.out] at he
    subst he
    replace rA := rA.next bb
    replace rO := rO.next bb
    replace hO := hO.next bb
    replace bel := next_trans bel bb
    have a0 : w1.cell? ⟨w.heap.size, 0, none⟩ = some (.slice A n c) := rA.cell 0
    have a1 : w1.cell? ⟨w.heap.size, 1, none⟩ = some (.slice V m cv) := rA.cell 1
    clear bb L1
    go_wp2_with fail
    refine (L2.out w1 bel HS.out).mono ?_
    rintro e w2 ⟨db, dx, dn, dc, rfl, hseg, hd1, hd2, bb⟩
    replace rA := rA.next bb
    replace rO := rO.next bb
    replace hO := hO.next bb
    replace bel := next_trans bel bb
    have hdn : dn ≤ 1048576 := by have h1 := hseg.1; have h2 := def_len d.2; have h3 := (sys_parts HS.out).2.1; omega
    have hdis : dn = 0 ∨ blk (some ⟨w.heap.size + 1, 0, none⟩) ≠ some db := by
      by_cases h0 : dn = 0
      · exact .inl h0
      · right
        intro e
        have e : w.heap.size + 1 = db := Option.some.inj e
        obtain ⟨b', off', e2, _, hc⟩ := hseg.2 (by omega)
        injection e2 with e2
        injection e2 with e3 e4
        subst e3 e4
        have := hc 0 (by omega)
        rw [← e, rO.cell] at this
        simp at this
    have H0 : Hid (HeadCo w 29 #[.slice A n c, .slice V m cv] n d.2 db dx dn (.slice (some ⟨w.heap.size + 1, 0, none⟩) 0 0) (.int .i64 0) w2) := Lib.hid ⟨0, _, _, _, Nat.zero_le _, rfl, rfl, by simpa [symL] using hO, hseg, hdis, rA, bel⟩
    clear bb L2 rA rO hO bel hseg hdis a0 a1
    go_wp2_with fail
    go_loopw [3, 5] (fun out i wr => HeadCo w 29 #[.slice A n c, .slice V m cv] n d.2 db dx dn out i wr) (fun _ i _ => n - (intOf i).toNat)
    case atStart => exact H0.out
    case round =>
      obtain ⟨k, O, on, oc, hk, rfl, rfl, ho, hseg, hdis, rr, hb⟩ := hrel
      clear H0
      have a0 : wr.cell? ⟨w.heap.size, 0, none⟩ = some (.slice A n c) := rr.cell 0
      by_cases hlt : k < n
      · have LH := Lib.hid (l1Has (some ⟨db, dx, none⟩) dn dc (defL d.2) (k : Int) wr hseg hdn)
        have hon : on ≤ 1048576 := by have h1 := Own.len ho; have h2 := sym_len (p := fun x => !isDef d.2 x) k; omega
        have i1 : (k : Int) < (n : Int) := by omega
        cases hdf : isDef d.2 (k : Int) with
        | true =>
          have E := Lib.hid (show decide ((k : Int) ∈ defL d.2) = true by rw [← isDef_mem]; exact hdf)
          have F : HeadCo w 29 #[.slice A n c, .slice V m cv] n d.2 db dx dn (.slice O on oc) (.int .i64 ((k : Int) + 1)) wr := ⟨k + 1, O, on, oc, hlt, by simp, rfl, by rw [sym_no (by rw [hdf]; rfl)]; exact ho, hseg, hdis, rr, hb⟩
          have HF := Lib.hid F
          clear F ho hseg hdis rr hb hdf
          go_wp2_with fail
          refine LH.out.mono ?_
          rintro e w3 ⟨rfl, he⟩
          rw [E.out] at he
          subst he
          clear LH
          go_wp2
          go_roundw
          case rel => exact HF.out
          case measure => simp [intOf]; omega
        | false =>
          have E := Lib.hid (show decide ((k : Int) ∈ defL d.2) = false by rw [← isDef_mem]; exact hdf)
          have hlw := hb.size
          have hrl := rr.lt
          have ho1 := Own.alloc ho (.cells #[.int .i64 (k : Int)] 2)
          have R := Lib.hid (fun (O' : Option Addr) (oc' : Nat) (w' : World) (ho' : Own w' (w.heap.size + 1) (.slice O' (on + 1) oc') (symL (fun x => !isDef d.2 x) k ++ [(k : Int)])) (hg : (wr.alloc (.cells #[.int .i64 (k : Int)] 2)).grownBy w' (blk O)) (hat : blk O' = blk O ∨ blk O' = some (wr.alloc (.cells #[.int .i64 (k : Int)] 2)).heap.size) =>
            (show HeadCo w 29 #[.slice A n c, .slice V m cv] n d.2 db dx dn (.slice O' (on + 1) oc') (.int .i64 ((k : Int) + 1)) w' from by
              have hge := Own.ge ho
              refine ⟨k + 1, O', on + 1, oc', hlt, by simp, rfl, by rw [sym_yes (by rw [hdf]; rfl)]; exact ho', ?_, ?_, ?_, ?_⟩
              · rcases hdis with h0 | hne
                · have := hseg.1
                  have e2 : defL d.2 = [] := List.eq_nil_of_length_eq_zero (by omega)
                  rw [e2, h0]; exact Seg.empty
                · have h1 := hseg.alloc (Nat.le_refl _) (.cells #[.int .i64 (k : Int)] 2)
                  refine ⟨h1.1, fun hn0 => ?_⟩
                  obtain ⟨b', off', e2, hbb, hcc⟩ := h1.2 hn0
                  refine ⟨b', off', e2, Nat.lt_of_lt_of_le hbb (by have := hg.size; simp at this; omega), fun j hj => ?_⟩
                  injection e2 with e2
                  injection e2 with e3 e4
                  rw [← hcc j hj]
                  exact World.cell?_of_block (hg.block b' (by simp; omega) (fun e => hne (by rw [← e, e3])))
              · rcases hat with h | h
                · rw [h]; exact hdis
                · by_cases h0 : dn = 0
                  · exact .inl h0
                  · right
                    rw [h]
                    intro e
                    have e := Option.some.inj e
                    obtain ⟨b', off', e2, hbb, _⟩ := hseg.2 (by omega)
                    injection e2 with e2
                    injection e2 with e3 e4
                    simp at e
                    omega
              · exact Row.away (rr.alloc _) hg (fun e => by have := hge _ e; omega)
              · exact (hb.alloc hlw _).grown hg (by simp; omega) (fun q hq => by have := hge q hq; omega)))
          clear ho hseg hdis rr hb hdf
          go_wp2_with (first
            | (go_at_call 61; refine LH.out.mono ?_; rintro e w3 ⟨rfl, he⟩; rw [E.out] at he; subst he)
            | (at_builtin; refine appAllAt rfl _ _ rfl (w.heap.size + 1) O on oc (symL (fun x => !isDef d.2 x) k) rfl ho1 (some ⟨wr.heap.size, 0, none⟩) 1 1 (wr.heap.size + 1) [(k : Int)] rfl (one_row wr (k : Int)) (by omega) (by omega) (by omega) (by simp; omega) ?_; intro O' oc' w' ho' hg hat))
          have HF := Lib.hid (R.out O' oc' w' ho' hg hat)
          clear ho' hg hat ho1 R
          go_wp2
          go_roundw
          case rel => exact HF.out
          case measure => simp [intOf]; omega
      · have F : AnsSeg w (consI d.1 d.2) (.returned (.slice O on oc)) wr := ⟨O, on, oc, rfl, by
          have e1 : k = n := by omega
          subst e1
          unfold consI; rw [if_pos HS.out, HN.out]; exact Own.seg ho, hb⟩
        have HF := Lib.hid F
        clear F ho hseg hdis rr hb
        go_wp2
        go_ret
        exact HF.out

/-! ### ConstructorSystem -/
theorem nest_yes {rs : List Rl} {x : Rl} {j : Nat} {y : Int} (h1 : 1 ≤ j) (h2 : j < x.1.length) (e : x.1.getD j 0 = y) (h : isDef rs y = true) : nestB rs x = true := by
  unfold nestB
  rw [List.any_eq_true]
  refine ⟨y, ?_, h⟩
  rw [← e]
  obtain ⟨q, rfl⟩ : ∃ q, j = 1 + q := ⟨j - 1, by omega⟩
  have : x.1.getD (1 + q) 0 = (x.1.drop 1)[q]'(by rw [List.length_drop]; omega) := by rw [List.getElem_drop]; simp only [List.getD, List.getElem?_eq_getElem h2, Option.getD_some]
  rw [this]
  exact List.getElem_mem _
theorem nest_no {rs : List Rl} {x : Rl} (h : ∀ j, 1 ≤ j → j < x.1.length → isDef rs (x.1.getD j 0) = false) : nestB rs x = false := by
  unfold nestB
  rw [List.any_eq_false]
  intro y hy
  obtain ⟨q, hq, rfl⟩ := List.getElem_of_mem hy
  rw [List.length_drop] at hq
  have := h (1 + q) (by omega) (by omega)
  simp only [List.getElem_drop]
  have e : x.1.getD (1 + q) 0 = x.1[1 + q]'(by omega) := by simp [List.getD, show 1 + q < x.1.length by omega]
  rw [e] at this
  simp [this]
theorem cs_no {sg : List Int} {rs : List Rl} (h : sysOkB sg rs = false) : consB sg rs = false := by unfold consB; rw [h]; rfl
theorem cs_bad {sg : List Int} {rs : List Rl} {k : Nat} {x : Rl} (hk : k < rs.length) (ex : rs.getD k ([], []) = x) (h : nestB rs x = true) : consB sg rs = false := by
  unfold consB
  rw [any_round hk (f := nestB rs) (by rw [ex, h])]; simp
theorem cs_yes {sg : List Int} {rs : List Rl} (h : sysOkB sg rs = true) (hl : ∀ j, j < rs.length → nestB rs (rs.getD j ([], [])) = false) : consB sg rs = true := by
  unfold consB
  rw [h, any_rounds (f := nestB rs) hl]; rfl

set_option maxHeartbeats 8000000 in
theorem specConstructorSystem (a v : Value) (d : Dat sSystem) (w : World) (h : Rd w w.heap.size sSystem [a, v] d) (hz : sz sSystem d ≤ 1048576) :
    Calls Try.prog 36 #[.agg #[a, v]] w (AnsB w (consB d.1 d.2)) := by
  have S1 := fun (w1 : World) (bb : Below w.heap.size w w1) => specSystemOk a v d w1 (h.next bb) hz
  have S2 := fun (w1 : World) (bb : Below w.heap.size w w1) => l6Defined a v d w1 (h.next bb) hz
  obtain ⟨A, n, c, V, m, cv, rfl, rfl, hs, hc, hcv, hm, hn, hm1, hrs, hsg, hE⟩ := rd_sys h hz
  obtain ⟨W, hW, rA, bel⟩ := box1 w 29 #[.slice A n c, .slice V m cv]
  have HW := Lib.hid hW
  have HM := Lib.hid hm
  have HE := Lib.hid hE
  have HR := Lib.hid hrs
  have L1 := Lib.hid (S1 W bel)
  have L2 := Lib.hid S2
  clear hW h hz hs hc hcv hm hE hrs hsg S1 S2
  cases ok : sysOkB d.1 d.2 with
  | false =>
    have HS := Lib.hid ok
    clear ok
    go_enter Try.func36, Try.ntmps36
    go_wp2_with fail
    rw [← HW.out]
    refine L1.out.mono ?_
    rintro e w1 ⟨he, bb⟩
    rw [HS.out] at he
    subst he
    have F := Lib.hid (ansB (b := consB d.1 d.2) (a := false) (by rw [cs_no HS.out]) (next_trans bel bb))
    clear bel rA bb
    go_wp2
    go_ret
    exact F.out
  | true =>
    have HS := Lib.hid ok
    clear ok
    go_enter Try.func36, Try.ntmps36
    go_wp2_with fail
    rw [← HW.out]
    refine L1.out.mono ?_
    rintro e w1 ⟨he, bb⟩
    rw [HS.out] at he
    subst he
    replace rA := rA.next bb
    replace bel := next_trans bel bb
    have a0 : w1.cell? ⟨w.heap.size, 0, none⟩ = some (.slice A n c) := rA.cell 0
    have a1 : w1.cell? ⟨w.heap.size, 1, none⟩ = some (.slice V m cv) := rA.cell 1
    clear bb L1
    go_wp2_with fail
    refine (L2.out w1 bel HS.out).mono ?_
    rintro e w2 ⟨db, dx, dn, dc, rfl, hseg, hd1, hd2, bb⟩
    replace rA := rA.next bb
    replace bel := next_trans bel bb
    have hdn : dn ≤ 1048576 := by have h1 := hseg.1; have h2 := def_len d.2; have h3 := (sys_parts HS.out).2.1; omega
    have b1 : w2.cell? ⟨w.heap.size, 1, none⟩ = some (.slice V m cv) := rA.cell 1
    have LH := Lib.hid (fun y : Int => l1Has (some ⟨db, dx, none⟩) dn dc (defL d.2) y w2 hseg hdn)
    clear bb L2 rA hseg a0 a1 hd1 hd2
    go_wp2_with fail
    go_loopw [4] (fun i wr => ∃ k : Nat, k ≤ m ∧ i = .int .i64 k ∧ (∀ j, j < k → nestB d.2 (d.2.getD j ([], [])) = false) ∧ wr = w2) (fun i _ => m - (intOf i).toNat)
    case atStart => exact ⟨0, Nat.zero_le _, rfl, fun j hj => absurd hj (Nat.not_lt_zero _), rfl⟩
    case round =>
      obtain ⟨k, hk, rfl, hlow, hw⟩ := hrel
      subst hw
      have HLOW := Lib.hid hlow
      clear hlow
      by_cases hlt : k < m
      · obtain ⟨b, off, l, r, x, rfl, hbB, ex, hc0, hc1, hx⟩ := rd_at HR.out bel HM.out hlt
        have hzx : sz sRule x ≤ 1048576 := by have := HE.out k hlt; rw [ex.out] at this; exact this
        have hrx := (sys_parts HS.out).2.2 x (by rw [← ex.out]; exact rl_mem (by rw [HM.out]; exact hlt))
        obtain ⟨A1, n1, c1, A2, n2, c2, rfl, rfl, s1, k1, s2, k2, hn1, hn2⟩ := rd_rule hx hzx
        have hp := (term_len (rule_parts hrx).1).1
        rw [s1.1] at hp
        have HL1 := Lib.hid s1.1
        have i0 : (0 : Int) ≤ (k : Int) := by omega
        have i1 : (k : Int) < (m : Int) := by omega
        clear hx hzx hrx s2 k1 k2 hc1
        go_wp2_with fail
        go_loopw [5] (fun q wi => ∃ p : Nat, 1 ≤ p ∧ p ≤ n1 ∧ q = .int .i64 p ∧ (∀ j, 1 ≤ j → j < p → isDef d.2 (x.1.getD j 0) = false) ∧ wi = wr) (fun q _ => n1 - (intOf q).toNat)
        case atStart => exact ⟨1, Nat.le_refl _, hp, rfl, fun j h1 h2 => absurd h2 (by omega), rfl⟩
        case round =>
          obtain ⟨p, hp1, hp2, rfl, hlow2, hw2⟩ := hrel
          subst hw2
          have HLOW2 := Lib.hid hlow2
          clear hlow2
          by_cases hlt2 : p < n1
          · obtain ⟨b2, off2, y, rfl, hbB2, hy, ey⟩ := s1.spot hlt2
            have j0 : (0 : Int) ≤ (p : Int) := by omega
            have j1 : (p : Int) < (n1 : Int) := by omega
            have L := Lib.hid (LH.out y)
            cases hdf : isDef d.2 y with
            | true =>
              have E := Lib.hid (show decide (y ∈ defL d.2) = true by rw [← isDef_mem]; exact hdf)
              have F := Lib.hid (ansB (b := consB d.1 d.2) (a := false) (by rw [cs_bad (by rw [HM.out]; exact hlt) ex.out (nest_yes hp1 (by rw [HL1.out]; exact hlt2) ey.out hdf)]) bel)
              clear s1 ey hdf bel
              go_wp2_with fail
              refine L.out.mono ?_
              rintro e w4 ⟨rfl, he⟩
              rw [E.out] at he
              subst he
              clear L LH
              go_wp2
              go_ret
              exact F.out
            | false =>
              have E := Lib.hid (show decide (y ∈ defL d.2) = false by rw [← isDef_mem]; exact hdf)
              have S : Hid (∀ j, 1 ≤ j → j < p + 1 → isDef d.2 (x.1.getD j 0) = false) := Lib.hid fun j h1 h2 => by
                by_cases e : j = p
                · subst e; rw [ey.out]; exact hdf
                · exact HLOW2.out j h1 (by omega)
              clear s1 ey hdf
              go_wp2_with fail
              refine L.out.mono ?_
              rintro e w4 ⟨rfl, he⟩
              rw [E.out] at he
              subst he
              clear L LH
              go_wp2
              go_roundw
              case rel => exact ⟨p + 1, by omega, hlt2, by simp, S.out, by trivial⟩
              case measure => simp [intOf]; omega
          · have S : Hid (∀ j, j < k + 1 → nestB d.2 (d.2.getD j ([], [])) = false) := Lib.hid fun j hj => by
              by_cases e : j = k
              · subst e; rw [ex.out]; exact nest_no (fun j h1 h2 => HLOW2.out j h1 (by rw [HL1.out] at h2; omega))
              · exact HLOW.out j (by omega)
            clear s1
            go_wp2
            go_roundw
            case rel => exact ⟨k + 1, hlt, by simp, S.out, by trivial⟩
            case measure => simp [intOf]; omega
      · have F := Lib.hid (ansB (b := consB d.1 d.2) (a := true) (by rw [cs_yes HS.out (fun j hj => HLOW.out j (by rw [HM.out] at hj; omega))]) bel)
        clear bel
        go_wp2
        go_ret
        exact F.out
end Go.Proofs.Ytdkjafjphgcbjaa.ruleSpec
end

section
/-
  CONTRACTS: spec.RenamedRule. Conditions: the arguments read as data ('Rd'), at most 1048576 numbers. By an AI agent.
-/
namespace Go.Proofs.Ytdkjafjphgcbjaa.ruleSpec
open Go.RowKit Go.Proofs.Ytdkjafjphgcbjaa.base Go.Proofs.Ytdkjafjphgcbjaa.ints Go.Proofs.Ytdkjafjphgcbjaa.sig Go.Proofs.Ytdkjafjphgcbjaa.term Go.Proofs.Ytdkjafjphgcbjaa.termOk Go.Proofs.Ytdkjafjphgcbjaa.marks Go.Proofs.Ytdkjafjphgcbjaa.app Go.Proofs.Ytdkjafjphgcbjaa.sym Go.Proofs.Ytdkjafjphgcbjaa.segs Go.Proofs.Ytdkjafjphgcbjaa.termFacts Go.Proofs.Ytdkjafjphgcbjaa.varsMath Go.Proofs.Ytdkjafjphgcbjaa.varsOf Go.Proofs.Ytdkjafjphgcbjaa.rename Go.Proofs.Ytdkjafjphgcbjaa.renMath Go.Proofs.Ytdkjafjphgcbjaa.same Go.Proofs.Ytdkjafjphgcbjaa.count Go.Proofs.Ytdkjafjphgcbjaa.linear Go.Proofs.Ytdkjafjphgcbjaa.shape Go.Proofs.Ytdkjafjphgcbjaa.kindsR Go.Proofs.Ytdkjafjphgcbjaa.ruleMath Go.Proofs.Ytdkjafjphgcbjaa.kinds
set_option maxRecDepth 100000

/-- a rule of the call's own -/
def AnsRule (w : World) (d : Rl) (e : Ending) (w' : World) : Prop := ∃ A n c A' n' c', e = .returned (.agg #[.slice A n c, .slice A' n' c']) ∧ Owned w' w.heap.size w'.heap.size sRule [.slice A n c, .slice A' n' c'] d ∧ Below w.heap.size w w'
theorem rule_zero (w : World) (lo hi : Nat) : Owned w lo hi sRule [.slice none 0 0, .slice none 0 0] ([], []) :=
  ⟨[], ⟨[.slice none 0 0], [.slice none 0 0], [], [], rfl, rfl, ⟨none, 0, 0, rfl, rfl, .inl ⟨rfl, rfl, rfl, rfl⟩⟩, ⟨none, 0, 0, rfl, rfl, .inl ⟨rfl, rfl, rfl, rfl⟩⟩⟩, List.nodup_nil, fun k hk => by cases hk⟩
/-- two lists of the call's own make a rule of its own -/
theorem rule_own {w : World} {lo mid mid' hi : Nat} {A A' : Option Addr} {n c n' c' : Nat} {x y : List Int} (h : Own w lo (.slice A n c) x) (hmid : ∀ k, blk A = some k → k < mid) (h' : Own w mid' (.slice A' n' c') y) (hm : mid ≤ mid') (hl : lo ≤ mid') (hw : w.heap.size ≤ hi) (hmh : mid ≤ hi) : Owned w lo hi sRule [.slice A n c, .slice A' n' c'] (x, y) :=
  Owned.cat (ow_ints.2 ⟨h, hmid⟩) (ow_ints.2 ⟨h', fun k hk => Nat.lt_of_lt_of_le (World.ownsRow.lt h' k (by rw [Go.Proofs.Ytdkjafjphgcbjaa.appAt.blk_own]; exact hk)).2 hw⟩) hm hl hmh

set_option maxHeartbeats 8000000 in
theorem specRenamedRule (a l r : Value) (sg : List Int) (d : Dat sRule) (w : World) (h : Rd w w.heap.size sI [a] sg) (h' : Rd w w.heap.size sRule [l, r] d) (hz : sz sI sg ≤ 1048576) (hz' : sz sRule d ≤ 1048576) :
    Calls Try.prog 52 #[.agg #[a], .agg #[l, r]] w (AnsRule w (renRI sg d)) := by
  have S1 := fun (w1 : World) (bb : Below w.heap.size w w1) => specRuleOk a l r sg d w1 (h.next bb) (h'.next bb) hz hz'
  obtain ⟨A1, n1, c1, A2, n2, c2, rfl, rfl, s1, k1, s2, k2, hn1, hn2⟩ := rd_rule h' hz'
  obtain ⟨W, hW⟩ : ∃ W, W = ((w.alloc (.cells #[a] 26)).alloc (.cells #[.slice A1 n1 c1, .slice A2 n2 c2] 35)).alloc (.cells #[.slice none 0 0, .slice none 0 0] 35) := ⟨_, rfl⟩
  have zW : W.heap.size = w.heap.size + 1 + 1 + 1 := by rw [hW]; simp
  have rA : Row W w.heap.size 26 #[a] := by rw [hW]; have := ((Row.new w 26 #[a]).alloc (.cells #[.slice A1 n1 c1, .slice A2 n2 c2] 35)).alloc (.cells #[.slice none 0 0, .slice none 0 0] 35); simpa using this
  have rB : Row W (w.heap.size + 1) 35 #[.slice A1 n1 c1, .slice A2 n2 c2] := by rw [hW]; have := (Row.new (w.alloc (.cells #[a] 26)) 35 #[.slice A1 n1 c1, .slice A2 n2 c2]).alloc (.cells #[.slice none 0 0, .slice none 0 0] 35); simpa using this
  have rR : Row W (w.heap.size + 1 + 1) 35 #[.slice none 0 0, .slice none 0 0] := by rw [hW]; have := Row.new ((w.alloc (.cells #[a] 26)).alloc (.cells #[.slice A1 n1 c1, .slice A2 n2 c2] 35)) 35 #[.slice none 0 0, .slice none 0 0]; simpa using this
  have bel : Below w.heap.size w W := by rw [hW]; exact (((Below.refl _ _).alloc (Nat.le_refl _) _).alloc (by simp) _).alloc (by simp; omega) _
  have HW := Lib.hid hW
  have HL1 := Lib.hid s1.1
  have L1 := Lib.hid (S1 W bel)
  have LO := Lib.hid (fun (w1 : World) (bb : Below w.heap.size w w1) => l2Order A1 n1 c1 d.1 w1 (s1.next bb) hn1)
  have LB1 := Lib.hid (fun (w1 : World) (bb : Below w.heap.size w w1) (P : Option Addr) (pn pc : Nat) (hp : Seg w1 w1.heap.size P pn (orderL d.1)) (hpn : pn ≤ 1048576) => l2By P A1 pn pc n1 c1 (orderL d.1) d.1 w1 hp (s1.next bb) hpn hn1 (order_nodup _) (fun x hx h0 => order_mem.2 ⟨hx, h0⟩))
  have LB2 := Lib.hid (fun (w1 : World) (bb : Below w.heap.size w w1) (P : Option Addr) (pn pc : Nat) (hp : Seg w1 w1.heap.size P pn (orderL d.1)) (hpn : pn ≤ 1048576) (hr : ∀ x, x ∈ d.2 → x < 0 → x ∈ d.1) => l2By P A2 pn pc n2 c2 (orderL d.1) d.2 w1 hp (s2.next bb) hpn hn2 (order_nodup _) (fun x hx h0 => order_mem.2 ⟨hr x hx h0, h0⟩))
  clear hW h h' hz hz' k1 k2 S1 s1 s2
  cases ok : ruleOkB sg d with
  | false =>
    have HS := Lib.hid ok
    clear ok
    go_enter Try.func52, Try.ntmps52
    go_wp2_with fail
    rw [← HW.out]
    refine L1.out.mono ?_
    rintro e w1 ⟨he, bb⟩
    rw [HS.out] at he
    subst he
    have hlt := rA.lt
    replace rR := rR.next bb
    replace bel := next_trans bel bb
    have y0 : w1.cell? ⟨w.heap.size + 1 + 1, 0, none⟩ = some (.slice none 0 0) := rR.cell 0
    have y1 : w1.cell? ⟨w.heap.size + 1 + 1, 1, none⟩ = some (.slice none 0 0) := rR.cell 1
    have f0 := rR.free 0
    have f1 := rR.free 1
    have r1 := rR.put 0 (.slice none 0 0)
    have y2 : (w1.setCell ⟨w.heap.size + 1 + 1, 0, none⟩ (.slice none 0 0)).cell? ⟨w.heap.size + 1 + 1, 1, none⟩ = some (.slice none 0 0) := r1.cell 1
    have f2 := r1.free 1
    have r2 := r1.put 1 (.slice none 0 0)
    have u0 : ((w1.setCell ⟨w.heap.size + 1 + 1, 0, none⟩ (.slice none 0 0)).setCell ⟨w.heap.size + 1 + 1, 1, none⟩ (.slice none 0 0)).cell? ⟨w.heap.size + 1 + 1, 0, none⟩ = some (.slice none 0 0) := r2.cell 0
    have u1 : ((w1.setCell ⟨w.heap.size + 1 + 1, 0, none⟩ (.slice none 0 0)).setCell ⟨w.heap.size + 1 + 1, 1, none⟩ (.slice none 0 0)).cell? ⟨w.heap.size + 1 + 1, 1, none⟩ = some (.slice none 0 0) := r2.cell 1
    have F : AnsRule w (renRI sg d) (.returned (.agg #[.slice none 0 0, .slice none 0 0])) ((w1.setCell ⟨w.heap.size + 1 + 1, 0, none⟩ (.slice none 0 0)).setCell ⟨w.heap.size + 1 + 1, 1, none⟩ (.slice none 0 0)) :=
      ⟨_, _, _, _, _, _, rfl, by unfold renRI; rw [if_neg (by rw [HS.out]; simp)]; exact rule_zero _ _ _, (bel.setCell (by simp; omega) _).setCell (by simp; omega) _⟩
    have HF := Lib.hid F
    clear F bel rA rB rR bb r1 r2
    go_wp2
    exact bodyPost_ret (v := .agg #[.slice none 0 0, .slice none 0 0]) (by simp [results, Try.results52, go_sem, u0, u1]) rfl HF.out
  | true =>
    have HS := Lib.hid ok
    have HV := Lib.hid (rule_parts ok).2.2.2
    clear ok
    go_enter Try.func52, Try.ntmps52
    go_wp2_with fail
    rw [← HW.out]
    refine L1.out.mono ?_
    rintro e w1 ⟨he, bb⟩
    rw [HS.out] at he
    subst he
    have zb := bb.size
    replace rB := rB.next bb
    replace rR := rR.next bb
    replace bel := next_trans bel bb
    have b0 : w1.cell? ⟨w.heap.size + 1, 0, none⟩ = some (.slice A1 n1 c1) := rB.cell 0
    clear bb L1 rA
    go_wp2_with fail
    refine (LO.out w1 bel).mono ?_
    rintro e w2 ⟨P, pn, pc, rfl, oP, bb⟩
    have zb2 := bb.size
    replace rB := rB.next bb
    replace rR := rR.next bb
    replace bel := next_trans bel bb
    have hpn : pn ≤ 1048576 := by rw [Own.len oP]; have := order_len d.1; have := HL1.out; omega
    replace rB := rB.drew
    replace rR := rR.drew
    replace bel := bel.drew
    have sP := (Own.seg oP).drew
    have zd : w2.drew.heap.size = w2.heap.size := rfl
    have c0 : w2.drew.cell? ⟨w.heap.size + 1, 0, none⟩ = some (.slice A1 n1 c1) := rB.cell 0
    have c1' : w2.drew.cell? ⟨w.heap.size + 1, 1, none⟩ = some (.slice A2 n2 c2) := rB.cell 1
    have hne : ¬ w.heap.size + 1 = w.heap.size + 1 + 1 := by omega
    clear bb LO b0 oP
    go_wp2_with fail
    go_region_held3 (fun w' => w'.cell? ⟨w.heap.size + 1, 0, none⟩ = some (.slice A1 n1 c1) ∧ w'.cell? ⟨w.heap.size + 1, 1, none⟩ = some (.slice A2 n2 c2))
      (go_keep)
      (first
        | (go_at_call_of 90 (Value.slice A1 n1 c1); refine (LB1.out w2.drew bel P pn pc sP hpn).mono ?_; rintro e w3 ⟨X, xn, xc, rfl, oX, bb⟩; replace sP := sP.next bb; have zb3 := bb.size; have d0 : w3.cell? ⟨w.heap.size + 1, 0, none⟩ = some (.slice A1 n1 c1) := (rB.next bb).cell 0; have d1 : w3.cell? ⟨w.heap.size + 1, 1, none⟩ = some (.slice A2 n2 c2) := (rB.next bb).cell 1; have rB3 := rB.next bb; have rR3 := rR.next bb; have bel3 := next_trans bel bb; clear bb)
        | (go_at_call_of 90 (Value.slice A2 n2 c2); refine (LB2.out w3 bel3 P pn pc sP hpn HV.out).mono ?_; rintro e w4 ⟨Y, yn, yc, rfl, oY, bb⟩; have oX4 := oX.next bb; have zb4 := bb.size; have d2 : w4.cell? ⟨w.heap.size + 1, 0, none⟩ = some (.slice A1 n1 c1) := (rB3.next bb).cell 0; have d3 : w4.cell? ⟨w.heap.size + 1, 1, none⟩ = some (.slice A2 n2 c2) := (rB3.next bb).cell 1; have rR4 := rR3.next bb; have bel4 := next_trans bel3 bb; have y0 : w4.cell? ⟨w.heap.size + 1 + 1, 0, none⟩ = some (.slice none 0 0) := rR4.cell 0; have y1 : w4.cell? ⟨w.heap.size + 1 + 1, 1, none⟩ = some (.slice none 0 0) := rR4.cell 1; have f0 := rR4.free 0; have f1 := rR4.free 1; have y2 : (w4.setCell ⟨w.heap.size + 1 + 1, 0, none⟩ (.slice X xn xc)).cell? ⟨w.heap.size + 1 + 1, 1, none⟩ = some (.slice none 0 0) := (rR4.put 0 (.slice X xn xc)).cell 1; have f2 := (rR4.put 0 (.slice X xn xc)).free 1; clear bb))
    have hX : ∀ k, blk X = some k → k < w3.heap.size := fun k hk => (World.ownsRow.lt oX k (by rw [Go.Proofs.Ytdkjafjphgcbjaa.appAt.blk_own]; exact hk)).2
    have oo : Owned w4 (w.heap.size + 1 + 1 + 1) w4.heap.size sRule [.slice X xn xc, .slice Y yn yc] (renRI sg d) := by
      unfold renRI renR byL renL; rw [if_pos HS.out]
      exact (rule_own (lo := w2.drew.heap.size) (mid := w3.heap.size) (mid' := w3.heap.size) oX4 hX oY (Nat.le_refl _) (by omega) (Nat.le_refl _) (by omega)).wider (by omega) (Nat.le_refl _)
    have r1 := rR4.put 0 (.slice X xn xc)
    have r2 := r1.put 1 (.slice Y yn yc)
    have u0 : ((w4.setCell ⟨w.heap.size + 1 + 1, 0, none⟩ (.slice X xn xc)).setCell ⟨w.heap.size + 1 + 1, 1, none⟩ (.slice Y yn yc)).cell? ⟨w.heap.size + 1 + 1, 0, none⟩ = some (.slice X xn xc) := r2.cell 0
    have u1 : ((w4.setCell ⟨w.heap.size + 1 + 1, 0, none⟩ (.slice X xn xc)).setCell ⟨w.heap.size + 1 + 1, 1, none⟩ (.slice Y yn yc)).cell? ⟨w.heap.size + 1 + 1, 1, none⟩ = some (.slice Y yn yc) := r2.cell 1
    have F : AnsRule w (renRI sg d) (.returned (.agg #[.slice X xn xc, .slice Y yn yc])) ((w4.setCell ⟨w.heap.size + 1 + 1, 0, none⟩ (.slice X xn xc)).setCell ⟨w.heap.size + 1 + 1, 1, none⟩ (.slice Y yn yc)) :=
      ⟨_, _, _, _, _, _, rfl, ((oo.put (g := w.heap.size + 1 + 1) (i := 0) (u := .slice X xn xc) (by omega)).put (g := w.heap.size + 1 + 1) (i := 1) (u := .slice Y yn yc) (by omega)).wider (by omega) (by simp), (bel4.setCell (by simp; omega) _).setCell (by simp; omega) _⟩
    have HF := Lib.hid F
    clear F oo r1 r2 rR4 rR3 rB3 rB rR bel4 bel3 bel oX oX4 oY sP
    go_wp2
    exact bodyPost_ret (v := .agg #[.slice X xn xc, .slice Y yn yc]) (by simp [results, Try.results52, go_sem, u0, u1]) rfl HF.out
end Go.Proofs.Ytdkjafjphgcbjaa.ruleSpec
end

section
/-
  CONTRACTS of the look-ups: impl.varTerm, (lookup).fill over whatever look-up ('Looks'), lookupIn and what it returns. Conditions: at most 60 numbers, replacements of at most 4096. By an AI agent.
-/
namespace Go.Proofs.Ytdkjafjphgcbjaa.look
open Go.RowKit Go.Proofs.Ytdkjafjphgcbjaa.base Go.Proofs.Ytdkjafjphgcbjaa.ints Go.Proofs.Ytdkjafjphgcbjaa.marks Go.Proofs.Ytdkjafjphgcbjaa.app Go.Proofs.Ytdkjafjphgcbjaa.sym Go.Proofs.Ytdkjafjphgcbjaa.segs Go.Proofs.Ytdkjafjphgcbjaa.fillMath
set_option maxRecDepth 100000

theorem varTerm (i : Int) (w : World) (h0 : 0 ≤ i) (h1 : i ≤ 1000) :
    Calls Try.prog 102 #[.int .i64 i] w (AnsList w [-1 - i]) := by
  have F : AnsList w [-1 - i] (.returned (.slice (some ⟨w.heap.size, 0, none⟩) 1 1)) (w.alloc (.cells #[.int .i64 (-1 - i)] 2)) :=
    ⟨_, 1, 1, rfl, Own.of_row (Row.new _ _ _) rfl rfl (Nat.le_refl _) (by omega) (Nat.le_refl _) (fun j hj => by
      have e : j = 0 := by omega
      subst e
      rfl), (Below.refl _ _).alloc (Nat.le_refl _) _⟩
  have HF := Lib.hid F
  clear F
  go_enter Try.func102, Try.ntmps102
  go_wp2
  go_ret
  exact HF.out

/-- an answer that may be read: it lies below B, or it is new -/
def AnsLook (B : Nat) (w : World) (ys : List Int) (e : Ending) (w' : World) : Prop := ∃ A n c, e = .returned (.slice A n c) ∧ Seg w' w'.heap.size A n ys ∧ Cap A n c ∧ (∀ k, blk A = some k → k < B ∨ w.heap.size ≤ k) ∧ Below w.heap.size w w'
/-- function g with what it has captured looks up L, at variables below N, as long as what lies in w lies -/
def Looks (g : Nat) (lb : Array Value) (w : World) (L : Nat → List Int) (N : Nat) : Prop :=
  ∀ (W : World) (i : Nat), Below w.heap.size w W → i < N → Calls Try.prog g (#[.int .i64 (i : Int)] ++ lb) W (AnsLook w.heap.size W (L i))
theorem Looks.next {g : Nat} {lb : Array Value} {w w' : World} {L : Nat → List Int} {N : Nat} (h : Looks g lb w L N) (hb : Below w.heap.size w w') : Looks g lb w' L N :=
  fun W i hW hi => (h W i (next_trans hb hW) hi).mono fun _ _ ⟨A, n, c, he, h1, h2, h3, h4⟩ => ⟨A, n, c, he, h1, h2, fun k hk => by have := h3 k hk; have := hb.size; omega, h4⟩
theorem own_cap {w : World} {base : Nat} {A : Option Addr} {n c : Nat} {xs : List Int} (h : Own w base (.slice A n c) xs) : Cap A n c := by
  have hl := Own.len h
  rcases own_form (n := n) (vs := xs.map (Value.int .i64)) (by rw [hl]; rw [hl] at h; exact h) with ⟨rfl, h1, rfl, _⟩ | ⟨g, cur, rfl, _, _, h1, h2, h3, _⟩
  · exact ⟨by omega, by omega, fun _ => rfl⟩
  · exact ⟨h1, h3, fun e => by cases e⟩
theorem look_new {w w' : World} {B : Nat} {ys : List Int} {A : Option Addr} {n c : Nat} (ho : Own w' w.heap.size (.slice A n c) ys) (hb : Below w.heap.size w w') : AnsLook B w ys (.returned (.slice A n c)) w' :=
  ⟨A, n, c, rfl, Own.seg ho, own_cap ho, fun k hk => .inr (World.ownsRow.lt ho k (by cases A with | none => cases hk | some a => exact hk)).1, hb⟩

/-- the head of fill's loop -/
def HeadFill (w : World) (m : Nat) (t : List Int) (L : Nat → List Int) (out i : Value) (wr : World) : Prop :=
  ∃ (k : Nat) (O : Option Addr) (on oc : Nat), k ≤ m ∧ i = .int .i64 k ∧ out = .slice O on oc ∧ Own wr w.heap.size (.slice O on oc) (fillL L (t.take k)) ∧ Below w.heap.size w wr
theorem fill_bound {L : Nat → List Int} {t : List Int} {m k : Nat} (hM : ∀ i, (L i).length ≤ 4096) (hm : t.length = m) (h60 : m ≤ 60) : (fillL L (t.take k)).length ≤ 245760 := by
  have h := fill_len (M := 4096) (by omega) hM (t.take k)
  have h2 : (t.take k).length ≤ 60 := by simp; omega
  have h3 : (t.take k).length * 4096 ≤ 60 * 4096 := Nat.mul_le_mul_right _ h2
  omega

set_option maxHeartbeats 2000000 in
theorem fill (g : Nat) (lb : Array Value) (eg : ∀ args w, (callFunc g args).run Try.prog w = .ok (.enter g args) w) (A : Option Addr) (m c : Nat) (t : List Int) (L : Nat → List Int) (w : World)
    (hL : Looks g lb w L 24) (h : Seg w w.heap.size A m t) (hm : m ≤ 60) (hv : ∀ x ∈ t, -24 ≤ x) (hM : ∀ i, (L i).length ≤ 4096) :
    Calls Try.prog 64 #[.func (.func g) #[] lb, .slice A m c] w (AnsList w (fillL L t)) := by
  have HL := Lib.hid h.1
  have HV := Lib.hid hv
  have HM := Lib.hid hM
  have HK := Lib.hid hL
  have S0 : HeadFill w m t L (.slice none 0 0) (.int .i64 0) w := ⟨0, _, _, _, Nat.zero_le _, rfl, rfl, by simpa [fillL] using Own.nil w w.heap.size, Below.refl _ _⟩
  have HS0 := Lib.hid S0
  clear S0 hv hM hL
  go_enter Try.func64, Try.ntmps64
  go_wp2
  go_loopw [5, 10] (fun out i wr => HeadFill w m t L out i wr) (fun _ i _ => m - (intOf i).toNat)
  case atStart => exact HS0.out
  case round =>
    obtain ⟨k, O, on, oc, hk, rfl, rfl, ho, hb⟩ := hrel
    clear HS0
    have hon : on ≤ 245760 := by rw [Own.len ho]; exact fill_bound HM.out HL.out hm
    by_cases hlt : k < m
    · obtain ⟨b, off, x, rfl, hbb, hx, ex⟩ := h.spot hlt
      have hx1 : wr.cell? ⟨b, off + k, none⟩ = some (.int .i64 x) := (hb.cell (p := ⟨b, off + k, none⟩) hbb).trans hx
      have hmem : x ∈ t := by
        have hkl : k < t.length := by rw [HL.out]; exact hlt
        have := ex.out
        rw [← this]
        simp [List.getD, hkl]
      have hx24 : -24 ≤ x := HV.out x hmem
      have E := Lib.hid (fill_take (L := L) (t := t) (k := k) (by rw [HL.out]; exact hlt) ex.out)
      have hsz := hb.size
      clear hmem hx h ex
      by_cases hpos : 0 ≤ x
      · have R := Lib.hid (rep_sym (L := L) hpos)
        go_wp2_with (at_builtin; refine app1 rfl _ _ rfl w.heap.size O on oc (fillL L (t.take k)) rfl (Own.alloc ho _) wr.heap.size 1 x rfl ((Row.new _ _ _).cell 0) (by omega) (by simp; omega) ?_; intro O' oc' w2 ho2 b2)
        have S : HeadFill w m t L (.slice O' (on + 1) oc') (.int .i64 ((k : Int) + 1)) w2 := ⟨k + 1, O', on + 1, oc', hlt, by simp, rfl, by rw [E.out, R.out]; exact ho2, (hb.alloc hsz _).trans b2⟩
        replace S := Lib.hid S
        clear ho2 b2 ho hb R E
        go_wp2
        go_roundw
        case rel => exact S.out
        case measure => simp [intOf]; omega
      · have hneg : x < 0 := by omega
        have R := Lib.hid (rep_var (L := L) hneg)
        have hcall := HK.out wr (-1 - x).toNat hb (by omega)
        rw [show (((-1 - x).toNat : Nat) : Int) = -1 - x by omega] at hcall
        have hLM : (L (-1 - x).toNat).length ≤ 4096 := HM.out _
        generalize hys : L (-1 - x).toNat = ys at hcall R hLM
        replace hcall := Lib.hid hcall
        clear hys
        go_wp2_with (first
          | (go_at_fn g; refine hcall.out.mono ?_; rintro e w1 ⟨A', n', c', rfl, s', cap', -, bb⟩; have hn' : n' ≤ 4096 := (by rw [← s'.1]; exact hLM); have ho1 := ho.next bb; have hb1 := hb.trans (bb.mono hb.size))
          | (at_builtin; refine appAll rfl _ _ rfl w.heap.size O on oc (fillL L (t.take k)) rfl ho1 A' n' c' w1.heap.size ys rfl s' cap'.2.2 (by omega) (by omega) hb1.size ?_; intro O' oc' w2 ho2 b2))
        have S : HeadFill w m t L (.slice O' (on + n') oc') (.int .i64 ((k : Int) + 1)) w2 := ⟨k + 1, O', on + n', oc', hlt, by simp, rfl, by rw [E.out, R.out]; exact ho2, hb1.trans b2⟩
        replace S := Lib.hid S
        clear ho2 b2 ho hb R E ho1 hb1 s' cap' bb hcall
        go_wp2
        go_roundw
        case rel => exact S.out
        case measure => simp [intOf]; omega
    · have F : AnsList w (fillL L t) (.returned (.slice O on oc)) wr := by
        rw [List.take_of_length_le (by rw [HL.out]; omega)] at ho
        exact ⟨O, on, oc, rfl, ho, hb⟩
      have HF := Lib.hid F
      clear F ho hb h
      go_wp2
      go_ret
      exact HF.out
end Go.Proofs.Ytdkjafjphgcbjaa.look
end

section
/-
  CONTRACTS: impl.Renamed, its closure (which keeps a list of what it has seen in a variable of its caller), fill over that closure. Conditions: the slices read as lists ('Seg'), at most 1048576 numbers. By an AI agent.
-/
namespace Go.Proofs.Ytdkjafjphgcbjaa.renImpl
open Go.RowKit Go.Proofs.Ytdkjafjphgcbjaa.base Go.Proofs.Ytdkjafjphgcbjaa.ints Go.Proofs.Ytdkjafjphgcbjaa.sig Go.Proofs.Ytdkjafjphgcbjaa.cursor Go.Proofs.Ytdkjafjphgcbjaa.term Go.Proofs.Ytdkjafjphgcbjaa.termOk Go.Proofs.Ytdkjafjphgcbjaa.marks Go.Proofs.Ytdkjafjphgcbjaa.app Go.Proofs.Ytdkjafjphgcbjaa.appAt Go.Proofs.Ytdkjafjphgcbjaa.sym Go.Proofs.Ytdkjafjphgcbjaa.segs Go.Proofs.Ytdkjafjphgcbjaa.termFacts Go.Proofs.Ytdkjafjphgcbjaa.varsMath Go.Proofs.Ytdkjafjphgcbjaa.fillMath Go.Proofs.Ytdkjafjphgcbjaa.look Go.Proofs.Ytdkjafjphgcbjaa.renMath Go.Proofs.Ytdkjafjphgcbjaa.rename
set_option maxRecDepth 100000

/-- a number's variable -/
def vn (n : Int) : Int := -1 - n
theorem vn_inj : ∀ a b : Int, vn a = vn b → a = b := fun a b h => by unfold vn at h; omega

/-- only block p, row r and what is new have turned -/
structure Side (p : Nat) (r : Option Nat) (a b : World) : Prop where
  os : b.os = a.os
  tape : b.tape = a.tape
  output : b.output = a.output
  size : a.heap.size ≤ b.heap.size
  block : ∀ k, k < a.heap.size → k ≠ p → some k ≠ r → b.heap[k]? = a.heap[k]?
section
variable {p : Nat} {r : Option Nat} {a b c : World}
theorem Side.of_below (h : Below a.heap.size a b) : Side p r a b := ⟨h.os, h.tape, h.output, h.size, fun k hk _ _ => h.block k hk⟩
theorem Side.of_grown (h : a.grownBy b r) : Side p r a b := ⟨h.os, h.tape, h.output, h.size, fun k hk _ hr => h.block k hk hr⟩
theorem Side.of_var (h : a.grownBy b (some p)) : Side p r a b := ⟨h.os, h.tape, h.output, h.size, fun k hk hp _ => h.block k hk (fun e => by injection e with e; exact hp e)⟩
theorem Side.trans (h : Side p r a b) (k : Side p r b c) : Side p r a c :=
  ⟨k.os.trans h.os, k.tape.trans h.tape, k.output.trans h.output, Nat.le_trans h.size k.size, fun i hi hp hr => (k.block i (Nat.lt_of_lt_of_le hi h.size) hp hr).trans (h.block i hi hp hr)⟩
theorem Side.below (h : Side p r a b) (hr : ∀ k, r = some k → p ≤ k) (hp : p ≤ a.heap.size) : Below p a b :=
  ⟨h.os, h.tape, h.output, h.size, fun k hk => h.block k (by omega) (by omega) (fun e => by have := hr k e.symm; omega)⟩
/-- a slice of int64 in another row stays -/
theorem Own.side {base n cc : Nat} {O : Option Addr} {xs : List Int} {cs : Array Value} (h : Own a base (.slice O n cc) xs) (hs : Side p r a b) (hv : Row a p 24 cs) (hne : blk O = none ∨ blk O ≠ r) : Own b base (.slice O n cc) xs := by
  obtain ⟨q1, q2⟩ := h
  refine ⟨q1, ?_⟩
  rcases q2 with q2 | ⟨g, cap, cur, e, hg, hh, rest⟩
  · exact .inl q2
  · refine .inr ⟨g, cap, cur, e, hg, ?_, rest⟩
    have hlt : g < a.heap.size := (Array.getElem?_eq_some_iff.1 hh).1
    have hb : blk O = some g := by rw [← blk_own O n cc, e]; rfl
    have hgp : g ≠ p := Row.ne_ (t := 2) (t' := 24) hh hv (by decide)
    exact (hs.block g hlt hgp (by rw [hb] at hne; rcases hne with h | h; cases h; exact h)).trans hh
end

theorem own_ne {w : World} {base B n c : Nat} {S : Option Addr} {xs : List Int} {cs : Array Value} (h : Own w base (.slice S n c) xs) (hr : Row w B 24 cs) : blk S ≠ some B := by
  have hl := Own.len h
  rcases own_form (n := n) (vs := xs.map (Value.int .i64)) (by rw [hl]; rw [hl] at h; exact h) with ⟨rfl, _⟩ | ⟨g, cur, rfl, _, hrow, _⟩
  · intro e; cases e
  · intro e
    have e2 : g = B := Option.some.inj e
    exact Row.ne_ hr hrow (by decide) e2.symm
theorem one_seg (w : World) (y : Int) : Seg (w.alloc (.cells #[.int .i64 y] 2)) (w.alloc (.cells #[.int .i64 y] 2)).heap.size (some ⟨w.heap.size, 0, none⟩) 1 [y] :=
  (Row.new w 2 #[.int .i64 y]).seg rfl (by simp) (fun j hj => by
    have e : j = 0 := by omega
    subst e
    rfl)

/-- what the closure leaves -/
def AnsRen (W : World) (B : Nat) (S : Option Addr) (o : List Int) (x : Int) (e : Ending) (w' : World) : Prop :=
  ∃ A c S' sn' sc', e = .returned (.slice A 1 c) ∧ Seg w' w'.heap.size A 1 [-1 - (idx (ext o x) x : Int)] ∧ (A = none → c = 0) ∧ Row w' B 24 #[.slice S' sn' sc'] ∧
    Own w' (B + 1) (.slice S' sn' sc') ((ext o x).map vn) ∧ (blk S' = blk S ∨ ∃ k, blk S' = some k ∧ W.heap.size ≤ k) ∧ Side B (blk S) W w'

set_option maxHeartbeats 4000000 in
theorem ren1 (B : Nat) (S : Option Addr) (sn sc : Nat) (o : List Int) (x : Int) (W : World) (hr : Row W B 24 #[.slice S sn sc]) (ho : Own W (B + 1) (.slice S sn sc) (o.map vn)) (hx0 : -24 ≤ x) (hx1 : x < 0) (hsn : sn ≤ 1000) :
    Calls Try.prog 100 #[.int .i64 (-1 - x), .pointer (some ⟨B, 0, none⟩)] W (AnsRen W B S o x) := by
  have hl := Own.len ho
  simp only [List.length_map] at hl
  have hlt := hr.lt
  have cB : W.cell? ⟨B, 0, none⟩ = some (.slice S sn sc) := hr.cell 0
  have fB : W.frozen? ⟨B, 0, none⟩ = false := hr.free 0
  have LI := Lib.hid (indexOf S sn sc (o.map vn) (-1 - x) W (Own.seg ho) (by omega))
  by_cases hin : x ∈ o
  · have hi : idx o x < o.length := idx_lt hin
    obtain ⟨q, hq⟩ : ∃ q, idx o x = q := ⟨_, rfl⟩
    have EI := Lib.hid (show indexI (o.map vn) (-1 - x) = (q : Int) by
      unfold indexI
      rw [show (-1 - x : Int) = vn x from rfl, if_pos ((mem_map_inj vn_inj).2 hin), idx_map vn_inj, hq])
    have EX := Lib.hid (show ext o x = o by unfold ext; rw [if_pos hin])
    have LV := Lib.hid (varTerm (q : Int) W (by omega) (by omega))
    have HQ := Lib.hid hq
    have hq60 : q ≤ 1000 := by omega
    have HR := Lib.hid hr
    have HO := Lib.hid ho
    clear hin hi hq hl hr ho
    go_enter Try.func100, Try.ntmps100
    go_wp2_with fail
    refine LI.out.mono ?_
    rintro e w' ⟨rfl, he⟩
    rw [EI.out] at he
    subst he
    clear LI
    go_wp2_with fail
    refine LV.out.mono ?_
    rintro e w1 ⟨A, n, c, rfl, oq, bb⟩
    have hn1 := Own.len oq
    simp only [List.length_cons, List.length_nil] at hn1
    subst hn1
    have F : AnsRen W B S o x (.returned (.slice A 1 c)) w1 :=
      ⟨A, c, S, sn, sc, rfl, by rw [EX.out, HQ.out]; exact Own.seg oq, (own_cap oq).2.2, HR.out.next bb, by rw [EX.out]; exact HO.out.next bb, .inl rfl, Side.of_below bb⟩
    have HF := Lib.hid F
    clear F oq bb LV cB fB
    go_wp2
    go_ret
    exact HF.out
  · have EI := Lib.hid (show indexI (o.map vn) (-1 - x) = -1 by
      unfold indexI
      rw [show (-1 - x : Int) = vn x from rfl, if_neg (fun h => hin ((mem_map_inj vn_inj).1 h))])
    have EX := Lib.hid (show (ext o x).map vn = o.map vn ++ [-1 - x] by unfold ext; rw [if_neg hin, List.map_append]; rfl)
    have EQ := Lib.hid (show idx (ext o x) x = sn by unfold ext; rw [if_neg hin, idx_app_new hin, hl])
    have hne := own_ne ho hr
    have hr1 := hr.alloc (.cells #[.int .i64 (-1 - x)] 2)
    have ho1 := Own.alloc ho (.cells #[.int .i64 (-1 - x)] 2)
    have HNE := Lib.hid hne
    have HN := Lib.hid hl
    clear hin hl hr ho hne
    go_enter Try.func100, Try.ntmps100
    go_wp2_with fail
    refine LI.out.mono ?_
    rintro e w' ⟨rfl, he⟩
    rw [EI.out] at he
    subst he
    clear LI
    go_wp2_with (first
      | (at_builtin; refine appAllAt rfl _ _ rfl (B + 1) S sn sc (o.map vn) rfl ho1 (some ⟨W.heap.size, 0, none⟩) 1 1 (W.heap.size + 1) [-1 - x] rfl (by simpa using one_seg W (-1 - x)) (by omega) (by omega) (by omega) (by simp; omega) ?_; intro S' sc' w2 ho2 hg hat; have r2 := Row.away hr1 hg HNE.out; have cB2 : w2.cell? ⟨B, 0, none⟩ = some (.slice S sn sc) := r2.cell 0; have fB2 : w2.frozen? ⟨B, 0, none⟩ = false := r2.free 0)
      | (go_at_call 102; refine (varTerm (sn : Int) _ (by omega) (by omega)).mono ?_; rintro e w3 ⟨A, n, c, rfl, oq, bb⟩))
    have hn1 := Own.len oq
    simp only [List.length_cons, List.length_nil] at hn1
    subst hn1
    have r3 := r2.put 0 (.slice S' (sn + 1) sc')
    have hg3 : w2.grownBy (w2.setCell ⟨B, 0, none⟩ (.slice S' (sn + 1) sc')) (some B) := grown_put (World.grownBy.refl _ _) _ _
    have o3 := Own.far ho2 hg3 (fun k hk => by injection hk; omega)
    have sd : Side B (blk S) W w3 := (((Side.of_below ((Below.refl _ _).alloc (Nat.le_refl _) _)).trans (Side.of_grown hg)).trans (Side.of_var hg3)).trans (Side.of_below bb)
    have F : AnsRen W B S o x (.returned (.slice A 1 c)) w3 := by
      refine ⟨A, c, S', sn + 1, sc', rfl, by rw [EQ.out]; exact Own.seg oq, (own_cap oq).2.2, r3.next bb, by rw [EX.out]; exact o3.next bb, ?_, sd⟩
      rcases hat with h | h
      · exact .inl h
      · exact .inr ⟨_, h, by simp⟩
    have HF := Lib.hid F
    clear F oq bb r3 hg3 o3 sd hat hg ho2 r2 cB2 fB2 cB fB hr1 ho1
    go_wp2
    go_ret
    exact HF.out

theorem ne_flip {a b : Option Nat} (h : a = none ∨ a ≠ b) : b = none ∨ b ≠ a := by
  cases b with
  | none => exact .inl rfl
  | some k =>
    right
    rintro rfl
    rcases h with h | h
    · cases h
    · exact h rfl
theorem blk_lt {w : World} {base : Nat} {A : Option Addr} {n c : Nat} {xs : List Int} (h : Own w base (.slice A n c) xs) : ∀ k, blk A = some k → base ≤ k ∧ k < w.heap.size := fun k hk => World.ownsRow.lt h k (by rw [blk_own]; exact hk)
theorem ne_new {w : World} {base : Nat} {S : Option Addr} {n c : Nat} {xs : List Int} {a : Option Nat} (h : Own w base (.slice S n c) xs) (q : Nat) (hq : w.heap.size ≤ q) (ha : a = some q) : a = none ∨ a ≠ blk S := by
  right
  rintro rfl
  have := (blk_lt h q ha).2
  omega

/-! ### fill over this closure, whatever it has seen ahead -/
def ordF (o t : List Int) : List Int := t.foldl extV o
theorem ordF_take {o t : List Int} {k : Nat} {x : Int} (hk : k < t.length) (hx : t.getD k 0 = x) : ordF o (t.take (k + 1)) = extV (ordF o (t.take k)) x := by
  unfold ordF
  rw [take_snoc hk hx, List.foldl_append]
  rfl
theorem ordF_len (o t : List Int) : (ordF o t).length ≤ o.length + t.length := fold_ext_len t o
theorem ordF_same {o : List Int} : ∀ {t : List Int}, (∀ x ∈ t, x < 0 → x ∈ o) → ordF o t = o
  | [], _ => rfl
  | x :: t, h => by
    have e : extV o x = o := by
      unfold extV
      split
      · unfold ext; rw [if_pos (h x (List.mem_cons_self ..) (by assumption))]
      · rfl
    show t.foldl extV (extV o x) = o
    rw [e]
    exact ordF_same (fun y hy => h y (List.mem_cons_of_mem _ hy))
def renF (o t : List Int) : List Int := t.map (ren (ordF o t))
theorem renF_take {o t : List Int} {k : Nat} {x : Int} (hk : k < t.length) (hx : t.getD k 0 = x) : renF o (t.take (k + 1)) = renF o (t.take k) ++ [ren (extV (ordF o (t.take k)) x) x] := by
  unfold renF
  rw [ordF_take hk hx, take_snoc hk hx, List.map_append]
  congr 1
  refine List.map_congr_left fun n hn => ren_ext fun h0 => ?_
  exact fold_ext_mem.2 (.inl ⟨hn, h0⟩)
theorem Side.on {B : Nat} {r r' : Option Nat} {a b c : World} (h : Side B r a b) (hr : r' = r ∨ ∃ k, r' = some k ∧ a.heap.size ≤ k) (k : Side B r' b c) : Side B r a c :=
  ⟨k.os.trans h.os, k.tape.trans h.tape, k.output.trans h.output, Nat.le_trans h.size k.size, fun i hi hp hne => (k.block i (Nat.lt_of_lt_of_le hi h.size) hp (fun e => by
    rcases hr with e2 | ⟨q, e2, hq⟩
    · exact hne (by rw [e, e2])
    · rw [e2] at e; injection e with e; omega)).trans (h.block i hi hp hne)⟩
theorem Side.grow {B : Nat} {r q : Option Nat} {a b c : World} (h : Side B r a b) (hg : b.grownBy c q) (hq : ∀ k, q = some k → a.heap.size ≤ k) : Side B r a c :=
  ⟨hg.os.trans h.os, hg.tape.trans h.tape, hg.output.trans h.output, Nat.le_trans h.size hg.size, fun i hi hp hne => (hg.block i (Nat.lt_of_lt_of_le hi h.size) (fun e => by have := hq i e.symm; omega)).trans (h.block i hi hp hne)⟩
theorem Side.allocs {B : Nat} {r : Option Nat} {a b : World} (h : Side B r a b) (o : Obj) : Side B r a (b.alloc o) :=
  ⟨h.os, h.tape, h.output, by have := h.size; simp; omega, fun i hi hp hne => (Below.heap_alloc b o i (Nat.lt_of_lt_of_le hi h.size)).trans (h.block i hi hp hne)⟩

/-- the head of fill's loop -/
def HeadRG (w : World) (B m : Nat) (o t : List Int) (S0 : Option Addr) (out i : Value) (wr : World) : Prop :=
  ∃ (k : Nat) (O : Option Addr) (on oc : Nat) (S : Option Addr) (sn sc : Nat), k ≤ m ∧ i = .int .i64 k ∧ out = .slice O on oc ∧ Own wr w.heap.size (.slice O on oc) (renF o (t.take k)) ∧ Row wr B 24 #[.slice S sn sc] ∧
    Own wr (B + 1) (.slice S sn sc) ((ordF o (t.take k)).map vn) ∧ (blk S = blk S0 ∨ ∃ q, blk S = some q ∧ w.heap.size ≤ q) ∧ (blk O = none ∨ blk O ≠ blk S) ∧ Side B (blk S0) w wr
/-- what fill leaves -/
def AnsRG (w : World) (B : Nat) (o t : List Int) (S0 : Option Addr) (e : Ending) (w' : World) : Prop :=
  ∃ O on oc S sn sc, e = .returned (.slice O on oc) ∧ Own w' w.heap.size (.slice O on oc) (renF o t) ∧ Row w' B 24 #[.slice S sn sc] ∧ Own w' (B + 1) (.slice S sn sc) ((ordF o t).map vn) ∧ (blk O = none ∨ blk O ≠ blk S) ∧ Side B (blk S0) w w'

set_option maxHeartbeats 4000000 in
theorem fillRen (B : Nat) (A : Option Addr) (m c : Nat) (o t : List Int) (S0 : Option Addr) (n0 c0 : Nat) (w : World) (hr : Row w B 24 #[.slice S0 n0 c0]) (hS : Own w (B + 1) (.slice S0 n0 c0) (o.map vn)) (h : Seg w B A m t) (hm : m ≤ 60) (ho : o.length ≤ 60) (hv : ∀ x ∈ t, -24 ≤ x) :
    Calls Try.prog 64 #[.func (.func 100) #[] #[.pointer (some ⟨B, 0, none⟩)], .slice A m c] w (AnsRG w B o t S0) := by
  have HL := Lib.hid h.1
  have HV := Lib.hid hv
  have hBw := hr.lt
  have HG := Lib.hid (fun k hk => (blk_lt hS k hk).1)
  have S1 : HeadRG w B m o t S0 (.slice none 0 0) (.int .i64 0) w := ⟨0, none, 0, 0, S0, n0, c0, Nat.zero_le _, rfl, rfl, by simpa [renF] using Own.nil w w.heap.size, hr, by simpa [ordF] using hS, .inl rfl, .inl rfl, Side.of_below (Below.refl _ _)⟩
  have HS0 := Lib.hid S1
  clear S1 hv hr hS
  go_enter Try.func64, Try.ntmps64
  go_wp2
  go_loopw [5, 10] (fun out i wr => HeadRG w B m o t S0 out i wr) (fun _ i _ => m - (intOf i).toNat)
  case atStart => exact HS0.out
  case round =>
    obtain ⟨k, O, on, oc, S, sn, sc, hk, rfl, rfl, hO, hr, hs, hat0, hne, hsd⟩ := hrel
    clear HS0
    have hon : on ≤ 60 := by rw [Own.len hO]; unfold renF; simp; omega
    have hsn : sn ≤ 1000 := by have h1 := Own.len hs; have h2 := ordF_len o (t.take k); simp at h1 h2; omega
    have hBlt := hr.lt
    have hwz := hsd.size
    by_cases hlt : k < m
    · obtain ⟨b, off, x, rfl, hbb, hx, ex⟩ := h.spot hlt
      have hx1 : wr.cell? ⟨b, off + k, none⟩ = some (.int .i64 x) := by
        have hneS : some b ≠ blk S0 := fun e => by have := HG.out b e.symm; omega
        exact (World.cell?_of_block (hsd.block b (by omega) (by omega) hneS)).trans hx
      have hmem := mem_of_get (by rw [HL.out]; exact hlt) ex.out
      have hx24 : -24 ≤ x := HV.out x hmem
      have E := Lib.hid (renF_take (o := o) (t := t) (k := k) (by rw [HL.out]; exact hlt) ex.out)
      have EO := Lib.hid (ordF_take (o := o) (t := t) (k := k) (by rw [HL.out]; exact hlt) ex.out)
      clear hmem hx h ex
      by_cases hpos : 0 ≤ x
      · have R := Lib.hid (show ren (extV (ordF o (t.take k)) x) x = x by unfold ren; rw [if_neg (by omega)])
        have R2 := Lib.hid (show extV (ordF o (t.take k)) x = ordF o (t.take k) by unfold extV; rw [if_neg (by omega)])
        have ho1 := Own.alloc hO (.cells #[.int .i64 x] 2)
        have hs1 := Own.alloc hs (.cells #[.int .i64 x] 2)
        have hr1 := hr.alloc (.cells #[.int .i64 x] 2)
        go_wp2_with (at_builtin; refine appAllAt rfl _ _ rfl w.heap.size O on oc (renF o (t.take k)) rfl ho1 (some ⟨wr.heap.size, 0, none⟩) 1 1 (wr.heap.size + 1) [x] rfl (by simpa using one_seg wr x) (by omega) (by omega) (by omega) (by simp; omega) ?_; intro O' oc' w2 ho2 hg hat)
        have S1 : HeadRG w B m o t S0 (.slice O' (on + 1) oc') (.int .i64 ((k : Int) + 1)) w2 := by
          refine ⟨k + 1, O', on + 1, oc', S, sn, sc, hlt, by simp, rfl, by rw [E.out, R.out]; exact ho2, Row.away hr1 hg (own_ne ho1 hr1), by rw [EO.out, R2.out]; exact Own.kept hs1 hg (ne_flip hne), hat0, ?_, ?_⟩
          · rcases hat with h | h
            · rw [h]; exact hne
            · exact ne_new hs1 _ (Nat.le_refl _) h
          · exact (hsd.allocs _).grow hg (fun q hq => (blk_lt hO q hq).1)
        have S := Lib.hid S1
        clear S1 ho2 hg hat ho1 hs1 hr1 hO hs hr hne hsd R R2 E EO hat0
        go_wp2
        go_roundw
        case rel => exact S.out
        case measure => simp [intOf]; omega
      · have hneg : x < 0 := by omega
        have R := Lib.hid (show ren (extV (ordF o (t.take k)) x) x = -1 - (idx (ext (ordF o (t.take k)) x) x : Int) by unfold ren extV; rw [if_pos hneg, if_pos hneg])
        have R2 := Lib.hid (show extV (ordF o (t.take k)) x = ext (ordF o (t.take k)) x by unfold extV; rw [if_pos hneg])
        have L := Lib.hid (ren1 B S sn sc _ x wr hr hs hx24 hneg hsn)
        go_wp2_with (first
          | (go_at_call 100; refine L.out.mono ?_; rintro e w1 ⟨A1, c1, S1, sn1, sc1, rfl, s1, hc1, r1, os1, hat1, sd⟩; have ho1 := Own.side hO sd hr hne; have hz1 := sd.size; have hne1 : blk O = none ∨ blk O ≠ blk S1 := (by rcases hat1 with h | ⟨q, h, hq⟩; (rw [h]; exact hne); (rw [h]; exact (by cases e : blk O with | none => exact .inl rfl | some z => exact .inr (fun e2 => by injection e2 with e2; have := (blk_lt hO z e).2; omega)))))
          | (at_builtin; refine appAllAt rfl _ _ rfl w.heap.size O on oc (renF o (t.take k)) rfl ho1 A1 1 c1 w1.heap.size _ rfl s1 (by omega) (by omega) (by omega) (by omega) ?_; intro O' oc' w2 ho2 hg hat))
        have SS : HeadRG w B m o t S0 (.slice O' (on + 1) oc') (.int .i64 ((k : Int) + 1)) w2 := by
          refine ⟨k + 1, O', on + 1, oc', S1, sn1, sc1, hlt, by simp, rfl, by rw [E.out, R.out]; exact ho2, Row.away r1 hg (own_ne ho1 r1), by rw [EO.out, R2.out]; exact Own.kept os1 hg (ne_flip hne1), ?_, ?_, ?_⟩
          · rcases hat1 with h | ⟨q, h, hq⟩
            · rw [h]; exact hat0
            · exact .inr ⟨q, h, by omega⟩
          · rcases hat with h | h
            · rw [h]; exact hne1
            · exact ne_new os1 _ (Nat.le_refl _) h
          · exact (hsd.on hat0 sd).grow hg (fun q hq => (blk_lt ho1 q hq).1)
        have HSS := Lib.hid SS
        clear SS ho2 hg hat ho1 s1 r1 os1 hat1 sd hne1 hO hs hr hne hsd R R2 E EO L hat0
        go_wp2
        go_roundw
        case rel => exact HSS.out
        case measure => simp [intOf]; omega
    · rw [List.take_of_length_le (by rw [HL.out]; omega)] at hO hs
      have F : AnsRG w B o t S0 (.returned (.slice O on oc)) wr := ⟨O, on, oc, S, sn, sc, rfl, hO, hr, hs, hne, hsd⟩
      have HF := Lib.hid F
      clear F hO hs hr hne hsd h
      go_wp2
      go_ret
      exact HF.out

/-- the closure is made: its box, with nothing seen -/
theorem renaming_ (w : World) : Calls Try.prog 63 #[] w fun e w' => e = .returned (.func (.func 100) #[] #[.pointer (some ⟨w.heap.size, 0, none⟩)]) ∧ w' = w.alloc (.cells #[.slice none 0 0] 24) := by
  have hmf : ∀ (fn : Fn) (first cap : Array Value) (w : World), (Instr.makeFunc fn first cap).run Try.prog w = .ok (.func fn first cap) w := fun _ _ _ _ => rfl
  go_enter Try.func63, Try.ntmps63
  go_wp2
  go_ret
  exact ⟨rfl, rfl⟩

end Go.Proofs.Ytdkjafjphgcbjaa.renImpl
end

section
/-
  CONTRACTS: impl.RenamedRule. Conditions: the arguments read as data ('Rd'), at most 1048576 numbers. By an AI agent.
-/
namespace Go.Proofs.Ytdkjafjphgcbjaa.ruleImpl
open Go.RowKit Go.Proofs.Ytdkjafjphgcbjaa.base Go.Proofs.Ytdkjafjphgcbjaa.ints Go.Proofs.Ytdkjafjphgcbjaa.sig Go.Proofs.Ytdkjafjphgcbjaa.term Go.Proofs.Ytdkjafjphgcbjaa.termOk Go.Proofs.Ytdkjafjphgcbjaa.marks Go.Proofs.Ytdkjafjphgcbjaa.app Go.Proofs.Ytdkjafjphgcbjaa.sym Go.Proofs.Ytdkjafjphgcbjaa.segs Go.Proofs.Ytdkjafjphgcbjaa.termFacts Go.Proofs.Ytdkjafjphgcbjaa.varsMath Go.Proofs.Ytdkjafjphgcbjaa.varsOf Go.Proofs.Ytdkjafjphgcbjaa.rename Go.Proofs.Ytdkjafjphgcbjaa.renMath Go.Proofs.Ytdkjafjphgcbjaa.renImpl Go.Proofs.Ytdkjafjphgcbjaa.same Go.Proofs.Ytdkjafjphgcbjaa.count Go.Proofs.Ytdkjafjphgcbjaa.linear Go.Proofs.Ytdkjafjphgcbjaa.shape Go.Proofs.Ytdkjafjphgcbjaa.kindsR Go.Proofs.Ytdkjafjphgcbjaa.ruleMath Go.Proofs.Ytdkjafjphgcbjaa.ruleSpec Go.Proofs.Ytdkjafjphgcbjaa.anyR
set_option maxRecDepth 100000

theorem renF_rule {d : Rl} (h : ∀ x, x ∈ d.2 → x < 0 → x ∈ d.1) : (renF [] d.1, renF (ordF [] d.1) d.2) = renR d := by
  unfold renR renF byL renL
  rw [ordF_same (o := ordF [] d.1) (fun x hx h0 => order_mem.2 ⟨h x hx h0, h0⟩)]
  rfl

set_option maxHeartbeats 8000000 in
theorem implRenamedRule (a l r : Value) (sg : List Int) (d : Dat sRule) (w : World) (h : Rd w w.heap.size sI [a] sg) (h' : Rd w w.heap.size sRule [l, r] d) (hz : sz sI sg ≤ 1048576) (hz' : sz sRule d ≤ 1048576) :
    Calls Try.prog 24 #[.agg #[a], .agg #[l, r]] w (AnsRule w (renRI sg d)) := by
  have S1 := fun (w1 : World) (bb : Below w.heap.size w w1) => implRuleOk a l r sg d w1 (h.next bb) (h'.next bb) hz hz'
  obtain ⟨A1, n1, c1, A2, n2, c2, rfl, rfl, s1, k1, s2, k2, hn1, hn2⟩ := rd_rule h' hz'
  obtain ⟨W, hW⟩ : ∃ W, W = ((w.alloc (.cells #[a] 26)).alloc (.cells #[.slice A1 n1 c1, .slice A2 n2 c2] 35)).alloc (.cells #[.slice none 0 0, .slice none 0 0] 35) := ⟨_, rfl⟩
  have zW : W.heap.size = w.heap.size + 1 + 1 + 1 := by rw [hW]; simp
  have rB : Row W (w.heap.size + 1) 35 #[.slice A1 n1 c1, .slice A2 n2 c2] := by rw [hW]; have := (Row.new (w.alloc (.cells #[a] 26)) 35 #[.slice A1 n1 c1, .slice A2 n2 c2]).alloc (.cells #[.slice none 0 0, .slice none 0 0] 35); simpa using this
  have rR : Row W (w.heap.size + 1 + 1) 35 #[.slice none 0 0, .slice none 0 0] := by rw [hW]; have := Row.new ((w.alloc (.cells #[a] 26)).alloc (.cells #[.slice A1 n1 c1, .slice A2 n2 c2] 35)) 35 #[.slice none 0 0, .slice none 0 0]; simpa using this
  have bel : Below w.heap.size w W := by rw [hW]; exact (((Below.refl _ _).alloc (Nat.le_refl _) _).alloc (by simp) _).alloc (by simp; omega) _
  have HW := Lib.hid hW
  have L1 := Lib.hid (S1 W bel)
  have HS1 := Lib.hid s1
  have HS2 := Lib.hid s2
  clear hW h h' hz hz' k1 k2 S1 s1 s2
  cases ok : ruleOkB sg d with
  | false =>
    have HS := Lib.hid ok
    clear ok
    go_enter Try.func24, Try.ntmps24
    go_wp2_with fail
    rw [← HW.out]
    refine L1.out.mono ?_
    rintro e w1 ⟨he, bb⟩
    rw [HS.out] at he
    subst he
    replace rR := rR.next bb
    replace bel := next_trans bel bb
    have y0 : w1.cell? ⟨w.heap.size + 1 + 1, 0, none⟩ = some (.slice none 0 0) := rR.cell 0
    have y1 : w1.cell? ⟨w.heap.size + 1 + 1, 1, none⟩ = some (.slice none 0 0) := rR.cell 1
    have f0 := rR.free 0
    have f1 := rR.free 1
    have r1 := rR.put 0 (.slice none 0 0)
    have y2 : (w1.setCell ⟨w.heap.size + 1 + 1, 0, none⟩ (.slice none 0 0)).cell? ⟨w.heap.size + 1 + 1, 1, none⟩ = some (.slice none 0 0) := r1.cell 1
    have f2 := r1.free 1
    have r2 := r1.put 1 (.slice none 0 0)
    have u0 : ((w1.setCell ⟨w.heap.size + 1 + 1, 0, none⟩ (.slice none 0 0)).setCell ⟨w.heap.size + 1 + 1, 1, none⟩ (.slice none 0 0)).cell? ⟨w.heap.size + 1 + 1, 0, none⟩ = some (.slice none 0 0) := r2.cell 0
    have u1 : ((w1.setCell ⟨w.heap.size + 1 + 1, 0, none⟩ (.slice none 0 0)).setCell ⟨w.heap.size + 1 + 1, 1, none⟩ (.slice none 0 0)).cell? ⟨w.heap.size + 1 + 1, 1, none⟩ = some (.slice none 0 0) := r2.cell 1
    have F : AnsRule w (renRI sg d) (.returned (.agg #[.slice none 0 0, .slice none 0 0])) ((w1.setCell ⟨w.heap.size + 1 + 1, 0, none⟩ (.slice none 0 0)).setCell ⟨w.heap.size + 1 + 1, 1, none⟩ (.slice none 0 0)) :=
      ⟨_, _, _, _, _, _, rfl, by unfold renRI; rw [if_neg (by rw [HS.out]; simp)]; exact rule_zero _ _ _, (bel.setCell (by simp; omega) _).setCell (by simp; omega) _⟩
    have HF := Lib.hid F
    clear F bel rB rR bb r1 r2
    go_wp2
    exact bodyPost_ret (v := .agg #[.slice none 0 0, .slice none 0 0]) (by simp [results, Try.results24, go_sem, u0, u1]) rfl HF.out
  | true =>
    have HS := Lib.hid ok
    have HP := Lib.hid (rule_parts ok)
    clear ok
    go_enter Try.func24, Try.ntmps24
    go_wp2_with fail
    rw [← HW.out]
    refine L1.out.mono ?_
    rintro e w1 ⟨he, bb⟩
    rw [HS.out] at he
    subst he
    have zb := bb.size
    replace rB := rB.next bb
    replace rR := rR.next bb
    replace bel := next_trans bel bb
    have LR := Lib.hid (renaming_ w1)
    clear bb L1
    go_wp2_with fail
    refine LR.out.mono ?_
    rintro e w2 ⟨rfl, hw2⟩
    have rN : Row w2 w1.heap.size 24 #[.slice none 0 0] := by rw [hw2]; exact Row.new _ _ _
    have bN : Below w1.heap.size w1 w2 := by rw [hw2]; exact (Below.refl _ _).alloc (Nat.le_refl _) _
    have z2 : w2.heap.size = w1.heap.size + 1 := by rw [hw2]; simp
    replace rB := rB.next bN
    replace rR := rR.next bN
    replace bel := next_trans bel bN
    have m1 : n1 ≤ 60 := by rw [← HS1.out.1]; exact (term_len HP.out.1).2
    have m2 : n2 ≤ 60 := by rw [← HS2.out.1]; exact (term_len HP.out.2.1).2
    have LF1 := Lib.hid (fillRen w1.heap.size A1 n1 c1 [] d.1 none 0 0 w2 rN (by simpa using Own.nil _ _) ((HS1.out.below bel).more (by omega)) m1 (by simp) (fun x hx => (term_mem HP.out.1 hx).1))
    have b0 : w2.cell? ⟨w.heap.size + 1, 0, none⟩ = some (.slice A1 n1 c1) := rB.cell 0
    clear LR hw2 rN bN
    go_wp2_with fail
    refine LF1.out.mono ?_
    rintro e w3 ⟨X, xn, xc, S, sn, sc, rfl, oX, rS, oS, hne, sd⟩
    have bd := sd.below (fun k hk => by cases hk) (by omega)
    have z3 := bd.size
    replace rB := rB.below bd (by omega)
    replace rR := rR.below bd (by omega)
    replace bel := bel.trans (bd.mono (by omega))
    have ho60 : (ordF [] d.1).length ≤ 60 := by have := ordF_len [] d.1; have := (term_len HP.out.1).2; simp at *; omega
    have LF2 := Lib.hid (fillRen w1.heap.size A2 n2 c2 (ordF [] d.1) d.2 S sn sc w3 rS oS ((HS2.out.below bel).more (by omega)) m2 ho60 (fun x hx => (term_mem HP.out.2.1 hx).1))
    have hX : ∀ k, blk X = some k → k < w3.heap.size := fun k hk => (World.ownsRow.lt oX k (by rw [Go.Proofs.Ytdkjafjphgcbjaa.appAt.blk_own]; exact hk)).2
    have hSg : ∀ k, blk S = some k → w1.heap.size ≤ k := fun k hk => by have := (blk_lt oS k hk).1; omega
    have c1' : w3.cell? ⟨w.heap.size + 1, 1, none⟩ = some (.slice A2 n2 c2) := rB.cell 1
    clear LF1 b0 bd sd oS
    go_wp2_with fail
    refine LF2.out.mono ?_
    rintro e w4 ⟨Y, yn, yc, S', sn', sc', rfl, oY, -, -, -, sd⟩
    have bd := sd.below hSg (by omega)
    have z4 := bd.size
    have oX4 := Own.side oX sd rS hne
    replace rR := rR.below bd (by omega)
    replace bel := bel.trans (bd.mono (by omega))
    have oo : Owned w4 (w.heap.size + 1 + 1 + 1) w4.heap.size sRule [.slice X xn xc, .slice Y yn yc] (renRI sg d) := by
      unfold renRI; rw [if_pos HS.out, ← renF_rule HP.out.2.2.2]
      exact (rule_own (lo := w2.heap.size) (mid := w3.heap.size) (mid' := w3.heap.size) oX4 hX oY (Nat.le_refl _) (by omega) (Nat.le_refl _) (by omega)).wider (by omega) (Nat.le_refl _)
    have y0 : w4.cell? ⟨w.heap.size + 1 + 1, 0, none⟩ = some (.slice none 0 0) := rR.cell 0
    have f0 := rR.free 0
    have r1 := rR.put 0 (.slice X xn xc)
    have y2 : (w4.setCell ⟨w.heap.size + 1 + 1, 0, none⟩ (.slice X xn xc)).cell? ⟨w.heap.size + 1 + 1, 1, none⟩ = some (.slice none 0 0) := r1.cell 1
    have f2 := r1.free 1
    have r2 := r1.put 1 (.slice Y yn yc)
    have u0 : ((w4.setCell ⟨w.heap.size + 1 + 1, 0, none⟩ (.slice X xn xc)).setCell ⟨w.heap.size + 1 + 1, 1, none⟩ (.slice Y yn yc)).cell? ⟨w.heap.size + 1 + 1, 0, none⟩ = some (.slice X xn xc) := r2.cell 0
    have u1 : ((w4.setCell ⟨w.heap.size + 1 + 1, 0, none⟩ (.slice X xn xc)).setCell ⟨w.heap.size + 1 + 1, 1, none⟩ (.slice Y yn yc)).cell? ⟨w.heap.size + 1 + 1, 1, none⟩ = some (.slice Y yn yc) := r2.cell 1
    have F : AnsRule w (renRI sg d) (.returned (.agg #[.slice X xn xc, .slice Y yn yc])) ((w4.setCell ⟨w.heap.size + 1 + 1, 0, none⟩ (.slice X xn xc)).setCell ⟨w.heap.size + 1 + 1, 1, none⟩ (.slice Y yn yc)) :=
      ⟨_, _, _, _, _, _, rfl, ((oo.put (g := w.heap.size + 1 + 1) (i := 0) (u := .slice X xn xc) (by omega)).put (g := w.heap.size + 1 + 1) (i := 1) (u := .slice Y yn yc) (by omega)).wider (by omega) (by simp), (bel.setCell (by simp; omega) _).setCell (by simp; omega) _⟩
    have HF := Lib.hid F
    clear F oo r1 r2 rR rB rS bel bd sd oX oX4 oY c1' LF2 hne
    go_wp2
    exact bodyPost_ret (v := .agg #[.slice X xn xc, .slice Y yn yc]) (by simp [results, Try.results24, go_sem, u0, u1]) rfl HF.out
end Go.Proofs.Ytdkjafjphgcbjaa.ruleImpl
end
