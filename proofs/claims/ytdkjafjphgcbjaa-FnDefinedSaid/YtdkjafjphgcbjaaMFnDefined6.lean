/-
  MERGED: my texts RuleSpecD, LawY, LawT, RenPure, RenFacts, RenImpl, Variant, RenRule, AnyR, RuleImpl, RuleImplB, RuleImplC, RuleImplD, RuleImplE, RuleImplF, one behind the other, as they are. By an AI agent.
-/
import Derived.Test.YtdkjafjphgcbjaaMFnDefined5
import Derived.Deep.QuietTactic
import Derived.BigQuiet
import Derived.Deep.RegionHeld3
import Derived.Shelf.Abstract
section
/-
  CONTRACTS: spec.RenamedRule. Conditions: the arguments read as data ('Rd'), at most 1048576 numbers. By an AI agent.
-/
namespace Go.Proofs.Ytdkjafjphgcbjaa.ruleSpec
open Go.RowKit Go.Proofs.Ytdkjafjphgcbjaa.base Go.Proofs.Ytdkjafjphgcbjaa.ints Go.Proofs.Ytdkjafjphgcbjaa.sig Go.Proofs.Ytdkjafjphgcbjaa.term Go.Proofs.Ytdkjafjphgcbjaa.termOk Go.Proofs.Ytdkjafjphgcbjaa.marks Go.Proofs.Ytdkjafjphgcbjaa.app Go.Proofs.Ytdkjafjphgcbjaa.sym Go.Proofs.Ytdkjafjphgcbjaa.segs Go.Proofs.Ytdkjafjphgcbjaa.termFacts Go.Proofs.Ytdkjafjphgcbjaa.varsMath Go.Proofs.Ytdkjafjphgcbjaa.varsOf Go.Proofs.Ytdkjafjphgcbjaa.rename Go.Proofs.Ytdkjafjphgcbjaa.renMath Go.Proofs.Ytdkjafjphgcbjaa.same Go.Proofs.Ytdkjafjphgcbjaa.count Go.Proofs.Ytdkjafjphgcbjaa.linear Go.Proofs.Ytdkjafjphgcbjaa.shape Go.Proofs.Ytdkjafjphgcbjaa.kindsR Go.Proofs.Ytdkjafjphgcbjaa.ruleMath Go.Proofs.Ytdkjafjphgcbjaa.kinds
set_option maxRecDepth 100000

/-- a rule of the call's own -/
def AnsRule (w : World) (d : Rl) (e : Ending) (w' : World) : Prop := ∃ A n c A' n' c', e = .returned (.agg #[.slice A n c, .slice A' n' c']) ∧ Owned w' w.heap.size w'.heap.size sRule [.slice A n c, .slice A' n' c'] d ∧ Below w.heap.size w w'
theorem rule_zero (w : World) (lo hi : Nat) : Owned w lo hi sRule [.slice none 0 0, .slice none 0 0] ([], []) :=
  ⟨[], ⟨[.slice none 0 0], [.slice none 0 0], [], [], rfl, rfl, ⟨none, 0, 0, rfl, rfl, .inl ⟨rfl, rfl, rfl, rfl⟩⟩, ⟨none, 0, 0, rfl, rfl, .inl ⟨rfl, rfl, rfl, rfl⟩⟩⟩, List.nodup_nil, fun k hk => by cases hk⟩
/-- two lists of the call's own make a rule of its own -/
theorem rule_own {w : World} {lo mid mid' hi : Nat} {A A' : Option Addr} {n c n' c' : Nat} {x y : List Int} (h : Own w lo (.slice A n c) x) (hmid : ∀ k, blk A = some k → k < mid) (h' : Own w mid' (.slice A' n' c') y) (hm : mid ≤ mid') (hl : lo ≤ mid') (hw : w.heap.size ≤ hi) (hmh : mid ≤ hi) : Owned w lo hi sRule [.slice A n c, .slice A' n' c'] (x, y) :=
  Owned.cat (ow_ints.2 ⟨h, hmid⟩) (ow_ints.2 ⟨h', fun k hk => Nat.lt_of_lt_of_le (World.ownsRow.lt h' k (by rw [Go.Proofs.Ytdkjafjphgcbjaa.appAt.blk_own]; exact hk)).2 hw⟩) hm hl hmh

set_option maxHeartbeats 8000000 in
theorem specRenamedRule (a l r : Value) (sg : List Int) (d : Dat sRule) (w : World) (h : Rd w w.heap.size sI [a] sg) (h' : Rd w w.heap.size sRule [l, r] d) (hz : sz sI sg ≤ 1048576) (hz' : sz sRule d ≤ 1048576) :
    Calls Try.prog 52 #[.agg #[a], .agg #[l, r]] w (AnsRule w (renRI sg d)) := by
  have S1 := fun (w1 : World) (bb : Below w.heap.size w w1) => specRuleOk a l r sg d w1 (h.next bb) (h'.next bb) hz hz'
  obtain ⟨A1, n1, c1, A2, n2, c2, rfl, rfl, s1, k1, s2, k2, hn1, hn2⟩ := rd_rule h' hz'
  obtain ⟨W, hW⟩ : ∃ W, W = ((w.alloc (.cells #[a] 26)).alloc (.cells #[.slice A1 n1 c1, .slice A2 n2 c2] 35)).alloc (.cells #[.slice none 0 0, .slice none 0 0] 35) := ⟨_, rfl⟩
  have zW : W.heap.size = w.heap.size + 1 + 1 + 1 := by rw [hW]; simp
  have rA : Row W w.heap.size 26 #[a] := by rw [hW]; have := ((Row.new w 26 #[a]).alloc (.cells #[.slice A1 n1 c1, .slice A2 n2 c2] 35)).alloc (.cells #[.slice none 0 0, .slice none 0 0] 35); simpa using this
  have rB : Row W (w.heap.size + 1) 35 #[.slice A1 n1 c1, .slice A2 n2 c2] := by rw [hW]; have := (Row.new (w.alloc (.cells #[a] 26)) 35 #[.slice A1 n1 c1, .slice A2 n2 c2]).alloc (.cells #[.slice none 0 0, .slice none 0 0] 35); simpa using this
  have rR : Row W (w.heap.size + 1 + 1) 35 #[.slice none 0 0, .slice none 0 0] := by rw [hW]; have := Row.new ((w.alloc (.cells #[a] 26)).alloc (.cells #[.slice A1 n1 c1, .slice A2 n2 c2] 35)) 35 #[.slice none 0 0, .slice none 0 0]; simpa using this
  have bel : Below w.heap.size w W := by rw [hW]; exact (((Below.refl _ _).alloc (Nat.le_refl _) _).alloc (by simp) _).alloc (by simp; omega) _
  have HW := Lib.hid hW
  have HL1 := Lib.hid s1.1
  have L1 := Lib.hid (S1 W bel)
  have LO := Lib.hid (fun (w1 : World) (bb : Below w.heap.size w w1) => l2Order A1 n1 c1 d.1 w1 (s1.next bb) hn1)
  have LB1 := Lib.hid (fun (w1 : World) (bb : Below w.heap.size w w1) (P : Option Addr) (pn pc : Nat) (hp : Seg w1 w1.heap.size P pn (orderL d.1)) (hpn : pn ≤ 1048576) => l2By P A1 pn pc n1 c1 (orderL d.1) d.1 w1 hp (s1.next bb) hpn hn1 (order_nodup _) (fun x hx h0 => order_mem.2 ⟨hx, h0⟩))
  have LB2 := Lib.hid (fun (w1 : World) (bb : Below w.heap.size w w1) (P : Option Addr) (pn pc : Nat) (hp : Seg w1 w1.heap.size P pn (orderL d.1)) (hpn : pn ≤ 1048576) (hr : ∀ x, x ∈ d.2 → x < 0 → x ∈ d.1) => l2By P A2 pn pc n2 c2 (orderL d.1) d.2 w1 hp (s2.next bb) hpn hn2 (order_nodup _) (fun x hx h0 => order_mem.2 ⟨hr x hx h0, h0⟩))
  clear hW h h' hz hz' k1 k2 S1 s1 s2
  cases ok : ruleOkB sg d with
  | false =>
    have HS := Lib.hid ok
    clear ok
    go_enter Try.func52, Try.ntmps52
    go_wp2_with fail
    rw [← HW.out]
    refine L1.out.mono ?_
    rintro e w1 ⟨he, bb⟩
    rw [HS.out] at he
    subst he
    have hlt := rA.lt
    replace rR := rR.next bb
    replace bel := next_trans bel bb
    have y0 : w1.cell? ⟨w.heap.size + 1 + 1, 0, none⟩ = some (.slice none 0 0) := rR.cell 0
    have y1 : w1.cell? ⟨w.heap.size + 1 + 1, 1, none⟩ = some (.slice none 0 0) := rR.cell 1
    have f0 := rR.free 0
    have f1 := rR.free 1
    have r1 := rR.put 0 (.slice none 0 0)
    have y2 : (w1.setCell ⟨w.heap.size + 1 + 1, 0, none⟩ (.slice none 0 0)).cell? ⟨w.heap.size + 1 + 1, 1, none⟩ = some (.slice none 0 0) := r1.cell 1
    have f2 := r1.free 1
    have r2 := r1.put 1 (.slice none 0 0)
    have u0 : ((w1.setCell ⟨w.heap.size + 1 + 1, 0, none⟩ (.slice none 0 0)).setCell ⟨w.heap.size + 1 + 1, 1, none⟩ (.slice none 0 0)).cell? ⟨w.heap.size + 1 + 1, 0, none⟩ = some (.slice none 0 0) := r2.cell 0
    have u1 : ((w1.setCell ⟨w.heap.size + 1 + 1, 0, none⟩ (.slice none 0 0)).setCell ⟨w.heap.size + 1 + 1, 1, none⟩ (.slice none 0 0)).cell? ⟨w.heap.size + 1 + 1, 1, none⟩ = some (.slice none 0 0) := r2.cell 1
    have F : AnsRule w (renRI sg d) (.returned (.agg #[.slice none 0 0, .slice none 0 0])) ((w1.setCell ⟨w.heap.size + 1 + 1, 0, none⟩ (.slice none 0 0)).setCell ⟨w.heap.size + 1 + 1, 1, none⟩ (.slice none 0 0)) :=
      ⟨_, _, _, _, _, _, rfl, by unfold renRI; rw [if_neg (by rw [HS.out]; simp)]; exact rule_zero _ _ _, (bel.setCell (by simp; omega) _).setCell (by simp; omega) _⟩
    have HF := Lib.hid F
    clear F bel rA rB rR bb r1 r2
    go_wp2
    exact bodyPost_ret (v := .agg #[.slice none 0 0, .slice none 0 0]) (by simp [results, Try.results52, go_sem, u0, u1]) rfl HF.out
  | true =>
    have HS := Lib.hid ok
    have HV := Lib.hid (rule_parts ok).2.2.2
    clear ok
    go_enter Try.func52, Try.ntmps52
    go_wp2_with fail
    rw [← HW.out]
    refine L1.out.mono ?_
    rintro e w1 ⟨he, bb⟩
    rw [HS.out] at he
    subst he
    have zb := bb.size
    replace rB := rB.next bb
    replace rR := rR.next bb
    replace bel := next_trans bel bb
    have b0 : w1.cell? ⟨w.heap.size + 1, 0, none⟩ = some (.slice A1 n1 c1) := rB.cell 0
    clear bb L1 rA
    go_wp2_with fail
    refine (LO.out w1 bel).mono ?_
    rintro e w2 ⟨P, pn, pc, rfl, oP, bb⟩
    have zb2 := bb.size
    replace rB := rB.next bb
    replace rR := rR.next bb
    replace bel := next_trans bel bb
    have hpn : pn ≤ 1048576 := by rw [Own.len oP]; have := order_len d.1; have := HL1.out; omega
    replace rB := rB.drew
    replace rR := rR.drew
    replace bel := bel.drew
    have sP := (Own.seg oP).drew
    have zd : w2.drew.heap.size = w2.heap.size := rfl
    have c0 : w2.drew.cell? ⟨w.heap.size + 1, 0, none⟩ = some (.slice A1 n1 c1) := rB.cell 0
    have c1' : w2.drew.cell? ⟨w.heap.size + 1, 1, none⟩ = some (.slice A2 n2 c2) := rB.cell 1
    have hne : ¬ w.heap.size + 1 = w.heap.size + 1 + 1 := by omega
    clear bb LO b0 oP
    go_wp2_with fail
    go_region_held3 (fun w' => w'.cell? ⟨w.heap.size + 1, 0, none⟩ = some (.slice A1 n1 c1) ∧ w'.cell? ⟨w.heap.size + 1, 1, none⟩ = some (.slice A2 n2 c2))
      (go_keep)
      (first
        | (go_at_call_of 90 (Value.slice A1 n1 c1); refine (LB1.out w2.drew bel P pn pc sP hpn).mono ?_; rintro e w3 ⟨X, xn, xc, rfl, oX, bb⟩; replace sP := sP.next bb; have zb3 := bb.size; have d0 : w3.cell? ⟨w.heap.size + 1, 0, none⟩ = some (.slice A1 n1 c1) := (rB.next bb).cell 0; have d1 : w3.cell? ⟨w.heap.size + 1, 1, none⟩ = some (.slice A2 n2 c2) := (rB.next bb).cell 1; have rB3 := rB.next bb; have rR3 := rR.next bb; have bel3 := next_trans bel bb; clear bb)
        | (go_at_call_of 90 (Value.slice A2 n2 c2); refine (LB2.out w3 bel3 P pn pc sP hpn HV.out).mono ?_; rintro e w4 ⟨Y, yn, yc, rfl, oY, bb⟩; have oX4 := oX.next bb; have zb4 := bb.size; have d2 : w4.cell? ⟨w.heap.size + 1, 0, none⟩ = some (.slice A1 n1 c1) := (rB3.next bb).cell 0; have d3 : w4.cell? ⟨w.heap.size + 1, 1, none⟩ = some (.slice A2 n2 c2) := (rB3.next bb).cell 1; have rR4 := rR3.next bb; have bel4 := next_trans bel3 bb; have y0 : w4.cell? ⟨w.heap.size + 1 + 1, 0, none⟩ = some (.slice none 0 0) := rR4.cell 0; have y1 : w4.cell? ⟨w.heap.size + 1 + 1, 1, none⟩ = some (.slice none 0 0) := rR4.cell 1; have f0 := rR4.free 0; have f1 := rR4.free 1; have y2 : (w4.setCell ⟨w.heap.size + 1 + 1, 0, none⟩ (.slice X xn xc)).cell? ⟨w.heap.size + 1 + 1, 1, none⟩ = some (.slice none 0 0) := (rR4.put 0 (.slice X xn xc)).cell 1; have f2 := (rR4.put 0 (.slice X xn xc)).free 1; clear bb))
    have hX : ∀ k, blk X = some k → k < w3.heap.size := fun k hk => (World.ownsRow.lt oX k (by rw [Go.Proofs.Ytdkjafjphgcbjaa.appAt.blk_own]; exact hk)).2
    have oo : Owned w4 (w.heap.size + 1 + 1 + 1) w4.heap.size sRule [.slice X xn xc, .slice Y yn yc] (renRI sg d) := by
      unfold renRI renR byL renL; rw [if_pos HS.out]
      exact (rule_own (lo := w2.drew.heap.size) (mid := w3.heap.size) (mid' := w3.heap.size) oX4 hX oY (Nat.le_refl _) (by omega) (Nat.le_refl _) (by omega)).wider (by omega) (Nat.le_refl _)
    have r1 := rR4.put 0 (.slice X xn xc)
    have r2 := r1.put 1 (.slice Y yn yc)
    have u0 : ((w4.setCell ⟨w.heap.size + 1 + 1, 0, none⟩ (.slice X xn xc)).setCell ⟨w.heap.size + 1 + 1, 1, none⟩ (.slice Y yn yc)).cell? ⟨w.heap.size + 1 + 1, 0, none⟩ = some (.slice X xn xc) := r2.cell 0
    have u1 : ((w4.setCell ⟨w.heap.size + 1 + 1, 0, none⟩ (.slice X xn xc)).setCell ⟨w.heap.size + 1 + 1, 1, none⟩ (.slice Y yn yc)).cell? ⟨w.heap.size + 1 + 1, 1, none⟩ = some (.slice Y yn yc) := r2.cell 1
    have F : AnsRule w (renRI sg d) (.returned (.agg #[.slice X xn xc, .slice Y yn yc])) ((w4.setCell ⟨w.heap.size + 1 + 1, 0, none⟩ (.slice X xn xc)).setCell ⟨w.heap.size + 1 + 1, 1, none⟩ (.slice Y yn yc)) :=
      ⟨_, _, _, _, _, _, rfl, ((oo.put (g := w.heap.size + 1 + 1) (i := 0) (u := .slice X xn xc) (by omega)).put (g := w.heap.size + 1 + 1) (i := 1) (u := .slice Y yn yc) (by omega)).wider (by omega) (by simp), (bel4.setCell (by simp; omega) _).setCell (by simp; omega) _⟩
    have HF := Lib.hid F
    clear F oo r1 r2 rR4 rR3 rB3 rB rR bel4 bel3 bel oX oX4 oY sP
    go_wp2
    exact bodyPost_ret (v := .agg #[.slice X xn xc, .slice Y yn yc]) (by simp [results, Try.results52, go_sem, u0, u1]) rfl HF.out
end Go.Proofs.Ytdkjafjphgcbjaa.ruleSpec
end

section
/-
  WORDS of the laws' walks over a drawn system ('Ts'); the facts of FnForms and FnDefined. Conditions: none; plain lemmas. By an AI agent.
-/
namespace Go.Proofs.Ytdkjafjphgcbjaa.lawY
open Go.RowKit Go.Proofs.Ytdkjafjphgcbjaa.base Go.Proofs.Ytdkjafjphgcbjaa.ints Go.Proofs.Ytdkjafjphgcbjaa.sig Go.Proofs.Ytdkjafjphgcbjaa.term Go.Proofs.Ytdkjafjphgcbjaa.termOk Go.Proofs.Ytdkjafjphgcbjaa.segs Go.Proofs.Ytdkjafjphgcbjaa.termFacts Go.Proofs.Ytdkjafjphgcbjaa.varsMath Go.Proofs.Ytdkjafjphgcbjaa.renMath Go.Proofs.Ytdkjafjphgcbjaa.linear Go.Proofs.Ytdkjafjphgcbjaa.shape Go.Proofs.Ytdkjafjphgcbjaa.kindsR Go.Proofs.Ytdkjafjphgcbjaa.ruleMath Go.Proofs.Ytdkjafjphgcbjaa.ruleSpec
set_option maxRecDepth 100000

/-- a system in its variable, at o -/
structure Ts (w : World) (o : Nat) (S : Option Addr) (sn sc : Nat) (R : Option Addr) (rn rc : Nat) (d : Dat sSystem) (wr : World) : Prop where
  s : Rd wr wr.heap.size sSystem [.slice S sn sc, .slice R rn rc] d
  r : Row wr o 29 #[.slice S sn sc, .slice R rn rc]
  bel : Below w.heap.size w wr
section
variable {w : World} {o : Nat} {S : Option Addr} {sn sc : Nat} {R : Option Addr} {rn rc : Nat} {d : Dat sSystem} {wr w' : World}
theorem Ts.next (t : Ts w o S sn sc R rn rc d wr) (hb : Below wr.heap.size wr w') : Ts w o S sn sc R rn rc d w' := ⟨t.s.next hb, t.r.next hb, next_trans t.bel hb⟩
theorem Ts.drew (t : Ts w o S sn sc R rn rc d wr) : Ts w o S sn sc R rn rc d wr.drew := t.next ⟨rfl, rfl, rfl, Nat.le_refl _, fun _ _ => rfl⟩
/-- rule k lies in memory -/
theorem Ts.rule (t : Ts w o S sn sc R rn rc d wr) {k : Nat} (hk : k < rn) : ∃ b off l ln lc r qn qc, R = some ⟨b, off, none⟩ ∧ b < wr.heap.size ∧ wr.cell? ⟨b, off + k * 2, none⟩ = some (.slice l ln lc) ∧ wr.cell? ⟨b, off + k * 2 + 1, none⟩ = some (.slice r qn qc) ∧ Rd wr wr.heap.size sRule [.slice l ln lc, .slice r qn qc] (d.2.getD k ([], [])) ∧ rn ≤ rc := by
  obtain ⟨g0, g1⟩ := parts_System t.s
  have hl : d.2.length = rn := by
    obtain ⟨A, n, c, e, hc, hl, _⟩ := g1
    injection e with e _
    injection e with _ e2 _
    omega
  obtain ⟨b, off, n, c, es, e, hn, hc, hb, he, hp, hr⟩ := Rd.elem g1 (show k < d.2.length by omega)
  injection e with e1 e2 e3
  obtain ⟨u, v, rfl⟩ : ∃ u v, es = [u, v] := by
    match es, he with
    | [u, v], _ => exact ⟨u, v, rfl⟩
  obtain ⟨p0, p1⟩ := parts_Rule hr
  obtain ⟨l, ln, lc, q1, _, _⟩ := rd_ints.1 p0
  obtain ⟨r, qn, qc, q2, _, _⟩ := rd_ints.1 p1
  subst q1 q2
  rw [show nc sRule = 2 from rfl] at hp
  have h0 := hp 0 (by simp)
  have h1 := hp 1 (by simp)
  exact ⟨b, off, l, ln, lc, r, qn, qc, e1, hb, by simpa using h0, by simpa using h1, hr, by omega⟩
theorem Ts.len (t : Ts w o S sn sc R rn rc d wr) : d.2.length = rn := by
  obtain ⟨g0, A, n, c, e, hc, hl, _⟩ := parts_System t.s
  injection e with e _
  injection e with _ e2 _
  omega
theorem Ts.slen (t : Ts w o S sn sc R rn rc d wr) : d.1.length = sn := by
  obtain ⟨⟨A, n, c, e, hc, hl, _⟩, _⟩ := parts_System t.s
  injection e with e _
  injection e with _ e2 _
  omega
end
theorem drew_below (w : World) : Below w.heap.size w w.drew := ⟨rfl, rfl, rfl, Nat.le_refl _, fun _ _ => rfl⟩
/-- a system of one rule -/
theorem rd_one {w : World} {S : Option Addr} {sn sc g : Nat} {u v : Value} {sg : List Int} {x : Dat sRule} (hs : Rd w w.heap.size sSig [.slice S sn sc] sg) (hg : Row w g 35 #[u, v]) (hx : Rd w w.heap.size sRule [u, v] x) :
    Rd w w.heap.size sSystem [.slice S sn sc, .slice (some ⟨g, 0, none⟩) 1 1] ((sg, [x]) : List Int × List Rl) := by
  refine ⟨[_], [_], rfl, hs, some ⟨g, 0, none⟩, 1, 1, rfl, ⟨Nat.le_refl _, by omega, fun e => by cases e⟩, rfl, fun _ => ⟨g, 0, rfl, hg.lt, fun j hj => ?_⟩⟩
  have ej : j = 0 := by omega
  subst ej
  refine ⟨[u, v], rfl, fun i hi => ?_, hx⟩
  match i, hi with
  | 0, _ => exact hg.cell 0
  | 1, _ => exact hg.cell 1
/-! ### FnForms: one by one -/
theorem one_ok {sg : List Int} {rs : List Rl} (h : sysOkB sg rs = true) {k : Nat} (hk : k < rs.length) : sysOkB sg [rs.getD k ([], [])] = true := by
  obtain ⟨h1, h2, h3⟩ := sys_parts h
  exact sys_mk h1 (by simp) (fun r hr => by rw [List.mem_singleton.1 hr]; exact h3 _ (rl_mem hk))
theorem take_any {f : Rl → Bool} {rs : List Rl} {k : Nat} (hk : k < rs.length) : (rs.take (k + 1)).any f = ((rs.take k).any f || f (rs.getD k ([], []))) := by
  rw [List.take_succ_eq_append_getElem hk, List.any_append]
  simp [List.getD, hk]
theorem one_left {sg : List Int} {rs : List Rl} (h : sysOkB sg rs = true) {k : Nat} (hk : k < rs.length) : leftLinB sg [rs.getD k ([], [])] = linB (rs.getD k ([], [])).1 := by
  unfold leftLinB leftB; rw [one_ok h hk]; simp
theorem one_coll {sg : List Int} {rs : List Rl} (h : sysOkB sg rs = true) {k : Nat} (hk : k < rs.length) : collB sg [rs.getD k ([], [])] = fallsB (rs.getD k ([], [])) := by
  unfold collB; rw [one_ok h hk]; simp
theorem one_dup {sg : List Int} {rs : List Rl} (h : sysOkB sg rs = true) {k : Nat} (hk : k < rs.length) : dupB sg [rs.getD k ([], [])] = dblB (rs.getD k ([], [])) := by
  unfold dupB; rw [one_ok h hk]; simp
theorem left_step {rs : List Rl} {k : Nat} (hk : k < rs.length) : leftB (rs.take (k + 1)) = (leftB (rs.take k) && linB (rs.getD k ([], [])).1) := by
  unfold leftB; rw [take_any hk]; simp
theorem forms_end {sg : List Int} {rs : List Rl} (h : sysOkB sg rs = true) : leftLinB sg rs = leftB rs ∧ dupB sg rs = rs.any dblB ∧ collB sg rs = rs.any fallsB := by
  unfold leftLinB dupB collB; rw [h]; simp
theorem forms_no {sg : List Int} {rs : List Rl} (h : sysOkB sg rs = false) : leftLinB sg rs = false ∧ dupB sg rs = false ∧ collB sg rs = false := by
  unfold leftLinB dupB collB; rw [h]; simp
/-! ### FnDefined -/
theorem def_len_sum {sg : List Int} {rs : List Rl} (h : sysOkB sg rs = true) : (definedI sg rs).length + (consI sg rs).length = sg.length := by
  unfold definedI consI
  rw [if_pos h, if_pos h, def_sym h, parts_len]
theorem def_no {sg : List Int} {rs : List Rl} (h : sysOkB sg rs = false) : definedI sg rs = [] ∧ consI sg rs = [] := by
  unfold definedI consI
  rw [h]
  simp
theorem same_self {sg : List Int} {rs : List Rl} (h : sysOkB sg rs = true) : sameSB sg sg rs rs = true := by
  unfold sameSB; rw [h]; simp
end Go.Proofs.Ytdkjafjphgcbjaa.lawY
end

section
/-
  WORDS of the laws' walks: what stands behind a draw of a signature and two terms ('T1'), a variable that holds a substitution ('Sv'); laws.likeInts of two lists that read the same. Conditions: none; plain lemmas. By an AI agent.
-/
namespace Go.Proofs.Ytdkjafjphgcbjaa.lawT
open Go.RowKit Go.Proofs.Ytdkjafjphgcbjaa.base Go.Proofs.Ytdkjafjphgcbjaa.ints Go.Proofs.Ytdkjafjphgcbjaa.segs
set_option maxRecDepth 100000

/-- what stands after the first draw: the signature's variable at v3 -/
structure T1 (w : World) (v3 : Nat) (S : Option Addr) (sn sc : Nat) (sg : List Int) (O : Option Addr) (on : Nat) (p : List Int) (Q : Option Addr) (qn : Nat) (t : List Int) (wr : World) : Prop where
  s : Seg wr wr.heap.size S sn sg
  o : Seg wr wr.heap.size O on p
  q : Seg wr wr.heap.size Q qn t
  r3 : Row wr v3 26 #[.slice S sn sc]
  bel : Below w.heap.size w wr
section
variable {w : World} {v3 : Nat} {S : Option Addr} {sn sc : Nat} {sg : List Int} {O : Option Addr} {on : Nat} {p : List Int} {Q : Option Addr} {qn : Nat} {t : List Int} {wr w' : World}
theorem T1.next (f : T1 w v3 S sn sc sg O on p Q qn t wr) (hb : Below wr.heap.size wr w') : T1 w v3 S sn sc sg O on p Q qn t w' :=
  ⟨f.s.next hb, f.o.next hb, f.q.next hb, f.r3.next hb, next_trans f.bel hb⟩
theorem T1.drew (f : T1 w v3 S sn sc sg O on p Q qn t wr) : T1 w v3 S sn sc sg O on p Q qn t wr.drew := ⟨f.s, f.o, f.q, f.r3, f.bel.drew⟩
theorem T1.cell (f : T1 w v3 S sn sc sg O on p Q qn t wr) : wr.cell? ⟨v3, 0, none⟩ = some (.slice S sn sc) := f.r3.cell 0
end
/-- a variable that holds a substitution -/
structure Sv (wr : World) (v : Nat) (D : Option Addr) (dn dc : Nat) (xss : List (List Int)) : Prop where
  r : Row wr v 159 #[.slice D dn dc]
  s : Segs wr wr.heap.size D dn xss
section
variable {v : Nat} {D : Option Addr} {dn dc : Nat} {xss : List (List Int)} {wr w' : World}
theorem Sv.next (f : Sv wr v D dn dc xss) (hb : Below wr.heap.size wr w') : Sv w' v D dn dc xss := ⟨f.r.next hb, f.s.next hb⟩
theorem Sv.cell (f : Sv wr v D dn dc xss) : wr.cell? ⟨v, 0, none⟩ = some (.slice D dn dc) := f.r.cell 0
end
theorem below_alloc (w : World) (x : Obj) : Below w.heap.size w (w.alloc x) := (Below.refl _ _).alloc (Nat.le_refl _) _
theorem below_drewN (w : World) (d : Nat) : Below w.heap.size w (w.drewN d) := ⟨rfl, rfl, rfl, Nat.le_refl _, fun _ _ => rfl⟩

/-- two lists that read the same are told so -/
theorem like (A A' : Option Addr) (n c c' : Nat) (xs : List Int) (w : World) (h : Seg w w.heap.size A n xs) (h' : Seg w w.heap.size A' n xs) (hn : n ≤ 1048576) :
    Calls Try.prog 19 #[.slice A n c, .slice A' n c'] w fun e w' => e = .returned (.bool true) ∧ ∃ d, w' = w.drewN d := by
  go_enter Try.func19, Try.ntmps19
  go_wp2
  go_loopw [5] (fun i wr => ∃ k d : Nat, k ≤ n ∧ i = .int .i64 k ∧ wr = w.drewN d) (fun i _ => n - (intOf i).toNat)
  case atStart => exact ⟨0, 0, Nat.zero_le _, rfl, rfl⟩
  case round =>
    obtain ⟨k, d, hk, rfl, rfl⟩ := hrel
    by_cases hlt : k < n
    · obtain ⟨b, off, x, rfl, -, hx, ex⟩ := h.spot hlt
      obtain ⟨b', off', y, rfl, -, hy, ey⟩ := h'.spot hlt
      obtain rfl : x = y := by rw [← ex.out, ← ey.out]
      clear h h' ex ey
      go_wp2
      go_quiet (fail)
      go_wp2
      go_roundw
      case rel => exact ⟨k + 1, _, hlt, by simp, rfl⟩
      case measure => simp [intOf]; omega
    · clear h h'
      go_wp2
      go_ret
      exact ⟨rfl, _, rfl⟩
end Go.Proofs.Ytdkjafjphgcbjaa.lawT
end

section
/-
  PLAIN MATHEMATICS of renamed terms: a renamed term is a term, its variables are 0, 1, .., renamed again it stays. Conditions: none but those named. By an AI agent.
-/
namespace Go.Proofs.Ytdkjafjphgcbjaa.renPure
open Go.Proofs.Ytdkjafjphgcbjaa.sig Go.Proofs.Ytdkjafjphgcbjaa.term Go.Proofs.Ytdkjafjphgcbjaa.termOk Go.Proofs.Ytdkjafjphgcbjaa.termFacts Go.Proofs.Ytdkjafjphgcbjaa.varsMath Go.Proofs.Ytdkjafjphgcbjaa.fillMath Go.Proofs.Ytdkjafjphgcbjaa.renMath

theorem pigeon : ∀ (n : Nat) (l : List Nat), l.Nodup → (∀ x ∈ l, x < n) → l.length ≤ n
  | 0, l, _, h => by
    cases l with
    | nil => simp
    | cons a r => exact absurd (h a (List.mem_cons_self ..)) (Nat.not_lt_zero _)
  | n + 1, l, hd, h => by
    have h1 := pigeon n (l.erase n) (hd.erase n) (fun x hx => by
      have h2 := (hd.mem_erase_iff).1 hx
      have := h x h2.2
      omega)
    have h3 : l.length ≤ (l.erase n).length + 1 := by
      rw [List.length_erase]
      split <;> omega
    omega

theorem map_nodup {α β : Type} {f : α → β} : ∀ {l : List α}, l.Nodup → (∀ a ∈ l, ∀ b ∈ l, f a = f b → a = b) → (l.map f).Nodup
  | [], _, _ => List.nodup_nil
  | a :: r, h, hf => by
    have h1 := List.nodup_cons.1 h
    rw [List.map_cons, List.nodup_cons]
    refine ⟨fun hm => ?_, map_nodup h1.2 (fun x hx y hy => hf x (List.mem_cons_of_mem _ hx) y (List.mem_cons_of_mem _ hy))⟩
    obtain ⟨b, hb, e⟩ := List.mem_map.1 hm
    have := hf b (List.mem_cons_of_mem _ hb) a (List.mem_cons_self ..) e
    subst this
    exact h1.1 hb

/-- no more than 24 variables stand in a term -/
theorem order_24 {sg t : List Int} (h : termOkB sg t = true) : (orderL t).length ≤ 24 := by
  have h1 := pigeon 24 ((orderL t).map fun x => (-1 - x).toNat) (map_nodup (order_nodup t) (fun a ha b hb e => by
    have := (order_mem.1 ha).2
    have := (order_mem.1 hb).2
    omega)) (fun x hx => by
      obtain ⟨y, hy, rfl⟩ := List.mem_map.1 hx
      have h2 := order_mem.1 hy
      have h3 := term_mem h h2.1
      omega)
  simpa using h1

theorem ren_fill (t : List Int) (o : List Int) : fillL (fun i => vt (idx o (-1 - (i : Int)))) t = t.map (ren o) := by
  induction t with
  | nil => rfl
  | cons x r ih =>
    rw [fill_cons, ih, List.map_cons]
    unfold rep ren
    by_cases h : 0 ≤ x
    · rw [if_pos h, if_neg (by omega)]; rfl
    · rw [if_neg h, if_pos (by omega)]
      show vt (idx o (-1 - (((-1 - x).toNat : Nat) : Int))) ++ _ = _
      rw [show (-1 - (((-1 - x).toNat : Nat) : Int) : Int) = x by omega]
      rfl

theorem ren_ok {sg t : List Int} (h : termOkB sg t = true) : termOkB sg (renL t) = true := by
  have e : renL t = fillL (fun i => vt (idx (orderL t) (-1 - (i : Int)))) t := (ren_fill t (orderL t)).symm
  rw [e]
  refine fill_term h (fun x hx h0 => ?_) (by rw [← e, ren_len]; exact (term_len h).2)
  show termOkB sg (vt (idx (orderL t) (-1 - (((-1 - x).toNat : Nat) : Int)))) = true
  rw [show (-1 - (((-1 - x).toNat : Nat) : Int) : Int) = x by omega]
  refine var_term (term_parts h).1 ?_
  have h1 := idx_lt (order_mem.2 ⟨hx, h0⟩)
  have h2 := order_24 h
  omega

theorem ren_yes {o : List Int} {x : Int} (h : x < 0) : ren o x = -1 - (idx o x : Int) := by unfold ren; rw [if_pos h]
theorem ren_no {o : List Int} {x : Int} (h : ¬ x < 0) : ren o x = x := by unfold ren; rw [if_neg h]
theorem ren_neg {o : List Int} {x : Int} : ren o x < 0 ↔ x < 0 := by
  unfold ren
  split
  · omega
  · omega

theorem ren_inj {t : List Int} {a b : Int} (ha : a ∈ t) (hb : b ∈ t) (h : ren (orderL t) a = ren (orderL t) b) : a = b := by
  have n1 := @ren_neg (orderL t) a
  have n2 := @ren_neg (orderL t) b
  by_cases h0 : a < 0
  · have h1 : b < 0 := n2.1 (h ▸ n1.2 h0)
    unfold ren at h
    rw [if_pos h0, if_pos h1] at h
    have e : idx (orderL t) a = idx (orderL t) b := by omega
    have e1 := idx_get (order_mem.2 ⟨ha, h0⟩)
    have e2 := idx_get (order_mem.2 ⟨hb, h1⟩)
    rw [← e1, ← e2, e]
  · have h1 : ¬ b < 0 := fun hb0 => h0 (n1.1 (h ▸ n2.2 hb0))
    unfold ren at h
    rwa [if_neg h0, if_neg h1] at h

/-- the variables of a renamed term -/
theorem idx_map_on {f : Int → Int} {o : List Int} {x : Int} (hx : x ∈ o) (hf : ∀ a ∈ o, f a = f x → a = x) : idx (o.map f) (f x) = idx o x := by
  induction o with
  | nil => cases hx
  | cons y r ih =>
    rw [List.map_cons, idx, idx]
    by_cases h : y = x
    · rw [if_pos (by rw [h]), if_pos h]
    · rw [if_neg (fun e => h (hf y (List.mem_cons_self ..) e)), if_neg h]
      rcases List.mem_cons.1 hx with e | e
      · exact absurd e.symm h
      · rw [ih e (fun a ha => hf a (List.mem_cons_of_mem _ ha))]

theorem fold_map {f : Int → Int} {t : List Int} (hf : ∀ a ∈ t, ∀ b ∈ t, f a = f b → a = b) (hn : ∀ x, f x < 0 ↔ x < 0) : ∀ (l o : List Int), (∀ x ∈ l, x ∈ t) → (∀ x ∈ o, x ∈ t) → (l.map f).foldl extV (o.map f) = (l.foldl extV o).map f
  | [], _, _, _ => rfl
  | x :: l, o, hl, ho => by
    have hx := hl x (List.mem_cons_self ..)
    rw [List.map_cons, List.foldl_cons, List.foldl_cons]
    have e : extV (o.map f) (f x) = (extV o x).map f := by
      unfold extV
      by_cases h : x < 0
      · rw [if_pos ((hn x).2 h), if_pos h]
        unfold ext
        by_cases hm : x ∈ o
        · rw [if_pos hm, if_pos (List.mem_map.2 ⟨x, hm, rfl⟩)]
        · rw [if_neg hm, if_neg, List.map_append]
          · rfl
          · intro h2
            obtain ⟨y, hy, e⟩ := List.mem_map.1 h2
            exact hm (hf y (ho y hy) x hx e ▸ hy)
      · rw [if_neg (fun h2 => h ((hn x).1 h2)), if_neg h]
    rw [e]
    refine fold_map hf hn l (extV o x) (fun y hy => hl y (List.mem_cons_of_mem _ hy)) (fun y hy => ?_)
    rcases extV_mem.1 hy with ⟨rfl, _⟩ | h
    · exact hx
    · exact ho y h

theorem order_ren (t : List Int) : orderL (renL t) = (orderL t).map (ren (orderL t)) :=
  fold_map (t := t) (f := ren (orderL t)) (fun a ha b hb h => ren_inj ha hb h) (fun x => ren_neg) t [] (fun _ h => h) (fun x h => by cases h)

/-- renamed twice is renamed -/
theorem ren_ren (t : List Int) : renL (renL t) = renL t := by
  show (renL t).map (ren (orderL (renL t))) = renL t
  rw [order_ren]
  show (t.map (ren (orderL t))).map _ = t.map (ren (orderL t))
  rw [List.map_map]
  refine List.map_congr_left (fun x hx => ?_)
  show ren ((orderL t).map (ren (orderL t))) (ren (orderL t) x) = ren (orderL t) x
  by_cases h : x < 0
  · have h1 := (@ren_neg (orderL t) x).2 h
    have hm := order_mem.2 ⟨hx, h⟩
    have e := idx_map_on (f := ren (orderL t)) hm (fun a ha e => ren_inj (order_mem.1 ha).1 hx e)
    rw [ren_yes h1, e, ren_yes h]
  · have h1 : ¬ ren (orderL t) x < 0 := fun e => h (ren_neg.1 e)
    rw [ren_no h1]
end Go.Proofs.Ytdkjafjphgcbjaa.renPure
end

section
/-
  PLAIN MATHEMATICS of renamed terms: a renamed term is linear if the term is. Conditions: none but those named. By an AI agent.
-/
namespace Go.Proofs.Ytdkjafjphgcbjaa.renFacts
open Go.RowKit Go.Proofs.Ytdkjafjphgcbjaa.base Go.Proofs.Ytdkjafjphgcbjaa.ints Go.Proofs.Ytdkjafjphgcbjaa.sig Go.Proofs.Ytdkjafjphgcbjaa.term Go.Proofs.Ytdkjafjphgcbjaa.termOk Go.Proofs.Ytdkjafjphgcbjaa.termFacts Go.Proofs.Ytdkjafjphgcbjaa.varsMath Go.Proofs.Ytdkjafjphgcbjaa.fillMath Go.Proofs.Ytdkjafjphgcbjaa.renMath Go.Proofs.Ytdkjafjphgcbjaa.renPure Go.Proofs.Ytdkjafjphgcbjaa.linear Go.Proofs.Ytdkjafjphgcbjaa.count

theorem vars_ren {t : List Int} : vars (renL t) = (List.range (orderL t).length).map (fun i : Nat => (i : Int)) := by
  refine rises_unique (vars_rises _) ?_ (fun x => ?_)
  · refine List.Pairwise.map _ ?_ (List.pairwise_lt_range)
    intro a b hab
    omega
  · rw [vars_neg, List.mem_map]
    constructor
    · rintro ⟨h1, h2⟩
      obtain ⟨y, hy, e⟩ := List.mem_map.1 h1
      have h0 : y < 0 := ren_neg.1 (by rw [e]; omega)
      unfold ren at e
      rw [if_pos h0] at e
      exact ⟨idx (orderL t) y, List.mem_range.2 (idx_lt (order_mem.2 ⟨hy, h0⟩)), by omega⟩
    · rintro ⟨j, hj, rfl⟩
      rw [List.mem_range] at hj
      refine ⟨List.mem_map.2 ⟨(orderL t).getD j 0, ?_, ?_⟩, by omega⟩
      · exact (order_mem.1 (by simp [List.getD, hj])).1
      · have h0 : (orderL t).getD j 0 < 0 := (order_mem.1 (show (orderL t).getD j 0 ∈ orderL t by simp [List.getD, hj])).2
        unfold ren
        rw [if_pos h0, idx_nodup (order_nodup t) hj rfl]
theorem vars_ren_at {t : List Int} {j : Nat} (h : j < (vars (renL t)).length) : (vars (renL t)).getD j 0 = (j : Int) := by
  rw [vars_ren] at h ⊢
  simp at h
  simp [List.getD, h]

theorem many_ren {t : List Int} {x : Int} (hx : x ∈ t) : many (renL t) (ren (orderL t) x) = many t x := by
  unfold many cnt
  rw [List.take_length, List.take_length]
  unfold renL
  rw [List.count_eq_countP, List.count_eq_countP, List.countP_map]
  refine List.countP_congr (fun a ha => ?_)
  simp only [Function.comp, beq_iff_eq]
  exact ⟨fun e => ren_inj ha hx e, fun e => by rw [e]⟩

theorem lin_ren (t : List Int) : linB (renL t) = linB t := by
  unfold linB renL
  rw [List.all_map]
  refine Bool.eq_iff_iff.2 ?_
  rw [List.all_eq_true, List.all_eq_true]
  refine forall_congr' fun x => forall_congr' fun hx => ?_
  have h := many_ren hx
  unfold renL at h
  simp only [Function.comp, h, ren_neg]

/-- a renamed term is a variant of the term -/
theorem ren_facts {sg t : List Int} (h : termOkB sg t = true) : termOkB sg (renL t) = true ∧ renL (renL t) = renL t ∧ linB (renL t) = linB t ∧ ∀ j, j < (vars (renL t)).length → (vars (renL t)).getD j 0 = (j : Int) :=
  ⟨ren_ok h, ren_ren t, lin_ren t, fun _ => vars_ren_at⟩
end Go.Proofs.Ytdkjafjphgcbjaa.renFacts
end

section
/-
  CONTRACTS: impl.Renamed, its closure (which keeps a list of what it has seen in a variable of its caller), fill over that closure. Conditions: the slices read as lists ('Seg'), at most 1048576 numbers. By an AI agent.
-/
namespace Go.Proofs.Ytdkjafjphgcbjaa.renImpl
open Go.RowKit Go.Proofs.Ytdkjafjphgcbjaa.base Go.Proofs.Ytdkjafjphgcbjaa.ints Go.Proofs.Ytdkjafjphgcbjaa.sig Go.Proofs.Ytdkjafjphgcbjaa.cursor Go.Proofs.Ytdkjafjphgcbjaa.term Go.Proofs.Ytdkjafjphgcbjaa.termOk Go.Proofs.Ytdkjafjphgcbjaa.marks Go.Proofs.Ytdkjafjphgcbjaa.app Go.Proofs.Ytdkjafjphgcbjaa.appAt Go.Proofs.Ytdkjafjphgcbjaa.sym Go.Proofs.Ytdkjafjphgcbjaa.segs Go.Proofs.Ytdkjafjphgcbjaa.termFacts Go.Proofs.Ytdkjafjphgcbjaa.varsMath Go.Proofs.Ytdkjafjphgcbjaa.fillMath Go.Proofs.Ytdkjafjphgcbjaa.look Go.Proofs.Ytdkjafjphgcbjaa.renMath Go.Proofs.Ytdkjafjphgcbjaa.rename
set_option maxRecDepth 100000

/-- a number's variable -/
def vn (n : Int) : Int := -1 - n
theorem vn_inj : ∀ a b : Int, vn a = vn b → a = b := fun a b h => by unfold vn at h; omega

/-- only block p, row r and what is new have turned -/
structure Side (p : Nat) (r : Option Nat) (a b : World) : Prop where
  os : b.os = a.os
  tape : b.tape = a.tape
  output : b.output = a.output
  size : a.heap.size ≤ b.heap.size
  block : ∀ k, k < a.heap.size → k ≠ p → some k ≠ r → b.heap[k]? = a.heap[k]?
section
variable {p : Nat} {r : Option Nat} {a b c : World}
theorem Side.of_below (h : Below a.heap.size a b) : Side p r a b := ⟨h.os, h.tape, h.output, h.size, fun k hk _ _ => h.block k hk⟩
theorem Side.of_grown (h : a.grownBy b r) : Side p r a b := ⟨h.os, h.tape, h.output, h.size, fun k hk _ hr => h.block k hk hr⟩
theorem Side.of_var (h : a.grownBy b (some p)) : Side p r a b := ⟨h.os, h.tape, h.output, h.size, fun k hk hp _ => h.block k hk (fun e => by injection e with e; exact hp e)⟩
theorem Side.trans (h : Side p r a b) (k : Side p r b c) : Side p r a c :=
  ⟨k.os.trans h.os, k.tape.trans h.tape, k.output.trans h.output, Nat.le_trans h.size k.size, fun i hi hp hr => (k.block i (Nat.lt_of_lt_of_le hi h.size) hp hr).trans (h.block i hi hp hr)⟩
theorem Side.below (h : Side p r a b) (hr : ∀ k, r = some k → p ≤ k) (hp : p ≤ a.heap.size) : Below p a b :=
  ⟨h.os, h.tape, h.output, h.size, fun k hk => h.block k (by omega) (by omega) (fun e => by have := hr k e.symm; omega)⟩
/-- a slice of int64 in another row stays -/
theorem Own.side {base n cc : Nat} {O : Option Addr} {xs : List Int} {cs : Array Value} (h : Own a base (.slice O n cc) xs) (hs : Side p r a b) (hv : Row a p 24 cs) (hne : blk O = none ∨ blk O ≠ r) : Own b base (.slice O n cc) xs := by
  obtain ⟨q1, q2⟩ := h
  refine ⟨q1, ?_⟩
  rcases q2 with q2 | ⟨g, cap, cur, e, hg, hh, rest⟩
  · exact .inl q2
  · refine .inr ⟨g, cap, cur, e, hg, ?_, rest⟩
    have hlt : g < a.heap.size := (Array.getElem?_eq_some_iff.1 hh).1
    have hb : blk O = some g := by rw [← blk_own O n cc, e]; rfl
    have hgp : g ≠ p := Row.ne_ (t := 2) (t' := 24) hh hv (by decide)
    exact (hs.block g hlt hgp (by rw [hb] at hne; rcases hne with h | h; cases h; exact h)).trans hh
end

theorem own_ne {w : World} {base B n c : Nat} {S : Option Addr} {xs : List Int} {cs : Array Value} (h : Own w base (.slice S n c) xs) (hr : Row w B 24 cs) : blk S ≠ some B := by
  have hl := Own.len h
  rcases own_form (n := n) (vs := xs.map (Value.int .i64)) (by rw [hl]; rw [hl] at h; exact h) with ⟨rfl, _⟩ | ⟨g, cur, rfl, _, hrow, _⟩
  · intro e; cases e
  · intro e
    have e2 : g = B := Option.some.inj e
    exact Row.ne_ hr hrow (by decide) e2.symm
theorem one_seg (w : World) (y : Int) : Seg (w.alloc (.cells #[.int .i64 y] 2)) (w.alloc (.cells #[.int .i64 y] 2)).heap.size (some ⟨w.heap.size, 0, none⟩) 1 [y] :=
  (Row.new w 2 #[.int .i64 y]).seg rfl (by simp) (fun j hj => by
    have e : j = 0 := by omega
    subst e
    rfl)

/-- what the closure leaves -/
def AnsRen (W : World) (B : Nat) (S : Option Addr) (o : List Int) (x : Int) (e : Ending) (w' : World) : Prop :=
  ∃ A c S' sn' sc', e = .returned (.slice A 1 c) ∧ Seg w' w'.heap.size A 1 [-1 - (idx (ext o x) x : Int)] ∧ (A = none → c = 0) ∧ Row w' B 24 #[.slice S' sn' sc'] ∧
    Own w' (B + 1) (.slice S' sn' sc') ((ext o x).map vn) ∧ (blk S' = blk S ∨ ∃ k, blk S' = some k ∧ W.heap.size ≤ k) ∧ Side B (blk S) W w'

set_option maxHeartbeats 4000000 in
theorem ren1 (B : Nat) (S : Option Addr) (sn sc : Nat) (o : List Int) (x : Int) (W : World) (hr : Row W B 24 #[.slice S sn sc]) (ho : Own W (B + 1) (.slice S sn sc) (o.map vn)) (hx0 : -24 ≤ x) (hx1 : x < 0) (hsn : sn ≤ 1000) :
    Calls Try.prog 100 #[.int .i64 (-1 - x), .pointer (some ⟨B, 0, none⟩)] W (AnsRen W B S o x) := by
  have hl := Own.len ho
  simp only [List.length_map] at hl
  have hlt := hr.lt
  have cB : W.cell? ⟨B, 0, none⟩ = some (.slice S sn sc) := hr.cell 0
  have fB : W.frozen? ⟨B, 0, none⟩ = false := hr.free 0
  have LI := Lib.hid (indexOf S sn sc (o.map vn) (-1 - x) W (Own.seg ho) (by omega))
  by_cases hin : x ∈ o
  · have hi : idx o x < o.length := idx_lt hin
    obtain ⟨q, hq⟩ : ∃ q, idx o x = q := ⟨_, rfl⟩
    have EI := Lib.hid (show indexI (o.map vn) (-1 - x) = (q : Int) by
      unfold indexI
      rw [show (-1 - x : Int) = vn x from rfl, if_pos ((mem_map_inj vn_inj).2 hin), idx_map vn_inj, hq])
    have EX := Lib.hid (show ext o x = o by unfold ext; rw [if_pos hin])
    have LV := Lib.hid (varTerm (q : Int) W (by omega) (by omega))
    have HQ := Lib.hid hq
    have hq60 : q ≤ 1000 := by omega
    have HR := Lib.hid hr
    have HO := Lib.hid ho
    clear hin hi hq hl hr ho
    go_enter Try.func100, Try.ntmps100
    go_wp2_with fail
    refine LI.out.mono ?_
    rintro e w' ⟨rfl, he⟩
    rw [EI.out] at he
    subst he
    clear LI
    go_wp2_with fail
    refine LV.out.mono ?_
    rintro e w1 ⟨A, n, c, rfl, oq, bb⟩
    have hn1 := Own.len oq
    simp only [List.length_cons, List.length_nil] at hn1
    subst hn1
    have F : AnsRen W B S o x (.returned (.slice A 1 c)) w1 :=
      ⟨A, c, S, sn, sc, rfl, by rw [EX.out, HQ.out]; exact Own.seg oq, (own_cap oq).2.2, HR.out.next bb, by rw [EX.out]; exact HO.out.next bb, .inl rfl, Side.of_below bb⟩
    have HF := Lib.hid F
    clear F oq bb LV cB fB
    go_wp2
    go_ret
    exact HF.out
  · have EI := Lib.hid (show indexI (o.map vn) (-1 - x) = -1 by
      unfold indexI
      rw [show (-1 - x : Int) = vn x from rfl, if_neg (fun h => hin ((mem_map_inj vn_inj).1 h))])
    have EX := Lib.hid (show (ext o x).map vn = o.map vn ++ [-1 - x] by unfold ext; rw [if_neg hin, List.map_append]; rfl)
    have EQ := Lib.hid (show idx (ext o x) x = sn by unfold ext; rw [if_neg hin, idx_app_new hin, hl])
    have hne := own_ne ho hr
    have hr1 := hr.alloc (.cells #[.int .i64 (-1 - x)] 2)
    have ho1 := Own.alloc ho (.cells #[.int .i64 (-1 - x)] 2)
    have HNE := Lib.hid hne
    have HN := Lib.hid hl
    clear hin hl hr ho hne
    go_enter Try.func100, Try.ntmps100
    go_wp2_with fail
    refine LI.out.mono ?_
    rintro e w' ⟨rfl, he⟩
    rw [EI.out] at he
    subst he
    clear LI
    go_wp2_with (first
      | (at_builtin; refine appAllAt rfl _ _ rfl (B + 1) S sn sc (o.map vn) rfl ho1 (some ⟨W.heap.size, 0, none⟩) 1 1 (W.heap.size + 1) [-1 - x] rfl (by simpa using one_seg W (-1 - x)) (by omega) (by omega) (by omega) (by simp; omega) ?_; intro S' sc' w2 ho2 hg hat; have r2 := Row.away hr1 hg HNE.out; have cB2 : w2.cell? ⟨B, 0, none⟩ = some (.slice S sn sc) := r2.cell 0; have fB2 : w2.frozen? ⟨B, 0, none⟩ = false := r2.free 0)
      | (go_at_call 102; refine (varTerm (sn : Int) _ (by omega) (by omega)).mono ?_; rintro e w3 ⟨A, n, c, rfl, oq, bb⟩))
    have hn1 := Own.len oq
    simp only [List.length_cons, List.length_nil] at hn1
    subst hn1
    have r3 := r2.put 0 (.slice S' (sn + 1) sc')
    have hg3 : w2.grownBy (w2.setCell ⟨B, 0, none⟩ (.slice S' (sn + 1) sc')) (some B) := grown_put (World.grownBy.refl _ _) _ _
    have o3 := Own.far ho2 hg3 (fun k hk => by injection hk; omega)
    have sd : Side B (blk S) W w3 := (((Side.of_below ((Below.refl _ _).alloc (Nat.le_refl _) _)).trans (Side.of_grown hg)).trans (Side.of_var hg3)).trans (Side.of_below bb)
    have F : AnsRen W B S o x (.returned (.slice A 1 c)) w3 := by
      refine ⟨A, c, S', sn + 1, sc', rfl, by rw [EQ.out]; exact Own.seg oq, (own_cap oq).2.2, r3.next bb, by rw [EX.out]; exact o3.next bb, ?_, sd⟩
      rcases hat with h | h
      · exact .inl h
      · exact .inr ⟨_, h, by simp⟩
    have HF := Lib.hid F
    clear F oq bb r3 hg3 o3 sd hat hg ho2 r2 cB2 fB2 cB fB hr1 ho1
    go_wp2
    go_ret
    exact HF.out

theorem ne_flip {a b : Option Nat} (h : a = none ∨ a ≠ b) : b = none ∨ b ≠ a := by
  cases b with
  | none => exact .inl rfl
  | some k =>
    right
    rintro rfl
    rcases h with h | h
    · cases h
    · exact h rfl
theorem blk_lt {w : World} {base : Nat} {A : Option Addr} {n c : Nat} {xs : List Int} (h : Own w base (.slice A n c) xs) : ∀ k, blk A = some k → base ≤ k ∧ k < w.heap.size := fun k hk => World.ownsRow.lt h k (by rw [blk_own]; exact hk)
theorem ne_new {w : World} {base : Nat} {S : Option Addr} {n c : Nat} {xs : List Int} {a : Option Nat} (h : Own w base (.slice S n c) xs) (q : Nat) (hq : w.heap.size ≤ q) (ha : a = some q) : a = none ∨ a ≠ blk S := by
  right
  rintro rfl
  have := (blk_lt h q ha).2
  omega

/-! ### fill over this closure, whatever it has seen ahead -/
def ordF (o t : List Int) : List Int := t.foldl extV o
theorem ordF_take {o t : List Int} {k : Nat} {x : Int} (hk : k < t.length) (hx : t.getD k 0 = x) : ordF o (t.take (k + 1)) = extV (ordF o (t.take k)) x := by
  unfold ordF
  rw [take_snoc hk hx, List.foldl_append]
  rfl
theorem ordF_len (o t : List Int) : (ordF o t).length ≤ o.length + t.length := fold_ext_len t o
theorem ordF_same {o : List Int} : ∀ {t : List Int}, (∀ x ∈ t, x < 0 → x ∈ o) → ordF o t = o
  | [], _ => rfl
  | x :: t, h => by
    have e : extV o x = o := by
      unfold extV
      split
      · unfold ext; rw [if_pos (h x (List.mem_cons_self ..) (by assumption))]
      · rfl
    show t.foldl extV (extV o x) = o
    rw [e]
    exact ordF_same (fun y hy => h y (List.mem_cons_of_mem _ hy))
def renF (o t : List Int) : List Int := t.map (ren (ordF o t))
theorem renF_take {o t : List Int} {k : Nat} {x : Int} (hk : k < t.length) (hx : t.getD k 0 = x) : renF o (t.take (k + 1)) = renF o (t.take k) ++ [ren (extV (ordF o (t.take k)) x) x] := by
  unfold renF
  rw [ordF_take hk hx, take_snoc hk hx, List.map_append]
  congr 1
  refine List.map_congr_left fun n hn => ren_ext fun h0 => ?_
  exact fold_ext_mem.2 (.inl ⟨hn, h0⟩)
theorem Side.on {B : Nat} {r r' : Option Nat} {a b c : World} (h : Side B r a b) (hr : r' = r ∨ ∃ k, r' = some k ∧ a.heap.size ≤ k) (k : Side B r' b c) : Side B r a c :=
  ⟨k.os.trans h.os, k.tape.trans h.tape, k.output.trans h.output, Nat.le_trans h.size k.size, fun i hi hp hne => (k.block i (Nat.lt_of_lt_of_le hi h.size) hp (fun e => by
    rcases hr with e2 | ⟨q, e2, hq⟩
    · exact hne (by rw [e, e2])
    · rw [e2] at e; injection e with e; omega)).trans (h.block i hi hp hne)⟩
theorem Side.grow {B : Nat} {r q : Option Nat} {a b c : World} (h : Side B r a b) (hg : b.grownBy c q) (hq : ∀ k, q = some k → a.heap.size ≤ k) : Side B r a c :=
  ⟨hg.os.trans h.os, hg.tape.trans h.tape, hg.output.trans h.output, Nat.le_trans h.size hg.size, fun i hi hp hne => (hg.block i (Nat.lt_of_lt_of_le hi h.size) (fun e => by have := hq i e.symm; omega)).trans (h.block i hi hp hne)⟩
theorem Side.allocs {B : Nat} {r : Option Nat} {a b : World} (h : Side B r a b) (o : Obj) : Side B r a (b.alloc o) :=
  ⟨h.os, h.tape, h.output, by have := h.size; simp; omega, fun i hi hp hne => (Below.heap_alloc b o i (Nat.lt_of_lt_of_le hi h.size)).trans (h.block i hi hp hne)⟩

/-- the head of fill's loop -/
def HeadRG (w : World) (B m : Nat) (o t : List Int) (S0 : Option Addr) (out i : Value) (wr : World) : Prop :=
  ∃ (k : Nat) (O : Option Addr) (on oc : Nat) (S : Option Addr) (sn sc : Nat), k ≤ m ∧ i = .int .i64 k ∧ out = .slice O on oc ∧ Own wr w.heap.size (.slice O on oc) (renF o (t.take k)) ∧ Row wr B 24 #[.slice S sn sc] ∧
    Own wr (B + 1) (.slice S sn sc) ((ordF o (t.take k)).map vn) ∧ (blk S = blk S0 ∨ ∃ q, blk S = some q ∧ w.heap.size ≤ q) ∧ (blk O = none ∨ blk O ≠ blk S) ∧ Side B (blk S0) w wr
/-- what fill leaves -/
def AnsRG (w : World) (B : Nat) (o t : List Int) (S0 : Option Addr) (e : Ending) (w' : World) : Prop :=
  ∃ O on oc S sn sc, e = .returned (.slice O on oc) ∧ Own w' w.heap.size (.slice O on oc) (renF o t) ∧ Row w' B 24 #[.slice S sn sc] ∧ Own w' (B + 1) (.slice S sn sc) ((ordF o t).map vn) ∧ (blk O = none ∨ blk O ≠ blk S) ∧ Side B (blk S0) w w'

set_option maxHeartbeats 4000000 in
theorem fillRen (B : Nat) (A : Option Addr) (m c : Nat) (o t : List Int) (S0 : Option Addr) (n0 c0 : Nat) (w : World) (hr : Row w B 24 #[.slice S0 n0 c0]) (hS : Own w (B + 1) (.slice S0 n0 c0) (o.map vn)) (h : Seg w B A m t) (hm : m ≤ 60) (ho : o.length ≤ 60) (hv : ∀ x ∈ t, -24 ≤ x) :
    Calls Try.prog 64 #[.func (.func 100) #[] #[.pointer (some ⟨B, 0, none⟩)], .slice A m c] w (AnsRG w B o t S0) := by
  have HL := Lib.hid h.1
  have HV := Lib.hid hv
  have hBw := hr.lt
  have HG := Lib.hid (fun k hk => (blk_lt hS k hk).1)
  have S1 : HeadRG w B m o t S0 (.slice none 0 0) (.int .i64 0) w := ⟨0, none, 0, 0, S0, n0, c0, Nat.zero_le _, rfl, rfl, by simpa [renF] using Own.nil w w.heap.size, hr, by simpa [ordF] using hS, .inl rfl, .inl rfl, Side.of_below (Below.refl _ _)⟩
  have HS0 := Lib.hid S1
  clear S1 hv hr hS
  go_enter Try.func64, Try.ntmps64
  go_wp2
  go_loopw [5, 10] (fun out i wr => HeadRG w B m o t S0 out i wr) (fun _ i _ => m - (intOf i).toNat)
  case atStart => exact HS0.out
  case round =>
    obtain ⟨k, O, on, oc, S, sn, sc, hk, rfl, rfl, hO, hr, hs, hat0, hne, hsd⟩ := hrel
    clear HS0
    have hon : on ≤ 60 := by rw [Own.len hO]; unfold renF; simp; omega
    have hsn : sn ≤ 1000 := by have h1 := Own.len hs; have h2 := ordF_len o (t.take k); simp at h1 h2; omega
    have hBlt := hr.lt
    have hwz := hsd.size
    by_cases hlt : k < m
    · obtain ⟨b, off, x, rfl, hbb, hx, ex⟩ := h.spot hlt
      have hx1 : wr.cell? ⟨b, off + k, none⟩ = some (.int .i64 x) := by
        have hneS : some b ≠ blk S0 := fun e => by have := HG.out b e.symm; omega
        exact (World.cell?_of_block (hsd.block b (by omega) (by omega) hneS)).trans hx
      have hmem := mem_of_get (by rw [HL.out]; exact hlt) ex.out
      have hx24 : -24 ≤ x := HV.out x hmem
      have E := Lib.hid (renF_take (o := o) (t := t) (k := k) (by rw [HL.out]; exact hlt) ex.out)
      have EO := Lib.hid (ordF_take (o := o) (t := t) (k := k) (by rw [HL.out]; exact hlt) ex.out)
      clear hmem hx h ex
      by_cases hpos : 0 ≤ x
      · have R := Lib.hid (show ren (extV (ordF o (t.take k)) x) x = x by unfold ren; rw [if_neg (by omega)])
        have R2 := Lib.hid (show extV (ordF o (t.take k)) x = ordF o (t.take k) by unfold extV; rw [if_neg (by omega)])
        have ho1 := Own.alloc hO (.cells #[.int .i64 x] 2)
        have hs1 := Own.alloc hs (.cells #[.int .i64 x] 2)
        have hr1 := hr.alloc (.cells #[.int .i64 x] 2)
        go_wp2_with (at_builtin; refine appAllAt rfl _ _ rfl w.heap.size O on oc (renF o (t.take k)) rfl ho1 (some ⟨wr.heap.size, 0, none⟩) 1 1 (wr.heap.size + 1) [x] rfl (by simpa using one_seg wr x) (by omega) (by omega) (by omega) (by simp; omega) ?_; intro O' oc' w2 ho2 hg hat)
        have S1 : HeadRG w B m o t S0 (.slice O' (on + 1) oc') (.int .i64 ((k : Int) + 1)) w2 := by
          refine ⟨k + 1, O', on + 1, oc', S, sn, sc, hlt, by simp, rfl, by rw [E.out, R.out]; exact ho2, Row.away hr1 hg (own_ne ho1 hr1), by rw [EO.out, R2.out]; exact Own.kept hs1 hg (ne_flip hne), hat0, ?_, ?_⟩
          · rcases hat with h | h
            · rw [h]; exact hne
            · exact ne_new hs1 _ (Nat.le_refl _) h
          · exact (hsd.allocs _).grow hg (fun q hq => (blk_lt hO q hq).1)
        have S := Lib.hid S1
        clear S1 ho2 hg hat ho1 hs1 hr1 hO hs hr hne hsd R R2 E EO hat0
        go_wp2
        go_roundw
        case rel => exact S.out
        case measure => simp [intOf]; omega
      · have hneg : x < 0 := by omega
        have R := Lib.hid (show ren (extV (ordF o (t.take k)) x) x = -1 - (idx (ext (ordF o (t.take k)) x) x : Int) by unfold ren extV; rw [if_pos hneg, if_pos hneg])
        have R2 := Lib.hid (show extV (ordF o (t.take k)) x = ext (ordF o (t.take k)) x by unfold extV; rw [if_pos hneg])
        have L := Lib.hid (ren1 B S sn sc _ x wr hr hs hx24 hneg hsn)
        go_wp2_with (first
          | (go_at_call 100; refine L.out.mono ?_; rintro e w1 ⟨A1, c1, S1, sn1, sc1, rfl, s1, hc1, r1, os1, hat1, sd⟩; have ho1 := Own.side hO sd hr hne; have hz1 := sd.size; have hne1 : blk O = none ∨ blk O ≠ blk S1 := (by rcases hat1 with h | ⟨q, h, hq⟩; (rw [h]; exact hne); (rw [h]; exact (by cases e : blk O with | none => exact .inl rfl | some z => exact .inr (fun e2 => by injection e2 with e2; have := (blk_lt hO z e).2; omega)))))
          | (at_builtin; refine appAllAt rfl _ _ rfl w.heap.size O on oc (renF o (t.take k)) rfl ho1 A1 1 c1 w1.heap.size _ rfl s1 (by omega) (by omega) (by omega) (by omega) ?_; intro O' oc' w2 ho2 hg hat))
        have SS : HeadRG w B m o t S0 (.slice O' (on + 1) oc') (.int .i64 ((k : Int) + 1)) w2 := by
          refine ⟨k + 1, O', on + 1, oc', S1, sn1, sc1, hlt, by simp, rfl, by rw [E.out, R.out]; exact ho2, Row.away r1 hg (own_ne ho1 r1), by rw [EO.out, R2.out]; exact Own.kept os1 hg (ne_flip hne1), ?_, ?_, ?_⟩
          · rcases hat1 with h | ⟨q, h, hq⟩
            · rw [h]; exact hat0
            · exact .inr ⟨q, h, by omega⟩
          · rcases hat with h | h
            · rw [h]; exact hne1
            · exact ne_new os1 _ (Nat.le_refl _) h
          · exact (hsd.on hat0 sd).grow hg (fun q hq => (blk_lt ho1 q hq).1)
        have HSS := Lib.hid SS
        clear SS ho2 hg hat ho1 s1 r1 os1 hat1 sd hne1 hO hs hr hne hsd R R2 E EO L hat0
        go_wp2
        go_roundw
        case rel => exact HSS.out
        case measure => simp [intOf]; omega
    · rw [List.take_of_length_le (by rw [HL.out]; omega)] at hO hs
      have F : AnsRG w B o t S0 (.returned (.slice O on oc)) wr := ⟨O, on, oc, S, sn, sc, rfl, hO, hr, hs, hne, hsd⟩
      have HF := Lib.hid F
      clear F hO hs hr hne hsd h
      go_wp2
      go_ret
      exact HF.out

/-- the closure is made: its box, with nothing seen -/
theorem renaming_ (w : World) : Calls Try.prog 63 #[] w fun e w' => e = .returned (.func (.func 100) #[] #[.pointer (some ⟨w.heap.size, 0, none⟩)]) ∧ w' = w.alloc (.cells #[.slice none 0 0] 24) := by
  have hmf : ∀ (fn : Fn) (first cap : Array Value) (w : World), (Instr.makeFunc fn first cap).run Try.prog w = .ok (.func fn first cap) w := fun _ _ _ _ => rfl
  go_enter Try.func63, Try.ntmps63
  go_wp2
  go_ret
  exact ⟨rfl, rfl⟩

end Go.Proofs.Ytdkjafjphgcbjaa.renImpl
end

section
/-
  (the regions' walks by wip/tools/reg.py) CONTRACTS: spec.VariantIn, impl.VariantIn. Conditions: the slices read as lists ('Seg'), at most 1048576 numbers. By an AI agent.
-/
namespace Go.Proofs.Ytdkjafjphgcbjaa.variant
open Go.RowKit Go.Proofs.Ytdkjafjphgcbjaa.base Go.Proofs.Ytdkjafjphgcbjaa.ints Go.Proofs.Ytdkjafjphgcbjaa.sig Go.Proofs.Ytdkjafjphgcbjaa.same Go.Proofs.Ytdkjafjphgcbjaa.term Go.Proofs.Ytdkjafjphgcbjaa.termOk Go.Proofs.Ytdkjafjphgcbjaa.marks Go.Proofs.Ytdkjafjphgcbjaa.sym Go.Proofs.Ytdkjafjphgcbjaa.termFacts Go.Proofs.Ytdkjafjphgcbjaa.varsOf Go.Proofs.Ytdkjafjphgcbjaa.renMath Go.Proofs.Ytdkjafjphgcbjaa.rename Go.Proofs.Ytdkjafjphgcbjaa.renImpl
set_option maxRecDepth 100000

/-- what VariantIn answers -/
def variantB (sg a b : List Int) : Bool := termOkB sg a && (termOkB sg b && decide (renL a = renL b))
theorem variant_a {sg a b : List Int} (h : termOkB sg a = false) : variantB sg a b = false := by unfold variantB; rw [h, Bool.false_and]
theorem variant_b {sg a b : List Int} (h : termOkB sg b = false) : variantB sg a b = false := by unfold variantB; rw [h, Bool.false_and, Bool.and_false]
theorem variant_ab {sg a b : List Int} (h : termOkB sg a = true) (h' : termOkB sg b = true) : variantB sg a b = decide (renL a = renL b) := by unfold variantB; rw [h, h', Bool.true_and, Bool.true_and]

set_option maxHeartbeats 4000000 in
theorem specVariantIn (A A' B' : Option Addr) (n c m c' q cq : Nat) (sg a b : List Int) (w : World) (h : Seg w w.heap.size A n sg) (h' : Seg w w.heap.size A' m a) (h2 : Seg w w.heap.size B' q b) (hn : n ≤ 1048576) (hm : m ≤ 1048576) (hq : q ≤ 1048576) :
    Calls Try.prog 26 #[.agg #[.slice A n c], .slice A' m c', .slice B' q cq] w (AnsB w (variantB sg a b)) := by
  obtain ⟨W, hW⟩ : ∃ W, W = w.alloc (.cells #[.slice A n c] 26) := ⟨_, rfl⟩
  have rA : Row W w.heap.size 26 #[.slice A n c] := by rw [hW]; exact Row.new _ _ _
  have bel : Below w.heap.size w W := by rw [hW]; exact (Below.refl _ _).alloc (Nat.le_refl _) _
  have s := h.next bel
  have s1 := h'.next bel
  have s2 := h2.next bel
  have HW := Lib.hid hW
  have L := Lib.hid (specTermOk A A' n c m c' sg a W s s1 hn hm)
  have H1 := Lib.hid h'.1
  have H2 := Lib.hid h2.1
  clear hW h h' h2
  cases hok : termOkB sg a with
  | false =>
    have HS := Lib.hid hok
    clear hok s s1 s2
    go_enter Try.func26, Try.ntmps26
    go_wp2_with fail
    rw [← HW.out]
    refine L.out.mono ?_
    rintro e w1 ⟨he, bb⟩
    rw [HS.out] at he
    subst he
    have F := Lib.hid (ansB (b := variantB sg a b) (a := false) (by rw [variant_a HS.out]) (next_trans bel bb))
    clear bb bel rA
    go_wp2
    go_ret
    exact F.out
  | true =>
    have HS := Lib.hid hok
    clear hok
    go_enter Try.func26, Try.ntmps26
    go_wp2_with fail
    rw [← HW.out]
    refine L.out.mono ?_
    rintro e w1 ⟨he, bb⟩
    rw [HS.out] at he
    subst he
    replace s := s.next bb
    replace s1 := s1.next bb
    replace s2 := s2.next bb
    have cA : w1.cell? ⟨w.heap.size, 0, none⟩ = some (.slice A n c) := (rA.next bb).cell 0
    replace bel := next_trans bel bb
    have L2 := Lib.hid (specTermOk A B' n c q cq sg b w1 s s2 hn hq)
    clear bb L rA
    cases hok2 : termOkB sg b with
    | false =>
      have HS2 := Lib.hid hok2
      clear hok2 s s1 s2
      go_wp2_with fail
      refine L2.out.mono ?_
      rintro e w2 ⟨he, bb⟩
      rw [HS2.out] at he
      subst he
      have F := Lib.hid (ansB (b := variantB sg a b) (a := false) (by rw [variant_b HS2.out]) (next_trans bel bb))
      clear bb bel cA
      go_wp2
      go_ret
      exact F.out
    | true =>
      have HS2 := Lib.hid hok2
      clear hok2
      go_wp2_with fail
      refine L2.out.mono ?_
      rintro e w2 ⟨he, bb⟩
      rw [HS2.out] at he
      subst he
      replace s1 := s1.next bb
      replace s2 := s2.next bb
      replace bel := next_trans bel bb
      clear bb cA L2 s
      go_wp2_with fail
      refine (l2Renamed A' m c' a _ s1 hm).mono ?_
      rintro e w3 ⟨X, xn, xc, rfl, ox, bb⟩
      replace s2 := s2.next bb
      replace bel := next_trans bel bb
      clear bb s1
      go_wp2_with fail
      refine (l2Renamed B' q cq b _ s2 hq).mono ?_
      rintro e w4 ⟨Y, yn, yc, rfl, oy, bb⟩
      have hxn : xn ≤ 1048576 := by rw [Own.len ox, ren_len, H1.out]; exact hm
      have hyn : yn ≤ 1048576 := by rw [Own.len oy, ren_len, H2.out]; exact hq
      have L3 := Lib.hid (specSame X Y xn yn xc yc (renL a) (renL b) w4 (Own.seg (ox.next bb)) (Own.seg oy) hxn hyn)
      replace bel := next_trans bel bb
      clear bb s2 ox oy
      go_wp2_with fail
      refine L3.out.mono ?_
      rintro e w5 ⟨rfl, d, rfl⟩
      have F := Lib.hid (ansB (b := variantB sg a b) (variant_ab HS.out HS2.out).symm (below_drewN bel d))
      clear bel L3
      generalize decide (renL a = renL b) = z at *
      go_wp2
      go_ret
      exact F.out

end Go.Proofs.Ytdkjafjphgcbjaa.variant
end

section
/-
  PLAIN MATHEMATICS of renamed rules: a renamed rule is valid if the rule is; its left side is a variant. Conditions: none but those named. By an AI agent.
-/
namespace Go.Proofs.Ytdkjafjphgcbjaa.renRule
open Go.RowKit Go.Proofs.Ytdkjafjphgcbjaa.base Go.Proofs.Ytdkjafjphgcbjaa.ints Go.Proofs.Ytdkjafjphgcbjaa.sig Go.Proofs.Ytdkjafjphgcbjaa.term Go.Proofs.Ytdkjafjphgcbjaa.termOk Go.Proofs.Ytdkjafjphgcbjaa.termFacts Go.Proofs.Ytdkjafjphgcbjaa.varsMath Go.Proofs.Ytdkjafjphgcbjaa.fillMath Go.Proofs.Ytdkjafjphgcbjaa.renMath Go.Proofs.Ytdkjafjphgcbjaa.renPure Go.Proofs.Ytdkjafjphgcbjaa.renFacts Go.Proofs.Ytdkjafjphgcbjaa.variant Go.Proofs.Ytdkjafjphgcbjaa.ruleMath

theorem by_ok {sg l r : List Int} (hl : termOkB sg l = true) (hr : termOkB sg r = true) (hv : ∀ x, x ∈ r → x < 0 → x ∈ l) : termOkB sg (byL (orderL l) r) = true := by
  have e : byL (orderL l) r = fillL (fun i => vt (idx (orderL l) (-1 - (i : Int)))) r := (ren_fill r (orderL l)).symm
  rw [e]
  refine fill_term hr (fun x hx h0 => ?_) (by rw [← e, byL_len]; exact (term_len hr).2)
  show termOkB sg (vt (idx (orderL l) (-1 - (((-1 - x).toNat : Nat) : Int)))) = true
  rw [show (-1 - (((-1 - x).toNat : Nat) : Int) : Int) = x by omega]
  refine var_term (term_parts hr).1 ?_
  have h1 := idx_lt (order_mem.2 ⟨hv x hx h0, h0⟩)
  have h2 := order_24 hl
  omega
theorem hd_ren {t : List Int} (h : 0 ≤ hd t) : 0 ≤ hd (renL t) := by
  cases t with
  | nil => exact h
  | cons x r =>
    have h : 0 ≤ x := h
    show 0 ≤ ren (orderL (x :: r)) x
    rw [ren_no (by omega)]
    exact h
theorem ren_rule {sg : List Int} {r : Rl} (h : ruleOkB sg r = true) : ruleOkB sg (renRI sg r) = true ∧ variantB sg (renRI sg r).1 r.1 = true := by
  obtain ⟨h1, h2, h3, h4⟩ := rule_parts h
  obtain ⟨f1, f2, _⟩ := ren_facts h1
  unfold renRI
  rw [if_pos h]
  refine ⟨?_, by show variantB sg (renL r.1) r.1 = true; rw [variant_ab f1 h1, f2]; simp⟩
  unfold ruleOkB
  show (termOkB sg (renL r.1) && (termOkB sg (byL (orderL r.1) r.2) && (!decide (hd (renL r.1) < 0) && !(byL (orderL r.1) r.2).any (newB (renL r.1))))) = true
  have e3 := hd_ren h3
  have e4 : (byL (orderL r.1) r.2).any (newB (renL r.1)) = false := by
    rw [List.any_eq_false]
    intro x hx
    obtain ⟨y, hy, rfl⟩ := List.mem_map.1 hx
    unfold newB
    rw [decide_eq_true_eq]
    rintro ⟨q1, q2⟩
    exact q2 (List.mem_map.2 ⟨y, h4 y hy (ren_neg.1 q1), rfl⟩)
  rw [f1, by_ok h1 h2 h4, e4, decide_eq_false (by omega)]
  rfl
end Go.Proofs.Ytdkjafjphgcbjaa.renRule
end

section
/-
  CONTRACTS: slices.IndexFunc, slices.ContainsFunc over whatever test. Conditions: the slice reads as data ("Rd"), at most 1048576 elements. Written by a program of mine (mkany.py). By an AI agent.
-/
namespace Go.Proofs.Ytdkjafjphgcbjaa.anyR
open Go.RowKit Go.Proofs.Ytdkjafjphgcbjaa.base Go.Proofs.Ytdkjafjphgcbjaa.ints Go.Proofs.Ytdkjafjphgcbjaa.sig Go.Proofs.Ytdkjafjphgcbjaa.segs Go.Proofs.Ytdkjafjphgcbjaa.varsOf Go.Proofs.Ytdkjafjphgcbjaa.shape Go.Proofs.Ytdkjafjphgcbjaa.kindsR Go.Proofs.Ytdkjafjphgcbjaa.ruleMath
set_option maxRecDepth 100000

theorem any_of {α : Type} [Inhabited α] {f : α → Bool} {xs : List α} {k : Nat} {x z : α} (hk : k < xs.length) (ex : xs.getD k z = x) (h : f x = true) : xs.any f = true := by
  rw [List.any_eq_true]
  refine ⟨xs[k], List.getElem_mem hk, ?_⟩
  have : xs.getD k z = xs[k] := by simp [List.getD, hk]
  rw [← this, ex]; exact h
theorem none_of {α : Type} {f : α → Bool} {xs : List α} {z : α} (h : ∀ j, j < xs.length → f (xs.getD j z) = false) : xs.any f = false := by
  rw [List.any_eq_false]
  intro x hx
  obtain ⟨i, hi, rfl⟩ := List.getElem_of_mem hx
  have := h i hi
  simpa [List.getD, hi] using this
theorem mem_at {α : Type} {xs : List α} {k : Nat} {x z : α} (hk : k < xs.length) (ex : xs.getD k z = x) : x ∈ xs := by
  have : xs.getD k z = xs[k] := by simp [List.getD, hk]
  rw [← ex, this]; exact List.getElem_mem hk

/-- function g tests f on what lies in xs, as long as what lies in w lies -/
def TestsI (g : Nat) (fa lb : Array Value) (w : World) (xs : List Int) (f : Int → Bool) : Prop := ∀ (W : World) (x : Int), Below w.heap.size w W → x ∈ xs → Calls Try.prog g (fa ++ #[.int .i64 x] ++ lb) W (AnsB W (f x))
def AnsIxI (w : World) (f : Int → Bool) (xs : List Int) (e : Ending) (w' : World) : Prop := ∃ z : Int, e = .returned (.int .i64 z) ∧ -1 ≤ z ∧ z ≤ 1048576 ∧ decide (0 ≤ z) = xs.any f ∧ Below w.heap.size w w'
def HeadIxI (w : World) (n : Nat) (f : Int → Bool) (xs : List Int) (i : Value) (wr : World) : Prop := ∃ k : Nat, k ≤ n ∧ i = .int .i64 k ∧ (∀ j, j < k → f (xs.getD j 0) = false) ∧ Below w.heap.size w wr

set_option maxHeartbeats 2000000 in
theorem indexFuncI (g : Nat) (fa lb : Array Value) (eg : ∀ args w, (callFunc g args).run Try.prog w = .ok (.enter g args) w) (f : Int → Bool) (A : Option Addr) (n c : Nat) (xs : List Int) (w : World) (hT : TestsI g fa lb w xs f)
    (h : Rd w w.heap.size sI [.slice A n c] xs) (hl : xs.length = n) (hn : n ≤ 1048576) :
    Calls Try.prog 104 #[.slice A n c, .func (.func g) fa lb] w (AnsIxI w f xs) := by
  have HL := Lib.hid hl
  have HK := Lib.hid hT
  have HR := Lib.hid h
  have HH : Hid (HeadIxI w n f xs (.int .i64 0) w) := Lib.hid ⟨0, Nat.zero_le _, rfl, fun j hj => absurd hj (Nat.not_lt_zero _), Below.refl _ _⟩
  clear hT h hl
  go_enter Try.func104, Try.ntmps104
  go_wp2_with fail
  go_loopw [8] (fun i wr => HeadIxI w n f xs i wr) (fun i _ => n - (intOf i).toNat)
  case atStart => exact HH.out
  case round =>
    obtain ⟨k, hk, rfl, hlow, hb⟩ := hrel
    have HLOW := Lib.hid hlow
    clear hlow HH
    by_cases hlt : k < n
    · have hkD : k < xs.length := by rw [HL.out]; exact hlt
      obtain ⟨b, off, x, rfl, hbB, hx0, ex⟩ := HR.out.seg.spot hlt
      have hx : wr.cell? ⟨b, off + k, none⟩ = some (.int .i64 x) := (hb.cell (p := ⟨b, off + k, none⟩) hbB).trans hx0
      have hcall := HK.out wr x hb (mem_at hkD ex.out)
      obtain ⟨v, hv⟩ : ∃ v, f x = v := ⟨_, rfl⟩
      rw [hv] at hcall
      have HV := Lib.hid hv
      have HC := Lib.hid hcall
      have i0 : (0 : Int) ≤ (k : Int) := by omega
      have i1 : (k : Int) < (n : Int) := by omega
      clear hv hcall
      cases v with
      | true =>
        go_wp2_with (first
          | (go_at_fn g; refine HC.out.mono ?_; rintro e w1 ⟨rfl, bb⟩))
        have F : AnsIxI w f xs (.returned (.int .i64 (k : Int))) w1 := ⟨k, rfl, by omega, by omega, by rw [decide_eq_true (by omega)]; exact (any_of hkD ex.out HV.out).symm, next_trans hb bb⟩
        have HF := Lib.hid F
        clear F bb hb HC
        go_wp2
        go_ret
        exact HF.out
      | false =>
        go_wp2_with (first
          | (go_at_fn g; refine HC.out.mono ?_; rintro e w1 ⟨rfl, bb⟩))
        have S1 : HeadIxI w n f xs (.int .i64 ((k : Int) + 1)) w1 := ⟨k + 1, hlt, by simp, fun j hj => by
          by_cases e : j = k
          · rw [e, ex.out]; exact HV.out
          · exact HLOW.out j (by omega), next_trans hb bb⟩
        have HS1 := Lib.hid S1
        clear S1 bb hb HC
        go_wp2
        go_roundw
        case rel => exact HS1.out
        case measure => simp [intOf]; omega
    · have F : AnsIxI w f xs (.returned (.int .i64 (-1))) wr := ⟨-1, rfl, by omega, by omega, (none_of (fun j hj => HLOW.out j (by rw [HL.out] at hj; omega))).symm, hb⟩
      have HF := Lib.hid F
      clear F hb
      go_wp2
      go_ret
      exact HF.out
theorem containsFuncI (g : Nat) (fa lb : Array Value) (eg : ∀ args w, (callFunc g args).run Try.prog w = .ok (.enter g args) w) (f : Int → Bool) (A : Option Addr) (n c : Nat) (xs : List Int) (w : World) (hT : TestsI g fa lb w xs f)
    (h : Rd w w.heap.size sI [.slice A n c] xs) (hl : xs.length = n) (hn : n ≤ 1048576) :
    Calls Try.prog 68 #[.slice A n c, .func (.func g) fa lb] w (AnsB w (xs.any f)) := by
  have L := Lib.hid (indexFuncI g fa lb eg f A n c xs w hT h hl hn)
  clear h hl hT
  go_enter Try.func68, Try.ntmps68
  go_wp2_with fail
  refine L.out.mono ?_
  rintro e w' ⟨z, rfl, h1, h2, hz, bb⟩
  have HZ := Lib.hid hz
  have HB := Lib.hid bb
  clear hz L bb
  go_wp2
  go_ret
  exact ⟨by rw [← HZ.out]; rfl, HB.out⟩

/-- function g tests f on what lies in xs, as long as what lies in w lies -/
def TestsRule (g : Nat) (fa lb : Array Value) (w : World) (xs : List (Dat sRule)) (f : Dat sRule → Bool) : Prop := ∀ (W : World) (l r : Value) (x : Dat sRule), Below w.heap.size w W → x ∈ xs → Rd W W.heap.size sRule [l, r] x → Calls Try.prog g (fa ++ #[.agg #[l, r]] ++ lb) W (AnsB W (f x))
def AnsIxRule (w : World) (f : Dat sRule → Bool) (xs : List (Dat sRule)) (e : Ending) (w' : World) : Prop := ∃ z : Int, e = .returned (.int .i64 z) ∧ -1 ≤ z ∧ z ≤ 1048576 ∧ decide (0 ≤ z) = xs.any f ∧ Below w.heap.size w w'
def HeadIxRule (w : World) (n : Nat) (f : Dat sRule → Bool) (xs : List (Dat sRule)) (i : Value) (wr : World) : Prop := ∃ k : Nat, k ≤ n ∧ i = .int .i64 k ∧ (∀ j, j < k → f (xs.getD j (dft sRule)) = false) ∧ Below w.heap.size w wr

set_option maxHeartbeats 2000000 in
theorem indexFuncRule (g : Nat) (fa lb : Array Value) (eg : ∀ args w, (callFunc g args).run Try.prog w = .ok (.enter g args) w) (f : Dat sRule → Bool) (A : Option Addr) (n c : Nat) (xs : List (Dat sRule)) (w : World) (hT : TestsRule g fa lb w xs f)
    (h : Rd w w.heap.size sRuleS [.slice A n c] xs) (hl : xs.length = n) (hn : n ≤ 1048576) :
    Calls Try.prog 123 #[.slice A n c, .func (.func g) fa lb] w (AnsIxRule w f xs) := by
  have HL := Lib.hid hl
  have HK := Lib.hid hT
  have HR := Lib.hid h
  have HH : Hid (HeadIxRule w n f xs (.int .i64 0) w) := Lib.hid ⟨0, Nat.zero_le _, rfl, fun j hj => absurd hj (Nat.not_lt_zero _), Below.refl _ _⟩
  clear hT h hl
  go_enter Try.func123, Try.ntmps123
  go_wp2_with fail
  go_loopw [8] (fun i wr => HeadIxRule w n f xs i wr) (fun i _ => n - (intOf i).toNat)
  case atStart => exact HH.out
  case round =>
    obtain ⟨k, hk, rfl, hlow, hb⟩ := hrel
    have HLOW := Lib.hid hlow
    clear hlow HH
    by_cases hlt : k < n
    · have hkD : k < xs.length := by rw [HL.out]; exact hlt
      obtain ⟨b, off, n2, c2, es, ev, -, -, hbB, hel, hp, hr⟩ := HR.out.elem hkD
      injection ev with e1 e2 e3
      subst e1 e2 e3
      obtain ⟨l, r, rfl⟩ := cells_Rule hr
      have hpw := hp.keep (w' := wr) (fun p hp => hb.cell (p := p) (by rw [hp]; exact hbB))
      have c0 : wr.cell? ⟨b, off + k * 2, none⟩ = some l := hpw 0 (by simp)
      have c1 : wr.cell? ⟨b, off + k * 2 + 1, none⟩ = some r := hpw 1 (by simp)
      obtain ⟨x, hx⟩ : ∃ x, xs.getD k (dft sRule) = x := ⟨_, rfl⟩
      have ex := Lib.hid hx
      rw [hx] at hr
      have hcall := HK.out wr l r x hb (mem_at hkD hx) ((hr.below hb).more hb.size)
      clear hpw hp hel hr
      clear hx
      obtain ⟨v, hv⟩ : ∃ v, f x = v := ⟨_, rfl⟩
      rw [hv] at hcall
      have HV := Lib.hid hv
      have HC := Lib.hid hcall
      have i0 : (0 : Int) ≤ (k : Int) := by omega
      have i1 : (k : Int) < (n : Int) := by omega
      clear hv hcall
      cases v with
      | true =>
        go_wp2_with (first
          | (go_at_fn g; refine HC.out.mono ?_; rintro e w1 ⟨rfl, bb⟩))
        have F : AnsIxRule w f xs (.returned (.int .i64 (k : Int))) w1 := ⟨k, rfl, by omega, by omega, by rw [decide_eq_true (by omega)]; exact (any_of hkD ex.out HV.out).symm, next_trans hb bb⟩
        have HF := Lib.hid F
        clear F bb hb HC
        go_wp2
        go_ret
        exact HF.out
      | false =>
        go_wp2_with (first
          | (go_at_fn g; refine HC.out.mono ?_; rintro e w1 ⟨rfl, bb⟩))
        have S1 : HeadIxRule w n f xs (.int .i64 ((k : Int) + 1)) w1 := ⟨k + 1, hlt, by simp, fun j hj => by
          by_cases e : j = k
          · rw [e, ex.out]; exact HV.out
          · exact HLOW.out j (by omega), next_trans hb bb⟩
        have HS1 := Lib.hid S1
        clear S1 bb hb HC
        go_wp2
        go_roundw
        case rel => exact HS1.out
        case measure => simp [intOf]; omega
    · have F : AnsIxRule w f xs (.returned (.int .i64 (-1))) wr := ⟨-1, rfl, by omega, by omega, (none_of (fun j hj => HLOW.out j (by rw [HL.out] at hj; omega))).symm, hb⟩
      have HF := Lib.hid F
      clear F hb
      go_wp2
      go_ret
      exact HF.out
theorem containsFuncRule (g : Nat) (fa lb : Array Value) (eg : ∀ args w, (callFunc g args).run Try.prog w = .ok (.enter g args) w) (f : Dat sRule → Bool) (A : Option Addr) (n c : Nat) (xs : List (Dat sRule)) (w : World) (hT : TestsRule g fa lb w xs f)
    (h : Rd w w.heap.size sRuleS [.slice A n c] xs) (hl : xs.length = n) (hn : n ≤ 1048576) :
    Calls Try.prog 107 #[.slice A n c, .func (.func g) fa lb] w (AnsB w (xs.any f)) := by
  have L := Lib.hid (indexFuncRule g fa lb eg f A n c xs w hT h hl hn)
  clear h hl hT
  go_enter Try.func107, Try.ntmps107
  go_wp2_with fail
  refine L.out.mono ?_
  rintro e w' ⟨z, rfl, h1, h2, hz, bb⟩
  have HZ := Lib.hid hz
  have HB := Lib.hid bb
  clear hz L bb
  go_wp2
  go_ret
  exact ⟨by rw [← HZ.out]; rfl, HB.out⟩

end Go.Proofs.Ytdkjafjphgcbjaa.anyR
end

section
/-
  CONTRACTS: slices.Contains at []int64, impl.RuleOk and its closure, impl.systemOf, system.some, system.defines and its closure. Conditions: the arguments read as data ('Rd'), at most 1048576 numbers. By an AI agent.
-/
namespace Go.Proofs.Ytdkjafjphgcbjaa.ruleImpl
open Go.RowKit Go.Proofs.Ytdkjafjphgcbjaa.base Go.Proofs.Ytdkjafjphgcbjaa.ints Go.Proofs.Ytdkjafjphgcbjaa.sig Go.Proofs.Ytdkjafjphgcbjaa.term Go.Proofs.Ytdkjafjphgcbjaa.termOk Go.Proofs.Ytdkjafjphgcbjaa.marks Go.Proofs.Ytdkjafjphgcbjaa.app Go.Proofs.Ytdkjafjphgcbjaa.sym Go.Proofs.Ytdkjafjphgcbjaa.segs Go.Proofs.Ytdkjafjphgcbjaa.termFacts Go.Proofs.Ytdkjafjphgcbjaa.varsMath Go.Proofs.Ytdkjafjphgcbjaa.varsOf Go.Proofs.Ytdkjafjphgcbjaa.rename Go.Proofs.Ytdkjafjphgcbjaa.same Go.Proofs.Ytdkjafjphgcbjaa.count Go.Proofs.Ytdkjafjphgcbjaa.linear Go.Proofs.Ytdkjafjphgcbjaa.shape Go.Proofs.Ytdkjafjphgcbjaa.kindsR Go.Proofs.Ytdkjafjphgcbjaa.ruleMath Go.Proofs.Ytdkjafjphgcbjaa.ruleSpec Go.Proofs.Ytdkjafjphgcbjaa.anyR
set_option maxRecDepth 100000

theorem containsI (A : Option Addr) (n c : Nat) (xs : List Int) (x : Int) (w : World) (h : Seg w w.heap.size A n xs) (hn : n ≤ 1048576) :
    Calls Try.prog 67 #[.slice A n c, .int .i64 x] w fun e w' => w = w' ∧ e = .returned (.bool (decide (x ∈ xs))) := by
  have L := Lib.hid (indexOf A n c xs x w h hn)
  clear h
  go_enter Try.func67, Try.ntmps67
  go_wp2_with fail
  refine L.out.mono ?_
  rintro e w' ⟨rfl, rfl⟩
  have E : decide (0 ≤ indexI xs x) = decide (x ∈ xs) := decide_eq_decide.2 (by unfold indexI; split <;> simp_all)
  have HE := Lib.hid E
  clear L E
  generalize indexI xs x = z at *
  go_wp2
  go_ret
  exact ⟨rfl, by rw [← HE.out]; rfl⟩

set_option maxHeartbeats 1000000 in
/-- the closure of RuleOk: a variable that L lacks -/
theorem ruleNew (g : Nat) (A1 : Option Addr) (n1 c1 : Nat) (r : Value) (t : List Int) (x : Int) (W : World) (hr : Row W g 35 #[.slice A1 n1 c1, r]) (h : Seg W W.heap.size A1 n1 t) (hn : n1 ≤ 1048576) :
    Calls Try.prog 66 #[.int .i64 x, .pointer (some ⟨g, 0, none⟩)] W (AnsB W (newB t x)) := by
  have L := Lib.hid (containsI A1 n1 c1 t x W h hn)
  have c0 : W.cell? ⟨g, 0, none⟩ = some (.slice A1 n1 c1) := hr.cell 0
  clear h hr
  by_cases hx : x < 0
  · have hd : decide (x < 0) = true := decide_eq_true hx
    have E : (!decide (x ∈ t)) = newB t x := by unfold newB; by_cases h : x ∈ t <;> simp [h, hx]
    have HE := Lib.hid E
    clear E
    go_enter Try.func66, Try.ntmps66
    go_wp2_with fail
    refine L.out.mono ?_
    rintro e w' ⟨rfl, rfl⟩
    have F : AnsB W (newB t x) (.returned (.bool (!decide (x ∈ t)))) W := ⟨by rw [HE.out], Below.refl _ _⟩
    have HF := Lib.hid F
    clear L F
    generalize decide (x ∈ t) = z at *
    go_wp2
    go_ret
    exact HF.out
  · have hd : decide (x < 0) = false := decide_eq_false hx
    have F : AnsB W (newB t x) (.returned (.bool false)) W := ⟨by unfold newB; rw [decide_eq_false (fun h => hx h.1)], Below.refl _ _⟩
    have HF := Lib.hid F
    clear F L
    go_enter Try.func66, Try.ntmps66
    go_wp2
    go_ret
    exact HF.out

theorem rule_all {sg : List Int} {d : Rl} (h1 : termOkB sg d.1 = true) (h2 : termOkB sg d.2 = true) (h0 : ¬ hd d.1 < 0) : ruleOkB sg d = !d.2.any (newB d.1) := by
  unfold ruleOkB; rw [h1, h2, decide_eq_false h0]; rfl

set_option maxHeartbeats 4000000 in
theorem implRuleOk (a l r : Value) (sg : List Int) (d : Dat sRule) (w : World) (h : Rd w w.heap.size sI [a] sg) (h' : Rd w w.heap.size sRule [l, r] d) (hz : sz sI sg ≤ 1048576) (hz' : sz sRule d ≤ 1048576) :
    Calls Try.prog 25 #[.agg #[a], .agg #[l, r]] w (AnsB w (ruleOkB sg d)) := by
  have g1 := (parts_Rule h').2
  obtain ⟨A, n, c, rfl, hs, hc⟩ := rd_ints.1 h
  have hn := len_ints hs.1 hz
  obtain ⟨A1, n1, c1, A2, n2, c2, rfl, rfl, s1, k1, s2, k2, hn1, hn2⟩ := rd_rule h' hz'
  obtain ⟨W, hW, rA, rR, bel⟩ := box2 w 26 35 #[.slice A n c] #[.slice A1 n1 c1, .slice A2 n2 c2]
  have HW := Lib.hid hW
  have HL1 := Lib.hid s1.1
  have HL2 := Lib.hid s2.1
  have L1 := Lib.hid (implTermOk A A1 n c n1 c1 sg d.1 W (hs.next bel) (s1.next bel) hn hn1)
  have L2 := Lib.hid (fun (w1 : World) (bb : Below w.heap.size w w1) => implTermOk A A2 n c n2 c2 sg d.2 w1 (hs.next bb) (s2.next bb) hn hn2)
  have LC := Lib.hid (fun (w1 : World) (bb : Below w.heap.size w w1) (hr : Row w1 (w.heap.size + 1) 35 #[.slice A1 n1 c1, .slice A2 n2 c2]) => containsFuncI 66 #[] #[.pointer (some ⟨w.heap.size + 1, 0, none⟩)] (fun _ _ => rfl) (newB d.1) A2 n2 c2 d.2 w1
    (fun W x hW _ => ruleNew (w.heap.size + 1) A1 n1 c1 (.slice A2 n2 c2) d.1 x W (hr.next hW) (s1.next (next_trans bb hW)) hn1) (g1.next bb) s2.1 hn2)
  clear hW h h' hz hz' hs hc k1 k2 g1
  cases ok1 : termOkB sg d.1 with
  | false =>
    have HS := Lib.hid ok1
    clear ok1 s1 s2
    go_enter Try.func25, Try.ntmps25
    go_wp2_with fail
    rw [← HW.out]
    refine L1.out.mono ?_
    rintro e w1 ⟨he, bb⟩
    rw [HS.out] at he
    subst he
    have F := Lib.hid (ansB (b := ruleOkB sg d) (a := false) (by rw [rule_noL HS.out]) (next_trans bel bb))
    clear bb bel rA rR
    go_wp2
    go_ret
    exact F.out
  | true =>
    have hp1 := (term_len ok1).1
    rw [s1.1] at hp1
    obtain ⟨b, off, x, rfl, hbB, hx, ex⟩ := s1.spot (k := 0) (by omega)
    have HS := Lib.hid ok1
    have EX := Lib.hid (show hd d.1 = x from ex.out)
    have i0 : (0 : Int) < (n1 : Int) := by omega
    clear ok1 ex
    go_enter Try.func25, Try.ntmps25
    go_wp2_with fail
    rw [← HW.out]
    refine L1.out.mono ?_
    rintro e w1 ⟨he, bb⟩
    rw [HS.out] at he
    subst he
    replace rA := rA.next bb
    replace rR := rR.next bb
    replace bel := next_trans bel bb
    have cA : w1.cell? ⟨w.heap.size, 0, none⟩ = some (.slice A n c) := rA.cell 0
    have cR : w1.cell? ⟨w.heap.size + 1, 1, none⟩ = some (.slice A2 n2 c2) := rR.cell 1
    clear bb L1
    go_wp2_with fail
    refine (L2.out w1 bel).mono ?_
    cases ok2 : termOkB sg d.2 with
    | false =>
      have HS2 := Lib.hid ok2
      clear ok2
      rintro e w2 ⟨he, bb⟩
      rw [HS2.out] at he
      subst he
      have F := Lib.hid (ansB (b := ruleOkB sg d) (a := false) (by rw [rule_noR HS2.out]) (next_trans bel bb))
      clear bb bel rA rR cA cR s1 s2
      go_wp2
      go_ret
      exact F.out
    | true =>
      have HS2 := Lib.hid ok2
      clear ok2
      rintro e w2 ⟨he, bb⟩
      rw [HS2.out] at he
      subst he
      replace rR := rR.next bb
      replace bel := next_trans bel bb
      have cR0 : w2.cell? ⟨w.heap.size + 1, 0, none⟩ = some (.slice (some ⟨b, off, none⟩) n1 c1) := rR.cell 0
      have cX : w2.cell? ⟨b, off, none⟩ = some (.int .i64 x) := by have := (bel.cell (p := ⟨b, off + 0, none⟩) hbB).trans hx; simpa using this
      clear bb rA cA cR L2
      by_cases hneg : x < 0
      · have F := Lib.hid (ansB (b := ruleOkB sg d) (a := false) (by rw [rule_var (by rw [EX.out]; exact hneg)]) bel)
        have hdx : decide (x < 0) = true := decide_eq_true hneg
        clear bel rR s1 s2 LC
        go_wp2
        go_ret
        exact F.out
      · have hdx : decide (x < 0) = false := decide_eq_false hneg
        have cR1 : w2.cell? ⟨w.heap.size + 1, 1, none⟩ = some (.slice A2 n2 c2) := rR.cell 1
        have LC2 := Lib.hid (LC.out w2 bel rR)
        have hmf : ∀ (fn : Fn) (first cap : Array Value) (w : World), (Instr.makeFunc fn first cap).run Try.prog w = .ok (.func fn first cap) w := fun _ _ _ _ => rfl
        have E := Lib.hid (rule_all HS.out HS2.out (by rw [EX.out]; exact hneg))
        clear LC s1 s2
        go_wp2_with fail
        refine LC2.out.mono ?_
        obtain ⟨z, hzz⟩ : ∃ z, d.2.any (newB d.1) = z := ⟨_, rfl⟩
        rw [hzz] at E
        rintro e w3 ⟨he, bb⟩
        rw [hzz] at he
        subst he
        have F := Lib.hid (ansB (b := ruleOkB sg d) (a := !z) E.out.symm (next_trans bel bb))
        clear bb bel rR cR0 cR1 cX LC2 E hzz
        go_wp2
        go_ret
        exact F.out
end Go.Proofs.Ytdkjafjphgcbjaa.ruleImpl
end

section
/-
  CONTRACTS: impl.systemOf, SystemOk, system.some, defines (and its closure), nests, collapses, Sig.repeats, Sig.duplicates (and its closure). Conditions: the arguments read as data ('Rd'), at most 1048576 numbers. By an AI agent.
-/
namespace Go.Proofs.Ytdkjafjphgcbjaa.ruleImpl
open Go.RowKit Go.Proofs.Ytdkjafjphgcbjaa.base Go.Proofs.Ytdkjafjphgcbjaa.ints Go.Proofs.Ytdkjafjphgcbjaa.sig Go.Proofs.Ytdkjafjphgcbjaa.term Go.Proofs.Ytdkjafjphgcbjaa.termOk Go.Proofs.Ytdkjafjphgcbjaa.marks Go.Proofs.Ytdkjafjphgcbjaa.app Go.Proofs.Ytdkjafjphgcbjaa.sym Go.Proofs.Ytdkjafjphgcbjaa.segs Go.Proofs.Ytdkjafjphgcbjaa.termFacts Go.Proofs.Ytdkjafjphgcbjaa.varsMath Go.Proofs.Ytdkjafjphgcbjaa.varsOf Go.Proofs.Ytdkjafjphgcbjaa.rename Go.Proofs.Ytdkjafjphgcbjaa.same Go.Proofs.Ytdkjafjphgcbjaa.count Go.Proofs.Ytdkjafjphgcbjaa.linear Go.Proofs.Ytdkjafjphgcbjaa.shape Go.Proofs.Ytdkjafjphgcbjaa.kindsR Go.Proofs.Ytdkjafjphgcbjaa.ruleMath Go.Proofs.Ytdkjafjphgcbjaa.ruleSpec Go.Proofs.Ytdkjafjphgcbjaa.anyR
set_option maxRecDepth 100000

/-- what systemOf answers -/
def sysV (a v : Value) (ok : Bool) : Value := if ok = true then .agg #[a, v] else .agg #[.slice none 0 0, .slice none 0 0]
def AnsSys (w : World) (a v : Value) (ok : Bool) (e : Ending) (w' : World) : Prop := e = .returned (.tuple #[sysV a v ok, .bool ok]) ∧ Below w.heap.size w w'
def HeadSO (w : World) (T T' : TypeId) (cs cs' : Array Value) (n : Nat) (f : Rl → Bool) (rs : List Rl) (i : Value) (wr : World) : Prop :=
  ∃ k : Nat, k ≤ n ∧ i = .int .i64 k ∧ (∀ j, j < k → f (rs.getD j ([], [])) = true) ∧ Row wr w.heap.size T cs ∧ Row wr (w.heap.size + 1) T' cs' ∧ Below w.heap.size w wr
theorem headSO_step {w wr : World} {T T' : TypeId} {cs cs' : Array Value} {n k : Nat} {f : Rl → Bool} {rs : List Rl} {x : Rl} (hk : k < n) (hlow : ∀ j, j < k → f (rs.getD j ([], [])) = true) (ex : Hid (rs.getD k ([], []) = x)) (h : f x = true) (hr : Row wr w.heap.size T cs) (hr' : Row wr (w.heap.size + 1) T' cs') (hb : Below w.heap.size w wr) : HeadSO w T T' cs cs' n f rs (.int .i64 ((k : Int) + 1)) wr :=
  ⟨k + 1, hk, by simp, fun j hj => by
    by_cases e : j = k
    · subst e; rw [ex.out]; exact h
    · exact hlow j (by omega), hr, hr', hb⟩

set_option maxHeartbeats 8000000 in
theorem systemOf (a v : Value) (d : Dat sSystem) (w : World) (h : Rd w w.heap.size sSystem [a, v] d) (hz : sz sSystem d ≤ 1048576) :
    Calls Try.prog 58 #[.agg #[a, v]] w (AnsSys w a v (sysOkB d.1 d.2)) := by
  have hzs := Lib.hid (sys_szs hz)
  obtain ⟨A, n, c, V, m, cv, rfl, rfl, hs, hc, hcv, hm, hn, hm1, hrs, hsg, hE⟩ := rd_sys h hz
  obtain ⟨W, hW, rA, rR, bel⟩ := box2 w 29 64 #[.slice A n c, .slice V m cv] #[.slice none 0 0, .slice none 0 0]
  have HW := Lib.hid hW
  have HM := Lib.hid hm
  have HE := Lib.hid hE
  have HR := Lib.hid hrs
  have L1 := Lib.hid (implSigOk A n c d.1 W (hs.next bel) hn)
  have LR := Lib.hid (fun (w1 : World) (l r : Value) (x : Dat sRule) (bb : Below w.heap.size w w1) (hx : Rd w1 w1.heap.size sRule [l, r] x) (hzx : sz sRule x ≤ 1048576) => implRuleOk (.slice A n c) l r d.1 x w1 (hsg.next bb) hx hzs.out.1 hzx)
  clear hW h hz hs hc hcv hm hE hrs hsg
  cases ok1 : sigOkB d.1 with
  | false =>
    have HS := Lib.hid ok1
    clear ok1
    go_enter Try.func58, Try.ntmps58
    go_wp2_with fail
    rw [← HW.out]
    refine L1.out.mono ?_
    rintro e w1 ⟨he, bb⟩
    rw [HS.out] at he
    subst he
    replace rR := rR.next bb
    replace bel := next_trans bel bb
    have y0 : w1.cell? ⟨w.heap.size + 1, 0, none⟩ = some (.slice none 0 0) := rR.cell 0
    have y1 : w1.cell? ⟨w.heap.size + 1, 1, none⟩ = some (.slice none 0 0) := rR.cell 1
    have f0 := rR.free 0
    have f1 := rR.free 1
    have r1 := rR.put 0 (.slice none 0 0)
    have y2 : (w1.setCell ⟨w.heap.size + 1, 0, none⟩ (.slice none 0 0)).cell? ⟨w.heap.size + 1, 1, none⟩ = some (.slice none 0 0) := r1.cell 1
    have f2 := r1.free 1
    have r2 := r1.put 1 (.slice none 0 0)
    have u0 : ((w1.setCell ⟨w.heap.size + 1, 0, none⟩ (.slice none 0 0)).setCell ⟨w.heap.size + 1, 1, none⟩ (.slice none 0 0)).cell? ⟨w.heap.size + 1, 0, none⟩ = some (.slice none 0 0) := r2.cell 0
    have u1 : ((w1.setCell ⟨w.heap.size + 1, 0, none⟩ (.slice none 0 0)).setCell ⟨w.heap.size + 1, 1, none⟩ (.slice none 0 0)).cell? ⟨w.heap.size + 1, 1, none⟩ = some (.slice none 0 0) := r2.cell 1
    have F : AnsSys w (.slice A n c) (.slice V m cv) (sysOkB d.1 d.2) (.returned (.tuple #[.agg #[.slice none 0 0, .slice none 0 0], .bool false])) ((w1.setCell ⟨w.heap.size + 1, 0, none⟩ (.slice none 0 0)).setCell ⟨w.heap.size + 1, 1, none⟩ (.slice none 0 0)) :=
      ⟨by rw [sys_sig HS.out]; rfl, (bel.setCell (by simp) _).setCell (by simp) _⟩
    have HF := Lib.hid F
    clear F bel rA rR bb r1 r2 LR
    go_wp2
    exact bodyPost_ret (v := .tuple #[.agg #[.slice none 0 0, .slice none 0 0], .bool false]) (by simp [results, Try.results58, go_sem, u0, u1]) rfl HF.out
  | true =>
    have HS := Lib.hid ok1
    clear ok1
    go_enter Try.func58, Try.ntmps58
    go_wp2_with fail
    rw [← HW.out]
    refine L1.out.mono ?_
    rintro e w1 ⟨he, bb⟩
    rw [HS.out] at he
    subst he
    replace rA := rA.next bb
    replace rR := rR.next bb
    replace bel := next_trans bel bb
    have cR : w1.cell? ⟨w.heap.size, 1, none⟩ = some (.slice V m cv) := rA.cell 1
    clear bb L1
    by_cases h12 : m ≤ 12
    · have H0 : Hid (HeadSO w 29 64 #[.slice A n c, .slice V m cv] #[.slice none 0 0, .slice none 0 0] m (ruleOkB d.1) d.2 (.int .i64 0) w1) := Lib.hid ⟨0, Nat.zero_le _, rfl, fun j hj => absurd hj (Nat.not_lt_zero _), rA, rR, bel⟩
      clear rA rR bel
      go_wp2_with fail
      go_loopw [20] (fun i wr => HeadSO w 29 64 #[.slice A n c, .slice V m cv] #[.slice none 0 0, .slice none 0 0] m (ruleOkB d.1) d.2 i wr) (fun i _ => m - (intOf i).toNat)
      case atStart => exact H0.out
      case round =>
        obtain ⟨k, hk, rfl, hlow, rr, rs, hb⟩ := hrel
        have HLOW := Lib.hid hlow
        clear hlow H0 cR
        have cA0 : wr.cell? ⟨w.heap.size, 0, none⟩ = some (.slice A n c) := rr.cell 0
        have cA1 : wr.cell? ⟨w.heap.size, 1, none⟩ = some (.slice V m cv) := rr.cell 1
        by_cases hlt : k < m
        · obtain ⟨b, off, l, r, x, rfl, hbB, ex, hc0, hc1, hx⟩ := rd_at HR.out hb HM.out hlt
          have hzx : sz sRule x ≤ 1048576 := by have := HE.out k hlt; rw [ex.out] at this; exact this
          obtain ⟨A1, n1, c1, A2, n2, c2, rfl, rfl, s1, k1, s2, k2, hn1, hn2⟩ := rd_rule hx hzx
          obtain ⟨w2, hw2⟩ : ∃ x, x = wr.alloc (.cells #[.slice A1 n1 c1, .slice A2 n2 c2] 35) := ⟨_, rfl⟩
          have bb : Below wr.heap.size wr w2 := by rw [hw2]; exact (Below.refl _ _).alloc (Nat.le_refl _) _
          have rx : Row w2 wr.heap.size 35 #[.slice A1 n1 c1, .slice A2 n2 c2] := by rw [hw2]; exact Row.new wr 35 #[.slice A1 n1 c1, .slice A2 n2 c2]
          have rr2 := rr.next bb
          have rs2 := rs.next bb
          have hb2 := next_trans hb bb
          have L := Lib.hid (LR.out w2 (.slice A1 n1 c1) (.slice A2 n2 c2) x hb2 ((hx.more hb.size).next bb) hzx)
          have x0 : w2.cell? ⟨wr.heap.size, 0, none⟩ = some (.slice A1 n1 c1) := rx.cell 0
          have x1 : w2.cell? ⟨wr.heap.size, 1, none⟩ = some (.slice A2 n2 c2) := rx.cell 1
          have x2 : w2.cell? ⟨w.heap.size, 0, none⟩ = some (.slice A n c) := rr2.cell 0
          have X0 := x0
          have X1 := x1
          have X2 := x2
          rw [hw2] at X0 X1 X2
          have HW2 := Lib.hid hw2
          have i0 : (0 : Int) ≤ (k : Int) := by omega
          have i1 : (k : Int) < (m : Int) := by omega
          clear hx hzx s1 s2 k1 k2 rr rs hb bb rx hw2
          go_wp2_with fail
          rw [← HW2.out]
          refine L.out.mono ?_
          cases ok : ruleOkB d.1 x with
          | false =>
            have HO := Lib.hid ok
            clear ok
            rintro e w3 ⟨he, bb⟩
            subst he
            have rR := rs2.next bb
            have bel := next_trans hb2 bb
            have y0 : w3.cell? ⟨w.heap.size + 1, 0, none⟩ = some (.slice none 0 0) := rR.cell 0
            have y1 : w3.cell? ⟨w.heap.size + 1, 1, none⟩ = some (.slice none 0 0) := rR.cell 1
            have f0 := rR.free 0
            have f1 := rR.free 1
            have r1 := rR.put 0 (.slice none 0 0)
            have y2 : (w3.setCell ⟨w.heap.size + 1, 0, none⟩ (.slice none 0 0)).cell? ⟨w.heap.size + 1, 1, none⟩ = some (.slice none 0 0) := r1.cell 1
            have f2 := r1.free 1
            have r2 := r1.put 1 (.slice none 0 0)
            have u0 : ((w3.setCell ⟨w.heap.size + 1, 0, none⟩ (.slice none 0 0)).setCell ⟨w.heap.size + 1, 1, none⟩ (.slice none 0 0)).cell? ⟨w.heap.size + 1, 0, none⟩ = some (.slice none 0 0) := r2.cell 0
            have u1 : ((w3.setCell ⟨w.heap.size + 1, 0, none⟩ (.slice none 0 0)).setCell ⟨w.heap.size + 1, 1, none⟩ (.slice none 0 0)).cell? ⟨w.heap.size + 1, 1, none⟩ = some (.slice none 0 0) := r2.cell 1
            have F : AnsSys w (.slice A n c) (.slice (some ⟨b, off, none⟩) m cv) (sysOkB d.1 d.2) (.returned (.tuple #[.agg #[.slice none 0 0, .slice none 0 0], .bool false])) ((w3.setCell ⟨w.heap.size + 1, 0, none⟩ (.slice none 0 0)).setCell ⟨w.heap.size + 1, 1, none⟩ (.slice none 0 0)) :=
              ⟨by rw [sys_bad (k := k) (by rw [HM.out]; exact hlt) (by rw [ex.out]; exact HO.out)]; rfl, (bel.setCell (by simp) _).setCell (by simp) _⟩
            have HF := Lib.hid F
            clear F bel rR bb r1 r2 LR rr2 rs2 hb2 x0 x1 x2 X0 X1 X2 cA0 cA1 hc0 hc1 L
            go_wp2
            exact bodyPost_ret (v := .tuple #[.agg #[.slice none 0 0, .slice none 0 0], .bool false]) (by simp [results, Try.results58, go_sem, u0, u1]) rfl HF.out
          | true =>
            have HO := Lib.hid ok
            clear ok
            rintro e w3 ⟨he, bb⟩
            subst he
            have F := Lib.hid (headSO_step (f := ruleOkB d.1) (w := w) hlt HLOW.out ex HO.out (rr2.next bb) (rs2.next bb) (next_trans hb2 bb))
            clear bb rr2 rs2 hb2 L x0 x1 x2 X0 X1 X2 cA0 cA1 hc0 hc1
            go_wp2
            go_roundw
            case rel => exact F.out
            case measure => simp [intOf]; omega
        · have OK := Lib.hid (show sysOkB d.1 d.2 = true from sys_good HS.out (by rw [HM.out]; exact h12) (fun j hj => HLOW.out j (by rw [HM.out] at hj; omega)))
          have y0 : wr.cell? ⟨w.heap.size + 1, 0, none⟩ = some (.slice none 0 0) := rs.cell 0
          have f0 := rs.free 0
          have r1 := rs.put 0 (.slice A n c)
          have y2 : (wr.setCell ⟨w.heap.size + 1, 0, none⟩ (.slice A n c)).cell? ⟨w.heap.size + 1, 1, none⟩ = some (.slice none 0 0) := r1.cell 1
          have f2 := r1.free 1
          have r2 := r1.put 1 (.slice V m cv)
          have u0 : ((wr.setCell ⟨w.heap.size + 1, 0, none⟩ (.slice A n c)).setCell ⟨w.heap.size + 1, 1, none⟩ (.slice V m cv)).cell? ⟨w.heap.size + 1, 0, none⟩ = some (.slice A n c) := r2.cell 0
          have u1 : ((wr.setCell ⟨w.heap.size + 1, 0, none⟩ (.slice A n c)).setCell ⟨w.heap.size + 1, 1, none⟩ (.slice V m cv)).cell? ⟨w.heap.size + 1, 1, none⟩ = some (.slice V m cv) := r2.cell 1
          have F : AnsSys w (.slice A n c) (.slice V m cv) (sysOkB d.1 d.2) (.returned (.tuple #[.agg #[.slice A n c, .slice V m cv], .bool true])) ((wr.setCell ⟨w.heap.size + 1, 0, none⟩ (.slice A n c)).setCell ⟨w.heap.size + 1, 1, none⟩ (.slice V m cv)) :=
            ⟨by rw [OK.out]; rfl, (hb.setCell (by simp) _).setCell (by simp) _⟩
          have HF := Lib.hid F
          clear F hb rr rs r1 r2 LR
          go_wp2
          exact bodyPost_ret (v := .tuple #[.agg #[.slice A n c, .slice V m cv], .bool true]) (by simp [results, Try.results58, go_sem, u0, u1]) rfl HF.out
    · have i1 : (12 : Int) < (m : Int) := by omega
      have y0 : w1.cell? ⟨w.heap.size + 1, 0, none⟩ = some (.slice none 0 0) := rR.cell 0
      have y1 : w1.cell? ⟨w.heap.size + 1, 1, none⟩ = some (.slice none 0 0) := rR.cell 1
      have f0 := rR.free 0
      have f1 := rR.free 1
      have r1 := rR.put 0 (.slice none 0 0)
      have y2 : (w1.setCell ⟨w.heap.size + 1, 0, none⟩ (.slice none 0 0)).cell? ⟨w.heap.size + 1, 1, none⟩ = some (.slice none 0 0) := r1.cell 1
      have f2 := r1.free 1
      have r2 := r1.put 1 (.slice none 0 0)
      have u0 : ((w1.setCell ⟨w.heap.size + 1, 0, none⟩ (.slice none 0 0)).setCell ⟨w.heap.size + 1, 1, none⟩ (.slice none 0 0)).cell? ⟨w.heap.size + 1, 0, none⟩ = some (.slice none 0 0) := r2.cell 0
      have u1 : ((w1.setCell ⟨w.heap.size + 1, 0, none⟩ (.slice none 0 0)).setCell ⟨w.heap.size + 1, 1, none⟩ (.slice none 0 0)).cell? ⟨w.heap.size + 1, 1, none⟩ = some (.slice none 0 0) := r2.cell 1
      have F : AnsSys w (.slice A n c) (.slice V m cv) (sysOkB d.1 d.2) (.returned (.tuple #[.agg #[.slice none 0 0, .slice none 0 0], .bool false])) ((w1.setCell ⟨w.heap.size + 1, 0, none⟩ (.slice none 0 0)).setCell ⟨w.heap.size + 1, 1, none⟩ (.slice none 0 0)) :=
        ⟨by rw [sys_long HM.out h12]; rfl, (bel.setCell (by simp) _).setCell (by simp) _⟩
      have HF := Lib.hid F
      clear F bel rA rR r1 r2 LR
      go_wp2
      exact bodyPost_ret (v := .tuple #[.agg #[.slice none 0 0, .slice none 0 0], .bool false]) (by simp [results, Try.results58, go_sem, u0, u1]) rfl HF.out

set_option maxHeartbeats 2000000 in
theorem implSystemOk (a v : Value) (d : Dat sSystem) (w : World) (h : Rd w w.heap.size sSystem [a, v] d) (hz : sz sSystem d ≤ 1048576) :
    Calls Try.prog 22 #[.agg #[a, v]] w (AnsB w (sysOkB d.1 d.2)) := by
  obtain ⟨A, n, c, V, m, cv, rfl, rfl, -⟩ := rd_sys h hz
  obtain ⟨W, hW, rA, bel⟩ := box1 w 29 #[.slice A n c, .slice V m cv]
  have HW := Lib.hid hW
  have L := Lib.hid (systemOf _ _ d W (h.next bel) hz)
  clear hW h hz
  go_enter Try.func22, Try.ntmps22
  go_wp2_with fail
  rw [← HW.out]
  refine L.out.mono ?_
  obtain ⟨z, hzz⟩ : ∃ z, sysOkB d.1 d.2 = z := ⟨_, rfl⟩
  rw [hzz]
  have HO := Lib.hid hzz
  clear hzz
  cases z
  all_goals
    rintro e w1 ⟨rfl, bb⟩
    have F := Lib.hid (fun o => (next_trans bel bb).alloc (next_trans bel bb).size o)
    simp only [sysV, if_true, Bool.false_eq_true, if_false]
    clear bel bb rA L
    go_wp2
    go_ret
    exact ⟨by rw [HO.out]; rfl, F.out _⟩
end Go.Proofs.Ytdkjafjphgcbjaa.ruleImpl
end

section
/-
  CONTRACTS: impl's system.some, defines (and its closure), nests, symbols, collapses, Sig.repeats, Sig.duplicates (and its closure). Conditions: the arguments read as data ('Rd'), at most 1048576 numbers; no left side is empty where its head is read. By an AI agent.
-/
namespace Go.Proofs.Ytdkjafjphgcbjaa.ruleImpl
open Go.RowKit Go.Proofs.Ytdkjafjphgcbjaa.base Go.Proofs.Ytdkjafjphgcbjaa.ints Go.Proofs.Ytdkjafjphgcbjaa.sig Go.Proofs.Ytdkjafjphgcbjaa.term Go.Proofs.Ytdkjafjphgcbjaa.termOk Go.Proofs.Ytdkjafjphgcbjaa.marks Go.Proofs.Ytdkjafjphgcbjaa.app Go.Proofs.Ytdkjafjphgcbjaa.appAt Go.Proofs.Ytdkjafjphgcbjaa.sym Go.Proofs.Ytdkjafjphgcbjaa.segs Go.Proofs.Ytdkjafjphgcbjaa.termFacts Go.Proofs.Ytdkjafjphgcbjaa.varsMath Go.Proofs.Ytdkjafjphgcbjaa.varsOf Go.Proofs.Ytdkjafjphgcbjaa.rename Go.Proofs.Ytdkjafjphgcbjaa.same Go.Proofs.Ytdkjafjphgcbjaa.count Go.Proofs.Ytdkjafjphgcbjaa.linear Go.Proofs.Ytdkjafjphgcbjaa.shape Go.Proofs.Ytdkjafjphgcbjaa.kindsR Go.Proofs.Ytdkjafjphgcbjaa.ruleMath Go.Proofs.Ytdkjafjphgcbjaa.ruleSpec Go.Proofs.Ytdkjafjphgcbjaa.anyR
set_option maxRecDepth 100000

theorem sz_mem {rs : List Rl} {x : Rl} (h : sz sRuleS rs ≤ 1048576) (hx : x ∈ rs) : sz sRule x ≤ 1048576 := by
  obtain ⟨i, hi, rfl⟩ := List.getElem_of_mem hx
  have := sz_each h hi
  have e : rs.getD i (dft sRule) = rs[i] := by simp [List.getD, hi]
  rw [e] at this; exact this
theorem tests_next {g : Nat} {fa lb : Array Value} {w w' : World} {rs : List Rl} {f : Rl → Bool} (h : TestsRule g fa lb w rs f) (hb : Below w.heap.size w w') : TestsRule g fa lb w' rs f := fun W l r x hW hx hr => h W l r x (next_trans hb hW) hx hr
theorem makeFn : ∀ (fn : Fn) (first cap : Array Value) (w : World), (Instr.makeFunc fn first cap).run Try.prog w = .ok (.func fn first cap) w := fun _ _ _ _ => rfl

set_option maxHeartbeats 2000000 in
theorem some_ (g : Nat) (fa lb : Array Value) (eg : ∀ args w, (callFunc g args).run Try.prog w = .ok (.enter g args) w) (f : Rl → Bool) (a v : Value) (d : Dat sSystem) (w : World) (hT : TestsRule g fa lb w d.2 f) (h : Rd w w.heap.size sSystem [a, v] d) (hz : sz sSystem d ≤ 1048576) :
    Calls Try.prog 75 #[.agg #[a, v], .func (.func g) fa lb] w (AnsB w (d.2.any f)) := by
  have hv := (parts_System h).2
  obtain ⟨A, n, c, V, m, cv, rfl, rfl, hs, hc, hcv, hm, hn, hm1, hrs, hsg, hE⟩ := rd_sys h hz
  obtain ⟨W, hW, rA, bel⟩ := box1 w 64 #[.slice A n c, .slice V m cv]
  have HW := Lib.hid hW
  have L := Lib.hid (containsFuncRule g fa lb eg f V m cv d.2 W (tests_next hT bel) (hv.next bel) hm hm1)
  clear hW h hz hT hs hc hcv hm hrs hsg hE hv
  go_enter Try.func75, Try.ntmps75
  go_wp2_with fail
  rw [← HW.out]
  refine L.out.mono ?_
  rintro e w1 ⟨rfl, bb⟩
  have F := Lib.hid (next_trans bel bb)
  clear bel bb rA L
  generalize List.any d.2 f = z at *
  go_wp2
  go_ret
  exact ⟨rfl, F.out⟩

set_option maxHeartbeats 1000000 in
/-- the closure of defines -/
theorem headIs (g : Nat) (l r : Value) (x : Rl) (y : Int) (W : World) (hr : Row W g 2 #[.int .i64 y]) (h : Rd W W.heap.size sRule [l, r] x) (hz : sz sRule x ≤ 1048576) (h1 : 1 ≤ x.1.length) :
    Calls Try.prog 119 #[.agg #[l, r], .pointer (some ⟨g, 0, none⟩)] W (AnsB W (decide (hd x.1 = y))) := by
  obtain ⟨A1, n1, c1, A2, n2, c2, rfl, rfl, s1, k1, s2, k2, hn1, hn2⟩ := rd_rule h hz
  rw [s1.1] at h1
  obtain ⟨b, off, p, rfl, hbB, hp, ep⟩ := s1.spot (k := 0) (by omega)
  obtain ⟨W1, hW, rA, bel⟩ := box1 W 35 #[.slice (some ⟨b, off, none⟩) n1 c1, .slice A2 n2 c2]
  have hg := (hr.next bel)
  have hp1 : W1.cell? ⟨b, off, none⟩ = some (.int .i64 p) := by have := (bel.cell (p := ⟨b, off + 0, none⟩) hbB).trans hp; simpa using this
  have cg : W1.cell? ⟨g, 0, none⟩ = some (.int .i64 y) := hg.cell 0
  have cr : W1.cell? ⟨W.heap.size, 0, none⟩ = some (.slice (some ⟨b, off, none⟩) n1 c1) := rA.cell 0
  have E := Lib.hid (show decide (hd x.1 = y) = (p == y) by unfold hd; rw [ep.out]; by_cases h : p = y <;> simp [h])
  have i0 : (0 : Int) < (n1 : Int) := by omega
  have hq1 := hp1
  have cg1 := cg
  have cr1 := cr
  rw [hW] at hq1 cg1 cr1
  have HB := Lib.hid bel
  have HW := Lib.hid hW
  clear h hz s1 s2 k1 k2 hr hg rA bel ep hp hW hp1 cg cr
  go_enter Try.func119, Try.ntmps119
  go_wp2_with fail
  go_quiet (fail)
  rw [← HW.out]
  generalize (p == y) = z at *
  go_wp2
  go_ret
  exact ⟨by rw [E.out]; rfl, by have := below_drewN HB.out 0; first | exact below_drewN HB.out _ | exact HB.out⟩

set_option maxHeartbeats 2000000 in
theorem defines_ (a v : Value) (d : Dat sSystem) (y : Int) (w : World) (h : Rd w w.heap.size sSystem [a, v] d) (hz : sz sSystem d ≤ 1048576) (hL : ∀ x ∈ d.2, 1 ≤ x.1.length) :
    Calls Try.prog 97 #[.agg #[a, v], .int .i64 y] w (AnsB w (isDef d.2 y)) := by
  have hzr := (sys_szs hz).2
  obtain ⟨W, hW, rA, rB, bel⟩ := box2 w 64 2 #[a, v] #[.int .i64 y]
  have HW := Lib.hid hW
  have L := Lib.hid (some_ 119 #[] #[.pointer (some ⟨w.heap.size + 1, 0, none⟩)] (fun _ _ => rfl) (fun x => decide (hd x.1 = y)) a v d W
    (fun W' l r x hW' hx hr => headIs (w.heap.size + 1) l r x y W' (rB.next hW') hr (sz_mem hzr hx) (hL x hx)) (h.next bel) hz)
  have hmf := makeFn
  clear hW h hz hL hzr rB rA
  go_enter Try.func97, Try.ntmps97
  go_wp2_with fail
  rw [← HW.out]
  refine L.out.mono ?_
  rintro e w1 ⟨rfl, bb⟩
  have F : AnsB w (isDef d.2 y) (.returned (.bool (isDef d.2 y))) w1 := ⟨rfl, next_trans bel bb⟩
  have HF := Lib.hid F
  clear bel bb L F
  have e1 : (List.any d.2 fun x => decide (hd x.1 = y)) = isDef d.2 y := rfl
  rw [e1]
  clear e1
  generalize isDef d.2 y = z at *
  go_wp2
  go_ret
  exact HF.out
end Go.Proofs.Ytdkjafjphgcbjaa.ruleImpl
end

section
/-
  CONTRACTS: impl's system.nests, symbols, collapses, Sig.repeats, Sig.duplicates (and its closure). Conditions: the arguments read as data ('Rd'), at most 1048576 numbers; no side is empty where its head is read. By an AI agent.
-/
namespace Go.Proofs.Ytdkjafjphgcbjaa.ruleImpl
open Go.RowKit Go.Proofs.Ytdkjafjphgcbjaa.base Go.Proofs.Ytdkjafjphgcbjaa.ints Go.Proofs.Ytdkjafjphgcbjaa.sig Go.Proofs.Ytdkjafjphgcbjaa.term Go.Proofs.Ytdkjafjphgcbjaa.termOk Go.Proofs.Ytdkjafjphgcbjaa.marks Go.Proofs.Ytdkjafjphgcbjaa.app Go.Proofs.Ytdkjafjphgcbjaa.appAt Go.Proofs.Ytdkjafjphgcbjaa.sym Go.Proofs.Ytdkjafjphgcbjaa.segs Go.Proofs.Ytdkjafjphgcbjaa.termFacts Go.Proofs.Ytdkjafjphgcbjaa.varsMath Go.Proofs.Ytdkjafjphgcbjaa.varsOf Go.Proofs.Ytdkjafjphgcbjaa.rename Go.Proofs.Ytdkjafjphgcbjaa.same Go.Proofs.Ytdkjafjphgcbjaa.count Go.Proofs.Ytdkjafjphgcbjaa.linear Go.Proofs.Ytdkjafjphgcbjaa.shape Go.Proofs.Ytdkjafjphgcbjaa.kindsR Go.Proofs.Ytdkjafjphgcbjaa.ruleMath Go.Proofs.Ytdkjafjphgcbjaa.ruleSpec Go.Proofs.Ytdkjafjphgcbjaa.anyR
set_option maxRecDepth 100000

/-! ### nests -/
set_option maxHeartbeats 4000000 in
theorem nests_ (a v l r : Value) (d : Dat sSystem) (x : Dat sRule) (w : World) (h : Rd w w.heap.size sSystem [a, v] d) (hz : sz sSystem d ≤ 1048576) (hL : ∀ x ∈ d.2, 1 ≤ x.1.length) (h' : Rd w w.heap.size sRule [l, r] x) (hz' : sz sRule x ≤ 1048576) (h1 : 1 ≤ x.1.length) :
    Calls Try.prog 81 #[.agg #[a, v], .agg #[l, r]] w (AnsB w (nestB d.2 x)) := by
  obtain ⟨A1, n1, c1, A2, n2, c2, rfl, rfl, s1, k1, s2, k2, hn1, hn2⟩ := rd_rule h' hz'
  have hl1 := s1.1
  have h2 := h1
  rw [hl1] at h2
  obtain ⟨b, off, p, rfl, hbB, hp, ep⟩ := s1.spot (k := 0) (by omega)
  obtain ⟨W, hW, rA, rB, bel⟩ := box2 w 64 35 #[a, v] #[.slice (some ⟨b, off, none⟩) n1 c1, .slice A2 n2 c2]
  have cut := Seg.post s1 (k := 1) (by omega)
  have hll : (x.1.drop 1).length = n1 - 1 := by rw [List.length_drop, hl1]
  have HW := Lib.hid hW
  have i1 : (1 : Int) ≤ (n1 : Int) := by omega
  have i2 : (n1 : Int) ≤ (c1 : Int) := by have := k1.1; omega
  have i3 : (1 : Int) ≤ (c1 : Int) := by omega
  have d0 : W.drew.cell? ⟨w.heap.size, 0, none⟩ = some a := rA.cell 0
  have d1 : W.drew.cell? ⟨w.heap.size, 1, none⟩ = some v := rA.cell 1
  have d2 : W.drew.cell? ⟨w.heap.size + 1, 0, none⟩ = some (.slice (some ⟨b, off, none⟩) n1 c1) := rB.cell 0
  have lt0 : w.heap.size < W.drew.heap.size := rA.lt
  have lt1 : w.heap.size + 1 < W.drew.heap.size := rB.lt
  by_cases hc : c1 = 1
  · have hn : n1 = 1 := by have := k1.1; omega
    subst hn hc
    clear cut
    have hrd : Rd w w.heap.size sI [.slice (some ⟨b, off, none⟩) 0 0] (x.1.drop 1) := rd_ints.2 ⟨_, _, _, rfl, ⟨hll, fun h => absurd h (by omega)⟩, by omega, by omega, fun e => by cases e⟩
    have L := Lib.hid (fun (w1 : World) (bb : Below w.heap.size w w1) => containsFuncI 97 #[.agg #[a, v]] #[] (fun _ _ => rfl) (isDef d.2) (some ⟨b, off, none⟩) (0) (0) (x.1.drop 1) w1
      (fun W' y hW' _ => defines_ a v d y W' (h.next (next_trans bb hW')) hz hL) (hrd.next bb) hll (by omega))
    have hmf := makeFn
    have HB := Lib.hid bel.drew
    have HN := Lib.hid (show (List.drop 1 x.1).any (isDef d.2) = nestB d.2 x from rfl)
    clear hW h hz hL h' hz' s1 s2 k1 k2 bel hrd hll ep hp hl1 h1 rA rB
    go_enter Try.func81, Try.ntmps81
    go_wp2_with fail
    rw [← HW.out]
    go_region_held3 (fun w' => w'.cell? ⟨w.heap.size, 0, none⟩ = some a ∧ w'.cell? ⟨w.heap.size, 1, none⟩ = some v ∧ w'.cell? ⟨w.heap.size + 1, 0, none⟩ = some (.slice (some ⟨b, off, none⟩) 1 1))
      (go_keep)
      (first
        | (go_at_call 68; refine (L.out W.drew HB.out).mono ?_; rintro e w1 ⟨he, bb⟩; rw [HN.out] at he; subst he; have F := Lib.hid (next_trans HB.out bb); have e0 : w1.cell? ⟨w.heap.size, 0, none⟩ = some a := (bb.cell (p := ⟨w.heap.size, 0, none⟩) lt0).trans d0; have e1 : w1.cell? ⟨w.heap.size, 1, none⟩ = some v := (bb.cell (p := ⟨w.heap.size, 1, none⟩) lt0).trans d1; have e2 : w1.cell? ⟨w.heap.size + 1, 0, none⟩ = some (.slice (some ⟨b, off, none⟩) 1 1) := (bb.cell (p := ⟨w.heap.size + 1, 0, none⟩) lt1).trans d2; clear bb))
    clear L d0 d1 d2 e0 e1 e2
    generalize nestB d.2 x = z at *
    go_wp2
    go_ret
    exact ⟨rfl, F.out⟩
  · have hrd : Rd w w.heap.size sI [.slice (some ⟨b, off + 1, none⟩) (n1 - 1) (c1 - 1)] (x.1.drop 1) := rd_ints.2 ⟨_, _, _, rfl, cut, by have := k1.1; omega, by have := k1.2.1; omega, fun e => by cases e⟩
    clear cut
    have L := Lib.hid (fun (w1 : World) (bb : Below w.heap.size w w1) => containsFuncI 97 #[.agg #[a, v]] #[] (fun _ _ => rfl) (isDef d.2) (some ⟨b, off + 1, none⟩) (n1 - 1) (c1 - 1) (x.1.drop 1) w1
      (fun W' y hW' _ => defines_ a v d y W' (h.next (next_trans bb hW')) hz hL) (hrd.next bb) hll (by omega))
    have hmf := makeFn
    have HB := Lib.hid bel.drew
    have HN := Lib.hid (show (List.drop 1 x.1).any (isDef d.2) = nestB d.2 x from rfl)
    clear hW h hz hL h' hz' s1 s2 k1 k2 bel hrd hll ep hp hl1 h1 rA rB
    go_enter Try.func81, Try.ntmps81
    go_wp2_with fail
    rw [← HW.out]
    go_region_held3 (fun w' => w'.cell? ⟨w.heap.size, 0, none⟩ = some a ∧ w'.cell? ⟨w.heap.size, 1, none⟩ = some v ∧ w'.cell? ⟨w.heap.size + 1, 0, none⟩ = some (.slice (some ⟨b, off, none⟩) n1 c1))
      (go_keep)
      (first
        | (go_at_call 68; refine (L.out W.drew HB.out).mono ?_; rintro e w1 ⟨he, bb⟩; rw [HN.out] at he; subst he; have F := Lib.hid (next_trans HB.out bb); have e0 : w1.cell? ⟨w.heap.size, 0, none⟩ = some a := (bb.cell (p := ⟨w.heap.size, 0, none⟩) lt0).trans d0; have e1 : w1.cell? ⟨w.heap.size, 1, none⟩ = some v := (bb.cell (p := ⟨w.heap.size, 1, none⟩) lt0).trans d1; have e2 : w1.cell? ⟨w.heap.size + 1, 0, none⟩ = some (.slice (some ⟨b, off, none⟩) n1 c1) := (bb.cell (p := ⟨w.heap.size + 1, 0, none⟩) lt1).trans d2; clear bb))
    clear L d0 d1 d2 e0 e1 e2
    generalize nestB d.2 x = z at *
    go_wp2
    go_ret
    exact ⟨rfl, F.out⟩

/-! ### collapses, repeats -/
set_option maxHeartbeats 1000000 in
theorem collapses_ (l r : Value) (x : Dat sRule) (w : World) (h : Rd w w.heap.size sRule [l, r] x) (hz : sz sRule x ≤ 1048576) (h1 : 1 ≤ x.2.length) :
    Calls Try.prog 78 #[.agg #[l, r]] w (AnsB w (fallsB x)) := by
  obtain ⟨A1, n1, c1, A2, n2, c2, rfl, rfl, s1, k1, s2, k2, hn1, hn2⟩ := rd_rule h hz
  rw [s2.1] at h1
  obtain ⟨b, off, p, rfl, hbB, hp, ep⟩ := s2.spot (k := 0) (by omega)
  obtain ⟨W1, hW, rA, bel⟩ := box1 w 35 #[.slice A1 n1 c1, .slice (some ⟨b, off, none⟩) n2 c2]
  have hp1 : W1.cell? ⟨b, off, none⟩ = some (.int .i64 p) := by have := (bel.cell (p := ⟨b, off + 0, none⟩) hbB).trans hp; simpa using this
  have E := Lib.hid (show fallsB x = decide (p < 0) by unfold fallsB hd; rw [ep.out])
  have i0 : (0 : Int) < (n2 : Int) := by omega
  rw [hW] at hp1
  have HB := Lib.hid bel
  have HW := Lib.hid hW
  clear h hz s1 s2 k1 k2 rA bel ep hp hW
  go_enter Try.func78, Try.ntmps78
  go_wp2_with fail
  generalize decide (p < 0) = z at *
  go_wp2
  go_ret
  exact ⟨by rw [E.out]; rfl, by rw [← HW.out]; exact HB.out⟩

set_option maxHeartbeats 1000000 in
theorem repeats_ (a l r : Value) (sg : List Int) (x : Dat sRule) (w : World) (h0 : Rd w w.heap.size sI [a] sg) (hz0 : sz sI sg ≤ 1048576) (h : Rd w w.heap.size sRule [l, r] x) (hz : sz sRule x ≤ 1048576) :
    Calls Try.prog 76 #[.agg #[a], .agg #[l, r]] w (AnsB w (!linearB sg x.1)) := by
  obtain ⟨A, n, c, rfl, hs, hc⟩ := rd_ints.1 h0
  have hn := len_ints hs.1 hz0
  obtain ⟨A1, n1, c1, A2, n2, c2, rfl, rfl, s1, k1, s2, k2, hn1, hn2⟩ := rd_rule h hz
  obtain ⟨W, hW, rA, rB, bel⟩ := box2 w 26 35 #[.slice A n c] #[.slice A1 n1 c1, .slice A2 n2 c2]
  have L := Lib.hid (implLinearIn A A1 n c n1 c1 sg x.1 W (hs.next bel) (s1.next bel) hn hn1)
  have HW := Lib.hid hW
  clear h0 hz0 h hz hs hc s1 k1 s2 k2 hW
  go_enter Try.func76, Try.ntmps76
  go_wp2_with fail
  rw [← HW.out]
  refine L.out.mono ?_
  rintro e w1 ⟨rfl, bb⟩
  have F := Lib.hid (next_trans bel bb)
  clear bel bb rA rB L
  generalize linearB sg x.1 = z at *
  go_wp2
  go_ret
  exact ⟨rfl, F.out⟩

/-! ### duplicates -/
/-- as the program counts -/
def moreI (sg : List Int) (x : Rl) (y : Int) : Bool := decide (y < 0 ∧ countI sg x.1 y < countI sg x.2 y)
theorem more_same {sg : List Int} {x : Rl} (h : ruleOkB sg x = true) (y : Int) : moreI sg x y = moreB x y := by
  have h1 := rule_parts h
  unfold moreI moreB countI many
  rw [if_pos h1.1, if_pos h1.2.1]
  exact decide_eq_decide.2 ⟨fun h => ⟨h.1, by omega⟩, fun h => ⟨h.1, by omega⟩⟩

set_option maxHeartbeats 4000000 in
theorem dupNew (gs gr : Nat) (A : Option Addr) (n c : Nat) (A1 : Option Addr) (n1 c1 : Nat) (A2 : Option Addr) (n2 c2 : Nat) (sg : List Int) (x : Rl) (y : Int) (W : World) (r0 : Row W gs 26 #[.slice A n c]) (r1 : Row W gr 35 #[.slice A1 n1 c1, .slice A2 n2 c2])
    (hs : Seg W W.heap.size A n sg) (hn : n ≤ 1048576) (s1 : Seg W W.heap.size A1 n1 x.1) (hn1 : n1 ≤ 1048576) (s2 : Seg W W.heap.size A2 n2 x.2) (hn2 : n2 ≤ 1048576) (y0 : -9223372036854775808 ≤ y) (y1 : y ≤ 9223372036854775807) :
    Calls Try.prog 109 #[.int .i64 y, .pointer (some ⟨gs, 0, none⟩), .pointer (some ⟨gr, 0, none⟩)] W (AnsB W (moreI sg x y)) := by
  by_cases hy : y < 0
  · have hd : decide (y < 0) = true := decide_eq_true hy
    have L1 := Lib.hid (implCountOf A A2 n c n2 c2 sg x.2 y W.drew hs.drew s2.drew hn hn2 y0 y1)
    have L2 := Lib.hid (fun (w1 : World) (bb : Below W.heap.size W w1) => implCountOf A A1 n c n1 c1 sg x.1 y w1 (hs.next bb) (s1.next bb) hn hn1 y0 y1)
    have E := Lib.hid (show moreI sg x y = decide (countI sg x.1 y < countI sg x.2 y) by unfold moreI; exact decide_eq_decide.2 ⟨fun h => h.2, fun h => ⟨hy, h⟩⟩)
    have q0 : W.drew.cell? ⟨gs, 0, none⟩ = some (.slice A n c) := r0.cell 0
    have q1 : W.drew.cell? ⟨gr, 0, none⟩ = some (.slice A1 n1 c1) := r1.cell 0
    have q2 : W.drew.cell? ⟨gr, 1, none⟩ = some (.slice A2 n2 c2) := r1.cell 1
    clear hs s1 s2
    go_enter Try.func109, Try.ntmps109
    go_wp2_with fail
    go_region_held3 (fun w' => w'.cell? ⟨gs, 0, none⟩ = some (.slice A n c) ∧ w'.cell? ⟨gr, 0, none⟩ = some (.slice A1 n1 c1) ∧ w'.cell? ⟨gr, 1, none⟩ = some (.slice A2 n2 c2))
      (go_keep)
      (first
        | (go_at_call_of 110 (Value.slice A2 n2 c2); refine L1.out.mono ?_; rintro e w1 ⟨rfl, bb⟩; have b1 := (Go.Proofs.Ytdkjafjphgcbjaa.kinds.drew_below W).trans (show Below W.heap.size W.drew w1 from bb); have p0 : w1.cell? ⟨gs, 0, none⟩ = some (.slice A n c) := (r0.next b1).cell 0; have p1 : w1.cell? ⟨gr, 0, none⟩ = some (.slice A1 n1 c1) := (r1.next b1).cell 0; have p2 : w1.cell? ⟨gr, 1, none⟩ = some (.slice A2 n2 c2) := (r1.next b1).cell 1; clear bb)
        | (go_at_call_of 110 (Value.slice A1 n1 c1); refine (L2.out w1 b1).mono ?_; rintro e w2 ⟨rfl, bb⟩; have b2 := next_trans b1 bb; have p3 : w2.cell? ⟨gs, 0, none⟩ = some (.slice A n c) := (r0.next b2).cell 0; have p4 : w2.cell? ⟨gr, 0, none⟩ = some (.slice A1 n1 c1) := (r1.next b2).cell 0; have p5 : w2.cell? ⟨gr, 1, none⟩ = some (.slice A2 n2 c2) := (r1.next b2).cell 1; clear bb))
    have F := Lib.hid b2
    clear b1 b2 p0 p1 p2 p3 p4 p5 r0 r1 L1 L2 q0 q1 q2
    generalize countI sg x.1 y = z1 at *
    generalize countI sg x.2 y = z2 at *
    go_wp2
    go_ret
    exact ⟨by rw [E.out]; rfl, F.out⟩
  · have hd : decide (y < 0) = false := decide_eq_false hy
    have E := Lib.hid (show moreI sg x y = false by unfold moreI; exact decide_eq_false (fun h => hy h.1))
    have q0 : W.drew.cell? ⟨gs, 0, none⟩ = some (.slice A n c) := r0.cell 0
    have q1 : W.drew.cell? ⟨gr, 0, none⟩ = some (.slice A1 n1 c1) := r1.cell 0
    have q2 : W.drew.cell? ⟨gr, 1, none⟩ = some (.slice A2 n2 c2) := r1.cell 1
    have F := Lib.hid (fun d' : Nat => below_drewN (Below.refl W.heap.size W) d')
    clear hs s1 s2 r0 r1
    go_enter Try.func109, Try.ntmps109
    go_wp2_with fail
    go_quiet (fail)
    go_wp2
    go_ret
    exact ⟨by rw [E.out]; rfl, F.out _⟩

set_option maxHeartbeats 2000000 in
theorem duplicates_ (a l r : Value) (sg : List Int) (x : Dat sRule) (w : World) (h0 : Rd w w.heap.size sI [a] sg) (hz0 : sz sI sg ≤ 1048576) (h : Rd w w.heap.size sRule [l, r] x) (hz : sz sRule x ≤ 1048576) (hx : ∀ y : Int, y ∈ (x.2 : List Int) → -24 ≤ y ∧ y < 8) :
    Calls Try.prog 77 #[.agg #[a], .agg #[l, r]] w (AnsB w (x.2.any (moreI sg x))) := by
  have g1 := (parts_Rule h).2
  obtain ⟨A, n, c, rfl, hs, hc⟩ := rd_ints.1 h0
  have hn := len_ints hs.1 hz0
  obtain ⟨A1, n1, c1, A2, n2, c2, rfl, rfl, s1, k1, s2, k2, hn1, hn2⟩ := rd_rule h hz
  obtain ⟨W, hW, rA, rB, bel⟩ := box2 w 26 35 #[.slice A n c] #[.slice A1 n1 c1, .slice A2 n2 c2]
  have L := Lib.hid (containsFuncI 109 #[] #[.pointer (some ⟨w.heap.size, 0, none⟩), .pointer (some ⟨w.heap.size + 1, 0, none⟩)] (fun _ _ => rfl) (moreI sg x) A2 n2 c2 x.2 W
    (fun W' (y : Int) hW' hy => dupNew w.heap.size (w.heap.size + 1) A n c A1 n1 c1 A2 n2 c2 sg x y W' (rA.next hW') (rB.next hW') (hs.next (next_trans bel hW')) hn (s1.next (next_trans bel hW')) hn1 (s2.next (next_trans bel hW')) hn2 (by have := hx y hy; omega) (by have := hx y hy; omega)) (g1.next bel) s2.1 hn2)
  have hmf := makeFn
  have HW := Lib.hid hW
  clear h0 hz0 h hz hs hc s1 k1 s2 k2 hW rA rB g1 hx
  go_enter Try.func77, Try.ntmps77
  go_wp2_with fail
  rw [← HW.out]
  refine L.out.mono ?_
  rintro e w1 ⟨rfl, bb⟩
  have F := Lib.hid (next_trans bel bb)
  clear bel bb L
  generalize List.any x.2 (moreI sg x) = z at *
  go_wp2
  go_ret
  exact ⟨rfl, F.out⟩
end Go.Proofs.Ytdkjafjphgcbjaa.ruleImpl
end

section
/-
  CONTRACTS: impl.LeftLinearIn, CollapsingIn, DuplicatingIn, ConstructorSystem, system.symbols, DefinedIn, ConstructorsIn. Conditions: the arguments read as data ('Rd'), at most 1048576 numbers. (By wip/tools/mkrulefin.py.) By an AI agent.
-/
namespace Go.Proofs.Ytdkjafjphgcbjaa.ruleImpl
open Go.RowKit Go.Proofs.Ytdkjafjphgcbjaa.base Go.Proofs.Ytdkjafjphgcbjaa.ints Go.Proofs.Ytdkjafjphgcbjaa.sig Go.Proofs.Ytdkjafjphgcbjaa.term Go.Proofs.Ytdkjafjphgcbjaa.termOk Go.Proofs.Ytdkjafjphgcbjaa.marks Go.Proofs.Ytdkjafjphgcbjaa.app Go.Proofs.Ytdkjafjphgcbjaa.appAt Go.Proofs.Ytdkjafjphgcbjaa.sym Go.Proofs.Ytdkjafjphgcbjaa.segs Go.Proofs.Ytdkjafjphgcbjaa.termFacts Go.Proofs.Ytdkjafjphgcbjaa.varsMath Go.Proofs.Ytdkjafjphgcbjaa.varsOf Go.Proofs.Ytdkjafjphgcbjaa.rename Go.Proofs.Ytdkjafjphgcbjaa.same Go.Proofs.Ytdkjafjphgcbjaa.count Go.Proofs.Ytdkjafjphgcbjaa.linear Go.Proofs.Ytdkjafjphgcbjaa.shape Go.Proofs.Ytdkjafjphgcbjaa.kindsR Go.Proofs.Ytdkjafjphgcbjaa.ruleMath Go.Proofs.Ytdkjafjphgcbjaa.ruleSpec Go.Proofs.Ytdkjafjphgcbjaa.anyR
set_option maxRecDepth 100000

/-- a box that a variable lies in -/
theorem boxN {w w1 : World} {T : TypeId} {cs : Array Value} (bel : Below w.heap.size w w1) : Row (w1.alloc (.cells cs T)) w1.heap.size T cs ∧ Below w.heap.size w (w1.alloc (.cells cs T)) ∧ Below w1.heap.size w1 (w1.alloc (.cells cs T)) :=
  ⟨Row.new _ _ _, bel.alloc bel.size _, (Below.refl _ _).alloc (Nat.le_refl _) _⟩
theorem any_congr {rs : List Rl} {f g : Rl → Bool} (h : ∀ x ∈ rs, f x = g x) : rs.any f = rs.any g := by
  induction rs with
  | nil => rfl
  | cons x rs ih => rw [List.any_cons, List.any_cons, h x (List.mem_cons_self ..), ih (fun y hy => h y (List.mem_cons_of_mem _ hy))]
theorem rd_zero (w : World) (B : Nat) : Rd w B sSystem [.slice none 0 0, .slice none 0 0] (([], []) : List Int × List Rl) :=
  ⟨[.slice none 0 0], [.slice none 0 0], rfl, ⟨none, 0, 0, rfl, ⟨by omega, by omega, fun _ => rfl⟩, rfl, fun h => absurd h (by omega)⟩, ⟨none, 0, 0, rfl, ⟨by omega, by omega, fun _ => rfl⟩, rfl, fun h => absurd h (by omega)⟩⟩


theorem fin_LeftLinearIn_no {sg : List Int} {rs : List Rl} (h : sysOkB sg rs = false) : leftLinB sg rs = false := by unfold leftLinB; rw [h]; rfl
theorem fin_LeftLinearIn_yes {sg : List Int} {rs : List Rl} (h : sysOkB sg rs = true) : leftLinB sg rs = !rs.any (fun x => !linearB sg x.1) := by
  unfold leftLinB leftB; rw [h, Bool.true_and]; congr 1
  exact any_congr fun x hx => by unfold linearB; rw [(rule_parts ((sys_parts h).2.2 x hx)).1]; rfl
set_option maxHeartbeats 4000000 in
theorem implLeftLinearIn (a v : Value) (d : Dat sSystem) (w : World) (h : Rd w w.heap.size sSystem [a, v] d) (hz : sz sSystem d ≤ 1048576) :
    Calls Try.prog 29 #[.agg #[a, v]] w (AnsB w (leftLinB d.1 d.2)) := by
  have hzs := sys_szs hz
  have hsg := (parts_System h).1
  have SO := fun (w1 : World) (bb : Below w.heap.size w w1) => systemOf a v d w1 (h.next bb) hz
  have LT := fun (ok : sysOkB d.1 d.2 = true) (w1 : World) (bb : Below w.heap.size w w1) => some_ 76 #[.agg #[a]] #[] (fun _ _ => rfl) (fun x => !linearB d.1 x.1) a v d w1
    (fun W' l r (x : Rl) hW' hx hr => repeats_ a l r d.1 x W' (hsg.next (next_trans bb hW')) hzs.1 hr (sz_mem hzs.2 hx)) (h.next bb) hz
  obtain ⟨A, n, c, V, m, cv, rfl, rfl, -⟩ := rd_sys h hz
  obtain ⟨W, hW, rA, bel⟩ := box1 w 29 #[.slice A n c, .slice V m cv]
  have HW := Lib.hid hW
  have L := Lib.hid (SO W bel)
  have HLT := Lib.hid LT
  have hmf := makeFn
  clear hW h hz SO LT hzs hsg
  go_enter Try.func29, Try.ntmps29
  go_wp2_with fail
  rw [← HW.out]
  refine L.out.mono ?_
  cases ok : sysOkB d.1 d.2 with
  | false =>
    have HO := Lib.hid ok
    rintro e w1 ⟨rfl, bb⟩
    have F := Lib.hid (boxN (T := 64) (cs := #[.slice none 0 0, .slice none 0 0]) (next_trans bel bb)).2.1
    simp only [sysV, if_true, Bool.false_eq_true, if_false]
    clear bel bb rA L HLT ok
    go_wp2
    go_ret
    exact ⟨by rw [fin_LeftLinearIn_no HO.out]; rfl, F.out⟩
  | true =>
    have HO := Lib.hid ok
    rintro e w1 ⟨rfl, bb⟩
    obtain ⟨rS, belS, bS⟩ := boxN (T := 64) (cs := #[.slice A n c, .slice V m cv]) (next_trans bel bb)
    have L2 := Lib.hid (HLT.out ok _ belS)
    have c0 := rS.cell 0
    have c1 := rS.cell 1
    have E := Lib.hid (fin_LeftLinearIn_yes HO.out)
    simp only [sysV, if_true]
    clear bel bb rA L HLT ok rS bS
    go_wp2_with fail
    refine L2.out.mono ?_
    rintro e w2 ⟨he, bb⟩
    obtain ⟨z, hzz⟩ : ∃ z, d.2.any (fun x => !linearB d.1 x.1) = z := ⟨_, rfl⟩
    rw [hzz] at E
    rw [show (List.any d.2 fun x => !linearB d.1 x.1) = z from hzz] at he
    subst he
    have F := Lib.hid (next_trans belS bb)
    clear bb belS L2 c0 c1 hzz
    go_wp2
    go_ret
    exact ⟨by rw [E.out]; rfl, F.out⟩


theorem fin_CollapsingIn_no {sg : List Int} {rs : List Rl} (h : sysOkB sg rs = false) : collB sg rs = false := by unfold collB; rw [h]; rfl
theorem fin_CollapsingIn_yes {sg : List Int} {rs : List Rl} (h : sysOkB sg rs = true) : collB sg rs = rs.any (fallsB) := by
  unfold collB; rw [h]; rfl
set_option maxHeartbeats 4000000 in
theorem implCollapsingIn (a v : Value) (d : Dat sSystem) (w : World) (h : Rd w w.heap.size sSystem [a, v] d) (hz : sz sSystem d ≤ 1048576) :
    Calls Try.prog 31 #[.agg #[a, v]] w (AnsB w (collB d.1 d.2)) := by
  have hzs := sys_szs hz
  have hsg := (parts_System h).1
  have SO := fun (w1 : World) (bb : Below w.heap.size w w1) => systemOf a v d w1 (h.next bb) hz
  have LT := fun (ok : sysOkB d.1 d.2 = true) (w1 : World) (bb : Below w.heap.size w w1) => some_ 78 #[] #[] (fun _ _ => rfl) (fun x => fallsB x) a v d w1
    (fun W' l r (x : Rl) hW' hx hr => collapses_ l r x W' hr (sz_mem hzs.2 hx) (term_len (rule_parts ((sys_parts ok).2.2 x hx)).2.1).1) (h.next bb) hz
  obtain ⟨A, n, c, V, m, cv, rfl, rfl, -⟩ := rd_sys h hz
  obtain ⟨W, hW, rA, bel⟩ := box1 w 29 #[.slice A n c, .slice V m cv]
  have HW := Lib.hid hW
  have L := Lib.hid (SO W bel)
  have HLT := Lib.hid LT
  have hmf := makeFn
  clear hW h hz SO LT hzs hsg
  go_enter Try.func31, Try.ntmps31
  go_wp2_with fail
  rw [← HW.out]
  refine L.out.mono ?_
  cases ok : sysOkB d.1 d.2 with
  | false =>
    have HO := Lib.hid ok
    rintro e w1 ⟨rfl, bb⟩
    have F := Lib.hid (boxN (T := 64) (cs := #[.slice none 0 0, .slice none 0 0]) (next_trans bel bb)).2.1
    simp only [sysV, if_true, Bool.false_eq_true, if_false]
    clear bel bb rA L HLT ok
    go_wp2
    go_ret
    exact ⟨by rw [fin_CollapsingIn_no HO.out]; rfl, F.out⟩
  | true =>
    have HO := Lib.hid ok
    rintro e w1 ⟨rfl, bb⟩
    obtain ⟨rS, belS, bS⟩ := boxN (T := 64) (cs := #[.slice A n c, .slice V m cv]) (next_trans bel bb)
    have L2 := Lib.hid (HLT.out ok _ belS)
    have c0 := rS.cell 0
    have c1 := rS.cell 1
    have E := Lib.hid (fin_CollapsingIn_yes HO.out)
    simp only [sysV, if_true]
    clear bel bb rA L HLT ok rS bS
    go_wp2_with fail
    refine L2.out.mono ?_
    rintro e w2 ⟨he, bb⟩
    obtain ⟨z, hzz⟩ : ∃ z, d.2.any (fallsB) = z := ⟨_, rfl⟩
    rw [hzz] at E
    rw [show (List.any d.2 fun x => fallsB x) = z from hzz] at he
    subst he
    have F := Lib.hid (next_trans belS bb)
    clear bb belS L2 c0 c1 hzz
    go_wp2
    go_ret
    exact ⟨by rw [E.out]; rfl, F.out⟩


theorem fin_DuplicatingIn_no {sg : List Int} {rs : List Rl} (h : sysOkB sg rs = false) : dupB sg rs = false := by unfold dupB; rw [h]; rfl
theorem fin_DuplicatingIn_yes {sg : List Int} {rs : List Rl} (h : sysOkB sg rs = true) : dupB sg rs = rs.any (fun x => x.2.any (moreI sg x)) := by
  unfold dupB; rw [h, Bool.true_and]
  exact any_congr fun x hx => by
    unfold dblB
    have h2 : ∀ y, moreI sg x y = moreB x y := more_same ((sys_parts h).2.2 x hx)
    rw [show moreI sg x = moreB x from funext h2]
set_option maxHeartbeats 4000000 in
theorem implDuplicatingIn (a v : Value) (d : Dat sSystem) (w : World) (h : Rd w w.heap.size sSystem [a, v] d) (hz : sz sSystem d ≤ 1048576) :
    Calls Try.prog 30 #[.agg #[a, v]] w (AnsB w (dupB d.1 d.2)) := by
  have hzs := sys_szs hz
  have hsg := (parts_System h).1
  have SO := fun (w1 : World) (bb : Below w.heap.size w w1) => systemOf a v d w1 (h.next bb) hz
  have LT := fun (ok : sysOkB d.1 d.2 = true) (w1 : World) (bb : Below w.heap.size w w1) => some_ 77 #[.agg #[a]] #[] (fun _ _ => rfl) (fun x => x.2.any (moreI d.1 x)) a v d w1
    (fun W' l r (x : Rl) hW' hx hr => duplicates_ a l r d.1 x W' (hsg.next (next_trans bb hW')) hzs.1 hr (sz_mem hzs.2 hx) (fun y hy => term_mem (rule_parts ((sys_parts ok).2.2 x hx)).2.1 hy)) (h.next bb) hz
  obtain ⟨A, n, c, V, m, cv, rfl, rfl, -⟩ := rd_sys h hz
  obtain ⟨W, hW, rA, bel⟩ := box1 w 29 #[.slice A n c, .slice V m cv]
  have HW := Lib.hid hW
  have L := Lib.hid (SO W bel)
  have HLT := Lib.hid LT
  have hmf := makeFn
  clear hW h hz SO LT hzs hsg
  go_enter Try.func30, Try.ntmps30
  go_wp2_with fail
  rw [← HW.out]
  refine L.out.mono ?_
  cases ok : sysOkB d.1 d.2 with
  | false =>
    have HO := Lib.hid ok
    rintro e w1 ⟨rfl, bb⟩
    have F := Lib.hid (boxN (T := 64) (cs := #[.slice none 0 0, .slice none 0 0]) (next_trans bel bb)).2.1
    simp only [sysV, if_true, Bool.false_eq_true, if_false]
    clear bel bb rA L HLT ok
    go_wp2
    go_ret
    exact ⟨by rw [fin_DuplicatingIn_no HO.out]; rfl, F.out⟩
  | true =>
    have HO := Lib.hid ok
    rintro e w1 ⟨rfl, bb⟩
    obtain ⟨rS, belS, bS⟩ := boxN (T := 64) (cs := #[.slice A n c, .slice V m cv]) (next_trans bel bb)
    have L2 := Lib.hid (HLT.out ok _ belS)
    have c0 := rS.cell 0
    have c1 := rS.cell 1
    have E := Lib.hid (fin_DuplicatingIn_yes HO.out)
    simp only [sysV, if_true]
    clear bel bb rA L HLT ok rS bS
    go_wp2_with fail
    refine L2.out.mono ?_
    rintro e w2 ⟨he, bb⟩
    obtain ⟨z, hzz⟩ : ∃ z, d.2.any (fun x => x.2.any (moreI d.1 x)) = z := ⟨_, rfl⟩
    rw [hzz] at E
    rw [show (List.any d.2 fun x => x.2.any (moreI d.1 x)) = z from hzz] at he
    subst he
    have F := Lib.hid (next_trans belS bb)
    clear bb belS L2 c0 c1 hzz
    go_wp2
    go_ret
    exact ⟨by rw [E.out]; rfl, F.out⟩


theorem fin_ConstructorSystem_no {sg : List Int} {rs : List Rl} (h : sysOkB sg rs = false) : consB sg rs = false := by unfold consB; rw [h]; rfl
theorem fin_ConstructorSystem_yes {sg : List Int} {rs : List Rl} (h : sysOkB sg rs = true) : consB sg rs = !rs.any (nestB rs) := by
  unfold consB; rw [h]; rfl
set_option maxHeartbeats 4000000 in
theorem implConstructorSystem (a v : Value) (d : Dat sSystem) (w : World) (h : Rd w w.heap.size sSystem [a, v] d) (hz : sz sSystem d ≤ 1048576) :
    Calls Try.prog 35 #[.agg #[a, v]] w (AnsB w (consB d.1 d.2)) := by
  have hzs := sys_szs hz
  have hsg := (parts_System h).1
  have SO := fun (w1 : World) (bb : Below w.heap.size w w1) => systemOf a v d w1 (h.next bb) hz
  have LT := fun (ok : sysOkB d.1 d.2 = true) (w1 : World) (bb : Below w.heap.size w w1) => some_ 81 #[.agg #[a, v]] #[] (fun _ _ => rfl) (fun x => nestB d.2 x) a v d w1
    (fun W' l r (x : Rl) hW' hx hr => nests_ a v l r d x W' (h.next (next_trans bb hW')) hz (fun y hy => (term_len (rule_parts ((sys_parts ok).2.2 y hy)).1).1) hr (sz_mem hzs.2 hx) (term_len (rule_parts ((sys_parts ok).2.2 x hx)).1).1) (h.next bb) hz
  obtain ⟨A, n, c, V, m, cv, rfl, rfl, -⟩ := rd_sys h hz
  obtain ⟨W, hW, rA, bel⟩ := box1 w 29 #[.slice A n c, .slice V m cv]
  have HW := Lib.hid hW
  have L := Lib.hid (SO W bel)
  have HLT := Lib.hid LT
  have hmf := makeFn
  clear hW h hz SO LT hzs hsg
  go_enter Try.func35, Try.ntmps35
  go_wp2_with fail
  rw [← HW.out]
  refine L.out.mono ?_
  cases ok : sysOkB d.1 d.2 with
  | false =>
    have HO := Lib.hid ok
    rintro e w1 ⟨rfl, bb⟩
    have F := Lib.hid (boxN (T := 64) (cs := #[.slice none 0 0, .slice none 0 0]) (next_trans bel bb)).2.1
    simp only [sysV, if_true, Bool.false_eq_true, if_false]
    clear bel bb rA L HLT ok
    go_wp2
    go_ret
    exact ⟨by rw [fin_ConstructorSystem_no HO.out]; rfl, F.out⟩
  | true =>
    have HO := Lib.hid ok
    rintro e w1 ⟨rfl, bb⟩
    obtain ⟨rS, belS, bS⟩ := boxN (T := 64) (cs := #[.slice A n c, .slice V m cv]) (next_trans bel bb)
    have L2 := Lib.hid (HLT.out ok _ belS)
    have c0 := rS.cell 0
    have c1 := rS.cell 1
    have E := Lib.hid (fin_ConstructorSystem_yes HO.out)
    simp only [sysV, if_true]
    clear bel bb rA L HLT ok rS bS
    go_wp2_with fail
    refine L2.out.mono ?_
    rintro e w2 ⟨he, bb⟩
    obtain ⟨z, hzz⟩ : ∃ z, d.2.any (nestB d.2) = z := ⟨_, rfl⟩
    rw [hzz] at E
    rw [show (List.any d.2 fun x => nestB d.2 x) = z from hzz] at he
    subst he
    have F := Lib.hid (next_trans belS bb)
    clear bb belS L2 c0 c1 hzz
    go_wp2
    go_ret
    exact ⟨by rw [E.out]; rfl, F.out⟩


/-! ### symbols -/
def HeadSb (w : World) (T : TypeId) (cs : Array Value) (n : Nat) (p : Int → Bool) (out i : Value) (wr : World) : Prop :=
  ∃ (k : Nat) (O : Option Addr) (on oc : Nat), k ≤ n ∧ i = .int .i64 k ∧ out = .slice O on oc ∧ Own wr (w.heap.size + 1) (.slice O on oc) (symL p k) ∧ Row wr w.heap.size T cs ∧ Below w.heap.size w wr
theorem own_base {w w' : World} {base : Nat} {A : Option Addr} {n c : Nat} {xs : List Int} (h : Own w base (.slice A n c) xs) (hb : Below w.heap.size w w') : Own w' base (.slice A n c) xs := h.next hb

set_option maxHeartbeats 4000000 in
theorem symbols_ (a v : Value) (d : Dat sSystem) (b : Bool) (w : World) (h : Rd w w.heap.size sSystem [a, v] d) (hz : sz sSystem d ≤ 1048576) (hL : ∀ x ∈ d.2, 1 ≤ x.1.length) :
    Calls Try.prog 59 #[.agg #[a, v], .bool b] w (AnsList w (symL (fun x => isDef d.2 x == b) d.1.length)) := by
  have LD := fun (w1 : World) (bb : Below w.heap.size w w1) (y : Int) => defines_ a v d y w1 (h.next bb) hz hL
  obtain ⟨A, n, c, V, m, cv, rfl, rfl, hs, hc, hcv, hm, hn, hm1, hrs, hsg, hE⟩ := rd_sys h hz
  obtain ⟨W, hW, rA, bel⟩ := box1 w 64 #[.slice A n c, .slice V m cv]
  have HW := Lib.hid hW
  have HN := Lib.hid hs.1
  have HLD := Lib.hid LD
  have H0 : Hid (HeadSb w 64 #[.slice A n c, .slice V m cv] n (fun x => isDef d.2 x == b) (.slice none 0 0) (.int .i64 0) W) := Lib.hid ⟨0, _, _, _, Nat.zero_le _, rfl, rfl, by simpa [symL] using Own.nil W (w.heap.size + 1), rA, bel⟩
  clear hW h hz hL hs hc hcv hm hE hrs hsg LD rA bel
  go_enter Try.func59, Try.ntmps59
  go_wp2_with fail
  rw [← HW.out]
  go_loopw [5, 11] (fun out i wr => HeadSb w 64 #[.slice A n c, .slice V m cv] n (fun x => isDef d.2 x == b) out i wr) (fun _ i _ => n - (intOf i).toNat)
  case atStart => exact H0.out
  case round =>
    obtain ⟨k, O, on, oc, hk, rfl, rfl, ho, rr, hb⟩ := hrel
    clear H0
    have a0 : wr.cell? ⟨w.heap.size, 0, none⟩ = some (.slice A n c) := rr.cell 0
    have a1 : wr.cell? ⟨w.heap.size, 1, none⟩ = some (.slice V m cv) := rr.cell 1
    by_cases hlt : k < n
    · have hon : on ≤ 1048576 := by have h1 := Own.len ho; have h2 := sym_len (p := fun x => isDef d.2 x == b) k; omega
      have i1 : (k : Int) < (n : Int) := by omega
      have hzw := hb.size
      go_wp2_with fail
      refine (HLD.out wr hb (k : Int)).mono ?_
      rintro e w1 ⟨he, bb⟩
      replace rr := rr.next bb
      replace ho := ho.next bb
      replace hb := next_trans hb bb
      have hz1 := bb.size
      have hlr := rr.lt
      obtain ⟨z, hzz⟩ : ∃ z, isDef d.2 (k : Int) = z := ⟨_, rfl⟩
      rw [hzz] at he
      subst he
      have E := Lib.hid hzz
      clear bb a0 a1 hzz
      by_cases hzb : z = b
      · have e1 : (z == b) = true := by simp [hzb]
        have S := Lib.hid (show symL (fun x => isDef d.2 x == b) (k + 1) = symL (fun x => isDef d.2 x == b) k ++ [(k : Int)] from sym_yes (by rw [E.out]; exact e1))
        have ho1 := Own.alloc ho (.cells #[.int .i64 (k : Int)] 2)
        have rr1 := rr.alloc (.cells #[.int .i64 (k : Int)] 2)
        have hb1 := hb.alloc hb.size (.cells #[.int .i64 (k : Int)] 2)
        clear hzb ho
        go_wp2_with (first
          | (at_builtin; refine app1 rfl _ _ rfl (w.heap.size + 1) O on oc (symL (fun x => isDef d.2 x == b) k) rfl ho1 w1.heap.size 1 (k : Int) rfl ((Row.new _ _ _).cell 0) (by omega) (by simp; omega) ?_; intro O' oc' w2 ho2 b2))
        have F : HeadSb w 64 #[.slice A n c, .slice V m cv] n (fun x => isDef d.2 x == b) (.slice O' (on + 1) oc') (.int .i64 ((k : Int) + 1)) w2 :=
          ⟨k + 1, O', on + 1, oc', hlt, by simp, rfl, by rw [S.out]; exact ho2, rr1.below b2 (by omega), hb1.trans (b2.mono (by omega))⟩
        have HF := Lib.hid F
        clear F ho2 b2 ho1 rr1 hb1 rr hb S
        go_wp2
        go_roundw
        case rel => exact HF.out
        case measure => simp [intOf]; omega
      · have e1 : (z == b) = false := by simpa using hzb
        have F : HeadSb w 64 #[.slice A n c, .slice V m cv] n (fun x => isDef d.2 x == b) (.slice O on oc) (.int .i64 ((k : Int) + 1)) w1 :=
          ⟨k + 1, O, on, oc, hlt, by simp, rfl, by rw [sym_no (by rw [E.out]; exact e1)]; exact ho, rr, hb⟩
        have HF := Lib.hid F
        clear F ho rr hb hzb
        go_wp2
        go_roundw
        case rel => exact HF.out
        case measure => simp [intOf]; omega
    · have F : AnsList w (symL (fun x => isDef d.2 x == b) d.1.length) (.returned (.slice O on oc)) wr := ⟨O, on, oc, rfl, by rw [HN.out, show n = k by omega]; exact Own.lower ho (by omega), hb⟩
      have HF := Lib.hid F
      clear F ho rr hb
      go_wp2
      go_ret
      exact HF.out


theorem fin_DefinedIn_no {sg : List Int} {rs : List Rl} (h : sysOkB sg rs = false) : definedI sg rs = [] := by unfold definedI; rw [if_neg (by rw [h]; simp)]
theorem fin_DefinedIn_yes {sg : List Int} {rs : List Rl} (h : sysOkB sg rs = true) : definedI sg rs = symL (fun x => isDef rs x == true) sg.length := by
  unfold definedI; rw [if_pos h]
  rw [def_sym h]; congr 1; funext x; simp
set_option maxHeartbeats 4000000 in
theorem implDefinedIn (a v : Value) (d : Dat sSystem) (w : World) (h : Rd w w.heap.size sSystem [a, v] d) (hz : sz sSystem d ≤ 1048576) :
    Calls Try.prog 17 #[.agg #[a, v]] w (AnsList w (definedI d.1 d.2)) := by
  have SO := fun (w1 : World) (bb : Below w.heap.size w w1) => systemOf a v d w1 (h.next bb) hz
  have LT := fun (ok : sysOkB d.1 d.2 = true) (w1 : World) (bb : Below w.heap.size w w1) => symbols_ a v d true w1 (h.next bb) hz (fun x hx => (term_len (rule_parts ((sys_parts ok).2.2 x hx)).1).1)
  obtain ⟨A, n, c, V, m, cv, rfl, rfl, -⟩ := rd_sys h hz
  obtain ⟨W, hW, rA, bel⟩ := box1 w 29 #[.slice A n c, .slice V m cv]
  have HW := Lib.hid hW
  have L := Lib.hid (SO W bel)
  have HLT := Lib.hid LT
  clear hW h hz SO LT
  go_enter Try.func17, Try.ntmps17
  go_wp2_with fail
  rw [← HW.out]
  refine L.out.mono ?_
  cases ok : sysOkB d.1 d.2 with
  | false =>
    have HO := Lib.hid ok
    rintro e w1 ⟨rfl, bb⟩
    obtain ⟨rS, belS, bS⟩ := boxN (T := 64) (cs := #[.slice none 0 0, .slice none 0 0]) (next_trans bel bb)
    have L2 := Lib.hid (symbols_ (.slice none 0 0) (.slice none 0 0) ([], []) true _ (rd_zero (w1.alloc (.cells #[.slice none 0 0, .slice none 0 0] 64)) _) (by simp [sz]) (fun x hx => by cases hx))
    have c0 := rS.cell 0
    have c1 := rS.cell 1
    simp only [sysV, if_true, Bool.false_eq_true, if_false]
    clear bel bb rA L HLT ok rS bS
    go_wp2_with fail
    refine L2.out.mono ?_
    rintro e w2 ⟨O, on, oc, rfl, ho, bb⟩
    have F : AnsList w (definedI d.1 d.2) (.returned (.slice O on oc)) w2 := ⟨O, on, oc, rfl, by rw [fin_DefinedIn_no HO.out]; exact Own.lower ho belS.size, next_trans belS bb⟩
    have HF := Lib.hid F
    clear F ho bb belS L2 c0 c1
    go_wp2
    go_ret
    exact HF.out
  | true =>
    have HO := Lib.hid ok
    rintro e w1 ⟨rfl, bb⟩
    obtain ⟨rS, belS, bS⟩ := boxN (T := 64) (cs := #[.slice A n c, .slice V m cv]) (next_trans bel bb)
    have L2 := Lib.hid (HLT.out ok _ belS)
    have c0 := rS.cell 0
    have c1 := rS.cell 1
    simp only [sysV, if_true]
    clear bel bb rA L HLT ok rS bS
    go_wp2_with fail
    refine L2.out.mono ?_
    rintro e w2 ⟨O, on, oc, rfl, ho, bb⟩
    have F : AnsList w (definedI d.1 d.2) (.returned (.slice O on oc)) w2 := ⟨O, on, oc, rfl, by rw [fin_DefinedIn_yes HO.out]; exact Own.lower ho belS.size, next_trans belS bb⟩
    have HF := Lib.hid F
    clear F ho bb belS L2 c0 c1
    go_wp2
    go_ret
    exact HF.out


theorem fin_ConstructorsIn_no {sg : List Int} {rs : List Rl} (h : sysOkB sg rs = false) : consI sg rs = [] := by unfold consI; rw [if_neg (by rw [h]; simp)]
theorem fin_ConstructorsIn_yes {sg : List Int} {rs : List Rl} (h : sysOkB sg rs = true) : consI sg rs = symL (fun x => isDef rs x == false) sg.length := by
  unfold consI; rw [if_pos h]
  congr 1; funext x; cases isDef rs x <;> rfl
set_option maxHeartbeats 4000000 in
theorem implConstructorsIn (a v : Value) (d : Dat sSystem) (w : World) (h : Rd w w.heap.size sSystem [a, v] d) (hz : sz sSystem d ≤ 1048576) :
    Calls Try.prog 18 #[.agg #[a, v]] w (AnsList w (consI d.1 d.2)) := by
  have SO := fun (w1 : World) (bb : Below w.heap.size w w1) => systemOf a v d w1 (h.next bb) hz
  have LT := fun (ok : sysOkB d.1 d.2 = true) (w1 : World) (bb : Below w.heap.size w w1) => symbols_ a v d false w1 (h.next bb) hz (fun x hx => (term_len (rule_parts ((sys_parts ok).2.2 x hx)).1).1)
  obtain ⟨A, n, c, V, m, cv, rfl, rfl, -⟩ := rd_sys h hz
  obtain ⟨W, hW, rA, bel⟩ := box1 w 29 #[.slice A n c, .slice V m cv]
  have HW := Lib.hid hW
  have L := Lib.hid (SO W bel)
  have HLT := Lib.hid LT
  clear hW h hz SO LT
  go_enter Try.func18, Try.ntmps18
  go_wp2_with fail
  rw [← HW.out]
  refine L.out.mono ?_
  cases ok : sysOkB d.1 d.2 with
  | false =>
    have HO := Lib.hid ok
    rintro e w1 ⟨rfl, bb⟩
    obtain ⟨rS, belS, bS⟩ := boxN (T := 64) (cs := #[.slice none 0 0, .slice none 0 0]) (next_trans bel bb)
    have L2 := Lib.hid (symbols_ (.slice none 0 0) (.slice none 0 0) ([], []) false _ (rd_zero (w1.alloc (.cells #[.slice none 0 0, .slice none 0 0] 64)) _) (by simp [sz]) (fun x hx => by cases hx))
    have c0 := rS.cell 0
    have c1 := rS.cell 1
    simp only [sysV, if_true, Bool.false_eq_true, if_false]
    clear bel bb rA L HLT ok rS bS
    go_wp2_with fail
    refine L2.out.mono ?_
    rintro e w2 ⟨O, on, oc, rfl, ho, bb⟩
    have F : AnsList w (consI d.1 d.2) (.returned (.slice O on oc)) w2 := ⟨O, on, oc, rfl, by rw [fin_ConstructorsIn_no HO.out]; exact Own.lower ho belS.size, next_trans belS bb⟩
    have HF := Lib.hid F
    clear F ho bb belS L2 c0 c1
    go_wp2
    go_ret
    exact HF.out
  | true =>
    have HO := Lib.hid ok
    rintro e w1 ⟨rfl, bb⟩
    obtain ⟨rS, belS, bS⟩ := boxN (T := 64) (cs := #[.slice A n c, .slice V m cv]) (next_trans bel bb)
    have L2 := Lib.hid (HLT.out ok _ belS)
    have c0 := rS.cell 0
    have c1 := rS.cell 1
    simp only [sysV, if_true]
    clear bel bb rA L HLT ok rS bS
    go_wp2_with fail
    refine L2.out.mono ?_
    rintro e w2 ⟨O, on, oc, rfl, ho, bb⟩
    have F : AnsList w (consI d.1 d.2) (.returned (.slice O on oc)) w2 := ⟨O, on, oc, rfl, by rw [fin_ConstructorsIn_yes HO.out]; exact Own.lower ho belS.size, next_trans belS bb⟩
    have HF := Lib.hid F
    clear F ho bb belS L2 c0 c1
    go_wp2
    go_ret
    exact HF.out

end Go.Proofs.Ytdkjafjphgcbjaa.ruleImpl
end

section
/-
  CONTRACTS: impl.sameRule, slices.EqualFunc of rules over it, impl.SameSystem. Conditions: the arguments read as data ('Rd'), at most 1048576 numbers. By an AI agent.
-/
namespace Go.Proofs.Ytdkjafjphgcbjaa.ruleImpl
open Go.RowKit Go.Proofs.Ytdkjafjphgcbjaa.base Go.Proofs.Ytdkjafjphgcbjaa.ints Go.Proofs.Ytdkjafjphgcbjaa.sig Go.Proofs.Ytdkjafjphgcbjaa.term Go.Proofs.Ytdkjafjphgcbjaa.termOk Go.Proofs.Ytdkjafjphgcbjaa.marks Go.Proofs.Ytdkjafjphgcbjaa.app Go.Proofs.Ytdkjafjphgcbjaa.sym Go.Proofs.Ytdkjafjphgcbjaa.segs Go.Proofs.Ytdkjafjphgcbjaa.termFacts Go.Proofs.Ytdkjafjphgcbjaa.varsMath Go.Proofs.Ytdkjafjphgcbjaa.varsOf Go.Proofs.Ytdkjafjphgcbjaa.rename Go.Proofs.Ytdkjafjphgcbjaa.same Go.Proofs.Ytdkjafjphgcbjaa.count Go.Proofs.Ytdkjafjphgcbjaa.linear Go.Proofs.Ytdkjafjphgcbjaa.shape Go.Proofs.Ytdkjafjphgcbjaa.kindsR Go.Proofs.Ytdkjafjphgcbjaa.ruleMath Go.Proofs.Ytdkjafjphgcbjaa.ruleSpec Go.Proofs.Ytdkjafjphgcbjaa.anyR
set_option maxRecDepth 100000

set_option maxHeartbeats 4000000 in
theorem implSameRule (l r l' r' : Value) (x y : Dat sRule) (w : World) (h : Rd w w.heap.size sRule [l, r] x) (h' : Rd w w.heap.size sRule [l', r'] y) (hz : sz sRule x ≤ 1048576) (hz' : sz sRule y ≤ 1048576) :
    Calls Try.prog 74 #[.agg #[l, r], .agg #[l', r']] w (AnsB w (sameRB x y)) := by
  obtain ⟨A1, n1, c1, A2, n2, c2, rfl, rfl, s1, k1, s2, k2, hn1, hn2⟩ := rd_rule h hz
  obtain ⟨B1, m1, e1, B2, m2, e2, rfl, rfl, t1, q1, t2, q2, hm1, hm2⟩ := rd_rule h' hz'
  obtain ⟨W, hW, rA, rB, bel⟩ := box2 w 35 35 #[.slice A1 n1 c1, .slice A2 n2 c2] #[.slice B1 m1 e1, .slice B2 m2 e2]
  have HW := Lib.hid hW
  have L1 := Lib.hid (implSame A1 B1 n1 m1 c1 e1 x.1 y.1 W (s1.next bel) (t1.next bel) hn1 hm1)
  have L2 := Lib.hid (fun (w1 : World) (bb : Below w.heap.size w w1) => implSame A2 B2 n2 m2 c2 e2 x.2 y.2 w1 (s2.next bb) (t2.next bb) hn2 hm2)
  clear hW h h' hz hz' k1 k2 q1 q2 s1 s2 t1 t2
  cases ok1 : decide (x.1 = y.1) with
  | false =>
    have HS := Lib.hid ok1
    clear ok1
    go_enter Try.func74, Try.ntmps74
    go_wp2_with fail
    rw [← HW.out]
    refine L1.out.mono ?_
    rintro e w1 ⟨he, d, rfl⟩
    rw [HS.out] at he
    subst he
    have F := Lib.hid (ansB (b := sameRB x y) (a := false) (by rw [same_noL HS.out]) (below_drewN bel d))
    clear bel rA rB
    go_wp2
    go_ret
    exact F.out
  | true =>
    have HS := Lib.hid ok1
    clear ok1
    go_enter Try.func74, Try.ntmps74
    go_wp2_with fail
    rw [← HW.out]
    refine L1.out.mono ?_
    rintro e w1 ⟨he, d, hw1⟩
    rw [HS.out] at he
    subst he
    have rA1 : Row w1 w.heap.size 35 #[.slice A1 n1 c1, .slice A2 n2 c2] := by rw [hw1]; exact rA.drewN d
    have rB1 : Row w1 (w.heap.size + 1) 35 #[.slice B1 m1 e1, .slice B2 m2 e2] := by rw [hw1]; exact rB.drewN d
    have bel1 : Below w.heap.size w w1 := by rw [hw1]; exact below_drewN bel d
    have cA : w1.cell? ⟨w.heap.size, 1, none⟩ = some (.slice A2 n2 c2) := rA1.cell 1
    have cB : w1.cell? ⟨w.heap.size + 1, 1, none⟩ = some (.slice B2 m2 e2) := rB1.cell 1
    clear hw1 L1 rA rB bel
    go_wp2_with fail
    refine (L2.out w1 bel1).mono ?_
    rintro e w2 ⟨he, d2, rfl⟩
    rw [← same_L HS.out] at he
    subst he
    have F := Lib.hid (ansB (b := sameRB x y) (a := sameRB x y) rfl (below_drewN bel1 d2))
    clear bel1 rA1 rB1 cA cB L2
    go_wp2
    go_ret
    exact F.out


def HeadEq (w : World) (n : Nat) (xs ys : List Rl) (i : Value) (wr : World) : Prop := ∃ k : Nat, k ≤ n ∧ i = .int .i64 k ∧ (∀ j, j < k → xs.getD j ([], []) = ys.getD j ([], [])) ∧ Below w.heap.size w wr
theorem eq_no {xs ys : List Rl} {k : Nat} {x y : Rl} (ex : xs.getD k ([], []) = x) (ey : ys.getD k ([], []) = y) (h : sameRB x y = false) : decide (xs = ys) = false :=
  decide_eq_false fun e => (of_decide_eq_false h) (by rw [← ex, ← ey, e])
theorem eq_len {xs ys : List Rl} {n m : Nat} (hn : xs.length = n) (hm : ys.length = m) (h : n ≠ m) : decide (xs = ys) = false := decide_eq_false fun e => by rw [e] at hn; omega
theorem eq_yes {xs ys : List Rl} {n : Nat} (hn : xs.length = n) (hm : ys.length = n) (h : ∀ j, j < n → xs.getD j ([], []) = ys.getD j ([], [])) : decide (xs = ys) = true := decide_eq_true (lists_eq (by omega) (fun j hj => h j (by omega)))

set_option maxHeartbeats 8000000 in
theorem equalRules (A B : Option Addr) (n c m c' : Nat) (xs ys : List Rl) (w : World) (h : Rd w w.heap.size sRuleS [.slice A n c] xs) (h' : Rd w w.heap.size sRuleS [.slice B m c'] ys) (hl : xs.length = n) (hl' : ys.length = m) (hz : sz sRuleS xs ≤ 1048576) (hz' : sz sRuleS ys ≤ 1048576) :
    Calls Try.prog 73 #[.slice A n c, .slice B m c', .func (.func 74) #[] #[]] w (AnsB w (decide (xs = ys))) := by
  have hn1 : n ≤ 1048576 := by rw [← hl]; exact sz_len hz
  have HL := Lib.hid hl
  have HL' := Lib.hid hl'
  have HR := Lib.hid h
  have HR' := Lib.hid h'
  have HZ := Lib.hid hz
  have HZ' := Lib.hid hz'
  have eg : ∀ args w, (callFunc 74 args).run Try.prog w = .ok (.enter 74 args) w := fun _ _ => rfl
  clear h h' hz hz' hl hl'
  by_cases hnm : n = m
  · subst hnm
    go_enter Try.func73, Try.ntmps73
    go_wp2_with fail
    go_loopw [17] (fun i wr => HeadEq w n xs ys i wr) (fun i _ => n - (intOf i).toNat)
    case atStart => exact ⟨0, Nat.zero_le _, rfl, fun j hj => absurd hj (Nat.not_lt_zero _), Below.refl _ _⟩
    case round =>
      obtain ⟨k, hk, rfl, hlow, hb⟩ := hrel
      have HLOW := Lib.hid hlow
      clear hlow
      by_cases hlt : k < n
      · obtain ⟨b, off, l, r, x, rfl, hbB, ex, hc0, hc1, hx⟩ := rd_at HR.out hb HL.out hlt
        obtain ⟨b', off', l', r', y, rfl, hbB', ey, hc0', hc1', hy⟩ := rd_at HR'.out hb HL'.out hlt
        have hzx : sz sRule x ≤ 1048576 := by have := sz_each HZ.out (j := k) (by rw [HL.out]; exact hlt); rw [show xs.getD k (dft sRule) = x from ex.out] at this; exact this
        have hzy : sz sRule y ≤ 1048576 := by have := sz_each HZ'.out (j := k) (by rw [HL'.out]; exact hlt); rw [show ys.getD k (dft sRule) = y from ey.out] at this; exact this
        obtain ⟨A1, n1, c1, A2, n2, c2, rfl, rfl, -⟩ := rd_rule hx hzx
        obtain ⟨B1, m1, e1, B2, m2, e2, rfl, rfl, -⟩ := rd_rule hy hzy
        have hx0 := (hx.more hb.size)
        have hy0 := (hy.more hb.size)
        have bA : Below wr.heap.size wr (wr.alloc (.cells #[.slice A1 n1 c1, .slice A2 n2 c2] 35)) := (Below.refl _ _).alloc (Nat.le_refl _) _
        have k0 := (bA.cell (p := ⟨b', off' + k * 2, none⟩) (Nat.lt_of_lt_of_le hbB' hb.size)).trans hc0'
        have k1 := (bA.cell (p := ⟨b', off' + k * 2 + 1, none⟩) (Nat.lt_of_lt_of_le hbB' hb.size)).trans hc1'
        obtain ⟨w2, hw2, rX, rY, bb⟩ := box2 wr 35 35 #[.slice A1 n1 c1, .slice A2 n2 c2] #[.slice B1 m1 e1, .slice B2 m2 e2]
        have L := Lib.hid (implSameRule _ _ _ _ x y w2 (hx0.next bb) (hy0.next bb) hzx hzy)
        have HW2 := Lib.hid hw2
        have x0 := rX.cell 0
        have x1 := rX.cell 1
        rw [hw2] at x0 x1
        have hb2 := next_trans hb bb
        have i0 : (0 : Int) ≤ (k : Int) := by omega
        have i1 : (k : Int) < (n : Int) := by omega
        clear hx hy hzx hzy hx0 hy0 bA hb bb rX rY hw2
        obtain ⟨z, hzz⟩ : ∃ z, sameRB x y = z := ⟨_, rfl⟩
        rw [hzz] at L
        have HS := Lib.hid hzz
        clear hzz
        cases z with
        | false =>
          have ok := HS.out
          go_wp2_with (go_at_fn 74; rw [← HW2.out]; refine L.out.mono ?_; rintro e w3 ⟨rfl, bb⟩)
          have F := Lib.hid (ansB (b := decide (xs = ys)) (a := false) (by rw [eq_no ex.out ey.out ok]) (next_trans hb2 bb))
          clear bb hb2 L x0 x1 k0 k1 hc0 hc1 hc0' hc1' ok
          go_wp2
          go_ret
          exact F.out
        | true =>
          have ok := HS.out
          go_wp2_with (go_at_fn 74; rw [← HW2.out]; refine L.out.mono ?_; rintro e w3 ⟨rfl, bb⟩)
          have F : HeadEq w n xs ys (.int .i64 ((k : Int) + 1)) w3 := ⟨k + 1, hlt, by simp, fun j hj => by
            by_cases e : j = k
            · subst e; rw [ex.out, ey.out]; exact of_decide_eq_true ok
            · exact HLOW.out j (by omega), next_trans hb2 bb⟩
          have HF := Lib.hid F
          clear F bb hb2 L x0 x1 k0 k1 hc0 hc1 hc0' hc1' ok
          go_wp2
          go_roundw
          case rel => exact HF.out
          case measure => simp [intOf]; omega
      · have F := Lib.hid (ansB (b := decide (xs = ys)) (a := true) (by rw [eq_yes HL.out HL'.out (fun j hj => HLOW.out j (by omega))]) hb)
        clear hb
        go_wp2
        go_ret
        exact F.out
  · have hne : ((n : Int) != (m : Int)) = true := by simp; omega
    have F := Lib.hid (ansB (b := decide (xs = ys)) (a := false) (by rw [eq_len HL.out HL'.out hnm]) (Below.refl w.heap.size w))
    go_enter Try.func73, Try.ntmps73
    go_wp2
    go_ret
    exact F.out

theorem ss_form {sg sg' : List Int} {rs rs' : List Rl} (h : sysOkB sg rs = true) (h2 : decide (sg = sg') = true) : sameSB sg sg' rs rs' = decide (rs = rs') := by unfold sameSB; rw [h, h2]; rfl

set_option maxHeartbeats 8000000 in
theorem implSameSystem (a v a' v' : Value) (d d' : Dat sSystem) (w : World) (h : Rd w w.heap.size sSystem [a, v] d) (h' : Rd w w.heap.size sSystem [a', v'] d') (hz : sz sSystem d ≤ 1048576) (hz' : sz sSystem d' ≤ 1048576) :
    Calls Try.prog 27 #[.agg #[a, v], .agg #[a', v']] w (AnsB w (sameSB d.1 d'.1 d.2 d'.2)) := by
  have S1 := fun (w1 : World) (bb : Below w.heap.size w w1) => implSystemOk a v d w1 (h.next bb) hz
  have zr := (sys_szs hz).2
  have zr' := (sys_szs hz').2
  obtain ⟨A, n, c, V, m, cv, rfl, rfl, hs, hc, hcv, hm, hn, hm1, hrs, hsg, hE⟩ := rd_sys h hz
  obtain ⟨A', n', c', V', m', cv', rfl, rfl, hs', hc', hcv', hm', hn', hm1', hrs', hsg', hE'⟩ := rd_sys h' hz'
  obtain ⟨W, hW, rA, rB, bel⟩ := box2 w 29 29 #[.slice A n c, .slice V m cv] #[.slice A' n' c', .slice V' m' cv']
  have HW := Lib.hid hW
  have LS1 := Lib.hid (S1 W bel)
  have LT := Lib.hid (fun (w1 : World) (bb : Below w.heap.size w w1) => libEqual A A' n n' c c' d.1 d'.1 w1 (hs.next bb) (hs'.next bb) hn hn')
  have LR := Lib.hid (fun (w1 : World) (bb : Below w.heap.size w w1) => equalRules V V' m cv m' cv' d.2 d'.2 w1 (hrs.next bb) (hrs'.next bb) hm hm' zr zr')
  clear hW h h' hz hz' hs hs' hc hc' hcv hcv' hm hm' hE hE' hrs hrs' hsg hsg' S1 zr zr'
  cases ok1 : sysOkB d.1 d.2 with
  | false =>
    have HS := Lib.hid ok1
    clear ok1
    go_enter Try.func27, Try.ntmps27
    go_wp2_with fail
    rw [← HW.out]
    refine LS1.out.mono ?_
    rintro e w1 ⟨he, bb⟩
    rw [HS.out] at he
    subst he
    have F := Lib.hid (ansB (b := sameSB d.1 d'.1 d.2 d'.2) (a := false) (by rw [ss_no HS.out]) (next_trans bel bb))
    clear bel rA rB bb
    go_wp2
    go_ret
    exact F.out
  | true =>
    have HS := Lib.hid ok1
    clear ok1
    go_enter Try.func27, Try.ntmps27
    go_wp2_with fail
    rw [← HW.out]
    refine LS1.out.mono ?_
    rintro e w1 ⟨he, bb⟩
    rw [HS.out] at he
    subst he
    replace rA := rA.next bb
    replace rB := rB.next bb
    replace bel := next_trans bel bb
    have a0 : w1.cell? ⟨w.heap.size, 0, none⟩ = some (.slice A n c) := rA.cell 0
    have b0 : w1.cell? ⟨w.heap.size + 1, 0, none⟩ = some (.slice A' n' c') := rB.cell 0
    clear bb LS1
    go_wp2_with fail
    refine (LT.out w1 bel).mono ?_
    cases ok3 : decide (d.1 = d'.1) with
    | false =>
      have HS3 := Lib.hid ok3
      clear ok3
      rintro e w3 ⟨he, dd, rfl⟩
      rw [HS3.out] at he
      subst he
      have F := Lib.hid (ansB (b := sameSB d.1 d'.1 d.2 d'.2) (a := false) (by rw [ss_sig HS3.out]) (below_drewN bel dd))
      clear bel rA rB a0 b0
      go_wp2
      go_ret
      exact F.out
    | true =>
      have HS3 := Lib.hid ok3
      clear ok3
      rintro e w3 ⟨he, dd, hw3⟩
      rw [HS3.out] at he
      subst he
      replace rA := rA.drewN dd
      replace rB := rB.drewN dd
      replace bel := below_drewN bel dd
      rw [← hw3] at rA rB bel
      have a1 : w3.cell? ⟨w.heap.size, 1, none⟩ = some (.slice V m cv) := rA.cell 1
      have b1 : w3.cell? ⟨w.heap.size + 1, 1, none⟩ = some (.slice V' m' cv') := rB.cell 1
      clear a0 b0 hw3 LT
      go_wp2_with fail
      refine (LR.out w3 bel).mono ?_
      rintro e w4 ⟨he, bb⟩
      rw [← ss_form HS.out HS3.out] at he
      subst he
      have F := Lib.hid (ansB (b := sameSB d.1 d'.1 d.2 d'.2) rfl (next_trans bel bb))
      clear bel bb rA rB a1 b1 LR
      generalize sameSB d.1 d'.1 d.2 d'.2 = z at *
      go_wp2
      go_ret
      exact F.out
end Go.Proofs.Ytdkjafjphgcbjaa.ruleImpl
end
