/-
  MERGED: my texts DrawL7, DrawL7B, LawS, Shape3, KindsW, LawT, W5, MatchSpec, SameSubst, PlainFacts, MatchTot, MatchFacts, StepSpec, TabR, Whole, TakeMath, Take, Extended, one behind the other, as they are. By an AI agent.
-/
import Derived.Test.YtfkgiimcnlagmaaMFnRedexes4
import Derived.Deep.RegionHeld3
import Derived.Deep.QuietTactic
import Derived.BigQuiet
import Derived.Deep.LoopGhost
import Derived.Deep.DeepCutAuto
import Derived.Laws.Rows
import Derived.Laws.ResultCell
section
/-
  CONTRACTS: spec.l7DrawTerm, l7Draw: a drawn system as data and a drawn term. Conditions: the cursor is one of a draw ('Dice'), the system lies outside its block. Written by a program of mine (mkdrawl7.py). By an AI agent.
-/
namespace Go.Proofs.Ytfkgiimcnlagmaa.drawL7
open Go.RowKit Go.Proofs.Ytfkgiimcnlagmaa.base Go.Proofs.Ytfkgiimcnlagmaa.ints Go.Proofs.Ytfkgiimcnlagmaa.sig Go.Proofs.Ytfkgiimcnlagmaa.term Go.Proofs.Ytfkgiimcnlagmaa.termOk Go.Proofs.Ytfkgiimcnlagmaa.termFacts Go.Proofs.Ytfkgiimcnlagmaa.cursor Go.Proofs.Ytfkgiimcnlagmaa.marks Go.Proofs.Ytfkgiimcnlagmaa.app Go.Proofs.Ytfkgiimcnlagmaa.appAt Go.Proofs.Ytfkgiimcnlagmaa.sym Go.Proofs.Ytfkgiimcnlagmaa.segs Go.Proofs.Ytfkgiimcnlagmaa.segsHelp Go.Proofs.Ytfkgiimcnlagmaa.kinds Go.Proofs.Ytfkgiimcnlagmaa.dice Go.Proofs.Ytfkgiimcnlagmaa.drawTerm Go.Proofs.Ytfkgiimcnlagmaa.drawAny Go.Proofs.Ytfkgiimcnlagmaa.drawSub Go.Proofs.Ytfkgiimcnlagmaa.drawTermW Go.Proofs.Ytfkgiimcnlagmaa.drawX Go.Proofs.Ytfkgiimcnlagmaa.drawKnown Go.Proofs.Ytfkgiimcnlagmaa.drawSys Go.Proofs.Ytfkgiimcnlagmaa.drawSysAny Go.Proofs.Ytfkgiimcnlagmaa.drawSysD Go.Proofs.Ytfkgiimcnlagmaa.ruleMath Go.Proofs.Ytfkgiimcnlagmaa.ruleSpec Go.Proofs.Ytfkgiimcnlagmaa.gives Go.Proofs.Ytfkgiimcnlagmaa.heldT
open Go.Proofs.Ytfkgiimcnlagmaa.shape (Sh Dat nc dft sI sz sz_ints rd_ints)
open Go.Proofs.Ytfkgiimcnlagmaa.kindsR (sRule sSystem sRuleS sSig)
set_option maxRecDepth 100000

/-- a drawn system in its box, beside the cursor -/
structure Dy (w : World) (p : Nat) (A : Option Addr) (n c : Nat) (S : Option Addr) (sn sc : Nat) (R : Option Addr) (rn rc : Nat) (d : Dat sSystem) (wr : World) : Prop where
  di : Dice wr p A n c
  r : Row wr w.heap.size 29 #[.slice S sn sc, .slice R rn rc]
  s : RdQ wr (Out wr p) sSystem [.slice S sn sc, .slice R rn rc] d
  g : w.grownBy wr (some p)
  hp : p < w.heap.size
section
variable {w : World} {p : Nat} {A : Option Addr} {n c : Nat} {S : Option Addr} {sn sc : Nat} {R : Option Addr} {rn rc : Nat} {d : Dat sSystem} {wr w' : World}
theorem Dy.dice (t : Dy w p A n c S sn sc R rn rc d wr) (h : Dice w' p A n c) (hg : wr.grownBy w' (some p)) : Dy w p A n c S sn sc R rn rc d w' :=
  ⟨h, Row.away t.r hg (fun e => by injection e with e; have := t.hp; omega), out_dice t.s hg, t.g.trans hg, t.hp⟩
theorem grown_of_below (hb : Below w.heap.size w w') (r : Option Nat) : w.grownBy w' r := ⟨hb.os, hb.tape, hb.output, hb.size, fun k hk _ => hb.block k hk⟩
theorem Dy.next (t : Dy w p A n c S sn sc R rn rc d wr) (hb : Below wr.heap.size wr w') : Dy w p A n c S sn sc R rn rc d w' :=
  ⟨t.di.next hb, t.r.next hb, out_below t.s hb, t.g.trans (grown_of_below hb _), t.hp⟩
theorem rdq_sig (h : RdQ wr (Out wr p) sSystem [.slice S sn sc, .slice R rn rc] d) : Go.Proofs.Ytfkgiimcnlagmaa.drawTerm.Rd wr p wr.heap.size S sn d.1 := by
  obtain ⟨ca, cb, e, h1, h2⟩ := h
  have l1 := h1.len
  have l1 : ca.length = 1 := l1
  obtain ⟨x, rfl⟩ : ∃ x, ca = [x] := by
    cases ca with
    | nil => cases l1
    | cons x r => cases r with
      | nil => exact ⟨x, rfl⟩
      | cons y z => simp at l1
  rw [List.singleton_append, List.cons.injEq] at e
  obtain ⟨rfl, -⟩ := e
  obtain ⟨A, n, c, e, hc, hl, h1⟩ := h1
  injection e with e _
  injection e with e1 e2 e3
  subst e1 e2 e3
  refine ⟨hl, fun hn => ?_⟩
  obtain ⟨b, off, e2, hb, h2⟩ := h1 hn
  refine ⟨b, off, e2, hb.1, hb.2, fun j hj => ?_⟩
  obtain ⟨es, hel, hp, hr⟩ := h2 j hj
  have hr : es = [.int .i64 (d.1.getD j 0)] := hr
  subst hr
  have := hp 0 (by simp)
  simpa [nc] using this
theorem Dy.sg (t : Dy w p A n c S sn sc R rn rc d wr) : Go.Proofs.Ytfkgiimcnlagmaa.drawTerm.Rd wr p wr.heap.size S sn d.1 := rdq_sig t.s
theorem Dy.rd (t : Dy w p A n c S sn sc R rn rc d wr) : Go.Proofs.Ytfkgiimcnlagmaa.shape.Rd wr wr.heap.size sSystem [.slice S sn sc, .slice R rn rc] d := out_rd t.s
theorem Dy.len (t : Dy w p A n c S sn sc R rn rc d wr) (hz : sz sSystem d ≤ 1048576) : List.length d.2 = rn ∧ rn ≤ rc ∧ rc ≤ 9223372036854775807 := by
  obtain ⟨A1, n1, c1, A2, n2, c2, e1, e2, -, -, h5, h6, -⟩ := rd_sys t.rd hz
  injection e2 with e3 e4 e5
  subst e3 e4 e5
  exact ⟨h6, h5.1, h5.2.1⟩
theorem Dy.rule (t : Dy w p A n c S sn sc R rn rc d wr) (hz : sz sSystem d ≤ 1048576) {k : Nat} (hk : k < rn) : ∃ b off l ln lc, R = some ⟨b, off, none⟩ ∧ b < wr.heap.size ∧ wr.cell? ⟨b, off + k * 2, none⟩ = some (.slice l ln lc) ∧ Seg wr wr.heap.size l ln (d.2.getD k ([], [])).1 ∧ Cap l ln lc := by
  obtain ⟨A1, n1, c1, A2, n2, c2, e1, e2, -, -, -, h6, -, -, h9, -, h11⟩ := rd_sys t.rd hz
  injection e2 with e3 e4 e5
  subst e3 e4 e5
  obtain ⟨b, off, l, r, x, e, hb, ex, cl, -, hx⟩ := rd_at h9 (Below.refl wr.heap.size wr) h6 hk
  have hzx : sz sRule x ≤ 1048576 := by rw [← ex.out]; exact h11 k hk
  obtain ⟨L, ln, lc, L', ln', lc', rfl, rfl, s1, q1, -, -, -, -⟩ := rd_rule hx hzx
  exact ⟨b, off, L, ln, lc, e, hb, cl, by rw [ex.out]; exact s1, q1⟩
/-- what is drawn from here on is drawn from the beginning on -/
theorem ansR_from {w1 : World} {L : Nat} {e : Ending} (hg : w.grownBy w1 (some p)) (h : AnsR w1 p A n c L e w') : AnsR w p A n c L e w' := by
  obtain ⟨O, on, oc, xs, he, h1, h2, h3, h4, h5, h6, h7⟩ := h
  exact ⟨O, on, oc, xs, he, h1, h2, h3, h4, h5, h6, hg.trans h7⟩
theorem gives_each60 {ss : List (List Int)} (h : ∀ j, (ss.getD j []).length ≤ 60) (i : Nat) : (givesL ss i).length ≤ 60 := by
  unfold givesL
  split
  · simp [Go.Proofs.Ytfkgiimcnlagmaa.fillMath.vt]
  · exact h i
theorem ansR_at {L base on oc : Nat} {O : Option Addr} {xs : List Int} (t : Dy w p A n c S sn sc R rn rc d wr) (h : Own wr base (.slice O on oc) xs) (hb : w.heap.size ≤ base) (hL : on ≤ L) : AnsR w p A n c L (.returned (.slice O on oc)) wr :=
  ansR_own h (Nat.lt_of_lt_of_le t.hp hb) hL t.di t.g
theorem fit_len {ss : List (List Int)} {t : List Int} (h : Go.Proofs.Ytfkgiimcnlagmaa.filled.fitsB ss t = true) : (Go.Proofs.Ytfkgiimcnlagmaa.filled.fitL ss t).length ≤ 60 := by
  unfold Go.Proofs.Ytfkgiimcnlagmaa.filled.fitL
  rw [if_pos h]
  exact of_decide_eq_true h
theorem sys_rule2 {sg : List Int} {rs : List Rl} (h : sysOkB sg rs = true) {r : Nat} (hr : r < rs.length) : ruleOkB sg (rs.getD r ([], [])) = true := by
  have := Go.Proofs.Ytfkgiimcnlagmaa.walkMath.rl_ok (r := (r : Int)) h (by omega)
  unfold Go.Proofs.Ytfkgiimcnlagmaa.walkMath.rl at this
  simpa using this
theorem put_len {sg t u : List Int} {a : Nat} (h : Go.Proofs.Ytfkgiimcnlagmaa.put.fitB sg t u a = true) : (Go.Proofs.Ytfkgiimcnlagmaa.put.fitL sg t u a).length ≤ 60 := by
  unfold Go.Proofs.Ytfkgiimcnlagmaa.put.fitL
  rw [if_pos h]
  exact of_decide_eq_true h
end

set_option maxHeartbeats 8000000 in
theorem l7DrawTerm (p : Nat) (A : Option Addr) (n c : Nat) (S : Option Addr) (sn sc : Nat) (R : Option Addr) (rn rc : Nat) (d : Dat sSystem) (w : World) (hd : Dice w p A n c) (hs : RdQ w (Out w p) sSystem [.slice S sn sc, .slice R rn rc] d) (hz : sz sSystem d ≤ 2000) :
    Calls Try.prog 82 #[.pointer (some ⟨p, 0, none⟩), .agg #[.slice S sn sc, .slice R rn rc]] w (AnsR w p A n c 65) := by
  obtain ⟨W, hW, rA, bel⟩ := box1 w 29 #[.slice S sn sc, .slice R rn rc]
  have T : Dy w p A n c S sn sc R rn rc d W := ⟨hd.next bel, rA, out_below hs bel, grown_of_below bel _, hd.lt⟩
  have hz1 : sz sSystem d ≤ 1048576 := by omega
  have hlr := T.len hz1
  have hsn : sn ≤ 1048576 := by
    have h1 := (sys_szs hz1).1
    rw [sz_ints] at h1
    have := T.sg.1
    omega
  have LS := Lib.hid (specSystemOk _ _ d W T.rd hz1)
  have HW := Lib.hid hW
  have HT := Lib.hid T
  have K0 : W.cell? ⟨w.heap.size, 0, none⟩ = some (.slice S sn sc) := T.r.cell 0
  have K1 : W.cell? ⟨w.heap.size, 1, none⟩ = some (.slice R rn rc) := T.r.cell 1
  have HLR := Lib.hid hlr.1
  have hrc := hlr.2
  clear hW hd hs bel rA T hlr
  have LA := Lib.hid (fun (w1 : World) (T : Dy w p A n c S sn sc R rn rc d w1) => (drawAny p A n c S sn sc d.1 w1 T.di T.sg hsn).mono fun _ _ h => ansR_from T.g h)
  cases ok : sysOkB d.1 d.2 with
  | false =>
    have HO := Lib.hid ok
    clear ok
    go_enter Try.func82, Try.ntmps82
    go_wp2_with fail
    rw [← HW.out]
    go_wp2_with fail
    refine LS.out.mono ?_
    rintro e w1 ⟨he, bb⟩
    rw [HO.out] at he
    subst he
    have HT1 := Lib.hid (HT.out.next bb)
    have k0 : w1.cell? ⟨w.heap.size, 0, none⟩ = some (.slice S sn sc) := HT1.out.r.cell 0
    clear bb K0 K1 HT LS HW
    have LAX := Lib.hid (LA.out w1 HT1.out)
    go_wp2_with fail
    refine LAX.out.mono ?_
    rintro e w9 ⟨O9, on9, oc9, xs9, rfl, z1, z2, z3, z4, z5, z6, z7⟩
    have F := Lib.hid (show AnsR w p A n c 65 (.returned (.slice O9 on9 oc9)) w9 from ⟨O9, on9, oc9, xs9, rfl, z1, z2, z3, z4, z5, z6, z7⟩)
    clear z1 z2 z3 z4 z5 z6 z7 LAX HT1
    go_wp2
    go_ret
    exact F.out
  | true =>
    have HO := Lib.hid ok
    have hsp := sys_parts ok
    have hars := Lib.hid (sig_arities hsp.1).1
    have hsl : 1 ≤ sn ∧ sn ≤ 8 := by have h1 := (sig_arities hsp.1).2; have h2 := HT.out.sg.1; omega
    have hrn : rn ≤ 12 := by have h1 := hsp.2.1; have h2 := HLR.out; omega
    clear ok hsp
    by_cases h0 : rn = 0
    · have h0' : ¬ (0 : Int) < (rn : Int) := by omega
      have h0d : decide ((0 : Int) < (rn : Int)) = false := decide_eq_false h0'
      clear h0
      go_enter Try.func82, Try.ntmps82
      go_wp2_with fail
      rw [← HW.out]
      go_wp2_with fail
      refine LS.out.mono ?_
      rintro e w1 ⟨he, bb⟩
      rw [HO.out] at he
      subst he
      have HT1 := Lib.hid (HT.out.next bb)
      have k0 : w1.cell? ⟨w.heap.size, 0, none⟩ = some (.slice S sn sc) := HT1.out.r.cell 0
      have k1 : w1.cell? ⟨w.heap.size, 1, none⟩ = some (.slice R rn rc) := HT1.out.r.cell 1
      clear bb K0 K1 HT LS HW
      have LAX := Lib.hid (LA.out w1 HT1.out)
      go_wp2_with fail
      refine LAX.out.mono ?_
      rintro e w9 ⟨O9, on9, oc9, xs9, rfl, z1, z2, z3, z4, z5, z6, z7⟩
      have F := Lib.hid (show AnsR w p A n c 65 (.returned (.slice O9 on9 oc9)) w9 from ⟨O9, on9, oc9, xs9, rfl, z1, z2, z3, z4, z5, z6, z7⟩)
      clear z1 z2 z3 z4 z5 z6 z7 LAX HT1
      go_wp2
      go_ret
      exact F.out
    · have h0' : (0 : Int) < (rn : Int) := by omega
      have h0d : decide ((0 : Int) < (rn : Int)) = true := decide_eq_true h0'
      have h0n : 0 < rn := by omega
      clear h0
      go_enter Try.func82, Try.ntmps82
      go_wp2_with fail
      rw [← HW.out]
      go_wp2_with fail
      refine LS.out.mono ?_
      rintro e w1 ⟨he, bb⟩
      rw [HO.out] at he
      subst he
      have HT1 := Lib.hid (HT.out.next bb)
      have k0 : w1.cell? ⟨w.heap.size, 0, none⟩ = some (.slice S sn sc) := HT1.out.r.cell 0
      have k1 : w1.cell? ⟨w.heap.size, 1, none⟩ = some (.slice R rn rc) := HT1.out.r.cell 1
      have LO := Lib.hid (once p A n c 2 w1 HT1.out.di (by omega) (by omega))
      clear bb K0 K1 HT LS HW
      go_wp2_with fail
      refine LO.out.mono ?_
      rintro e w2 ⟨b1, rfl, d2, g2⟩
      have HT2 := Lib.hid (HT1.out.dice d2 g2)
      clear d2 g2 k0 k1 HT1 LO
      cases b1 with
      | false =>
        have k0 : w2.cell? ⟨w.heap.size, 0, none⟩ = some (.slice S sn sc) := HT2.out.r.cell 0
        have LAX := Lib.hid (LA.out w2 HT2.out)
        go_wp2_with fail
        refine LAX.out.mono ?_
        rintro e w9 ⟨O9, on9, oc9, xs9, rfl, z1, z2, z3, z4, z5, z6, z7⟩
        have F := Lib.hid (show AnsR w p A n c 65 (.returned (.slice O9 on9 oc9)) w9 from ⟨O9, on9, oc9, xs9, rfl, z1, z2, z3, z4, z5, z6, z7⟩)
        clear z1 z2 z3 z4 z5 z6 z7 LAX HT2
        go_wp2
        go_ret
        exact F.out
      | true =>
        have T := HT2.out.next (drew_below w2)
        have c0 : w2.drew.cell? ⟨w.heap.size, 0, none⟩ = some (.slice S sn sc) := T.r.cell 0
        have c1 : w2.drew.cell? ⟨w.heap.size, 1, none⟩ = some (.slice R rn rc) := T.r.cell 1
        have hpw : p < w.heap.size := T.hp
        clear HT2
        go_wp2_with fail
        have hpw2 : p < w2.drew.heap.size := Nat.lt_of_lt_of_le hpw T.g.size
        refine AnyT.start (S := (fun w' => w'.cell? ⟨w.heap.size, 0, none⟩ = some (.slice S sn sc) ∧ w'.cell? ⟨w.heap.size, 1, none⟩ = some (.slice R rn rc))) (fun _ => false) (by kernel_rfl) ⟨c0, c1⟩ (fun hHeld => ?_)
        refine AnyT.takeA (i := 0) (v := ?_) rfl (by kernel_rfl) (by kernel_rfl) (by kernel_rfl) (fun _ _ _ h => h) (Or.inl ⟨by rfl, ?_⟩) ?_
        rotate_left 1
        · (intro w0 _; go_simp; try with_reducible rfl)
        try simp only [Act.put, List.setIfInBounds_toArray, List.set_cons_zero, List.set_cons_succ, List.getElem_toArray, List.getElem_cons_zero, List.getElem_cons_succ]
        refine AnyT.takeA (i := 1) (v := ?_) rfl (by kernel_rfl) (by kernel_rfl) (by kernel_rfl) (fun _ _ _ h => h) (Or.inl ⟨by rfl, ?_⟩) ?_
        rotate_left 1
        · (intro w0 _; go_simp; try with_reducible rfl)
        try simp only [Act.put, List.setIfInBounds_toArray, List.set_cons_zero, List.set_cons_succ, List.getElem_toArray, List.getElem_cons_zero, List.getElem_cons_succ]
        refine AnyT.take (i := 2) (v := ?_) rfl (by kernel_rfl) (by kernel_rfl) (by kernel_rfl) (by kernel_rfl) (fun _ _ _ h => h) (Or.inl ⟨by rfl, ?_⟩) (by assumption) ?_
        rotate_left 1
        · (intro w0 hSw; (try dsimp only at hSw); go_simp; try with_reducible rfl)
        try simp only [Act.put, List.setIfInBounds_toArray, List.set_cons_zero, List.set_cons_succ, List.getElem_toArray, List.getElem_cons_zero, List.getElem_cons_succ]
        refine AnyT.takeA (i := 4) (v := ?_) rfl (by kernel_rfl) (by kernel_rfl) (by kernel_rfl) (fun _ _ _ h => h) (Or.inl ⟨by rfl, ?_⟩) ?_
        rotate_left 1
        · (intro w0 _; go_simp; try with_reducible rfl)
        try simp only [Act.put, List.setIfInBounds_toArray, List.set_cons_zero, List.set_cons_succ, List.getElem_toArray, List.getElem_cons_zero, List.getElem_cons_succ]
        refine AnyT.take (i := 5) (v := ?_) rfl (by kernel_rfl) (by kernel_rfl) (by kernel_rfl) (by kernel_rfl) (fun _ _ _ h => h) (Or.inl ⟨by rfl, ?_⟩) (by assumption) ?_
        rotate_left 1
        · (intro w0 hSw; (try dsimp only at hSw); go_simp; try with_reducible rfl)
        try simp only [Act.put, List.setIfInBounds_toArray, List.set_cons_zero, List.set_cons_succ, List.getElem_toArray, List.getElem_cons_zero, List.getElem_cons_succ]
        refine AnyT.takeA (i := 6) (v := ?_) rfl (by kernel_rfl) (by kernel_rfl) (by kernel_rfl) (fun _ _ _ h => h) (Or.inl ⟨by rfl, ?_⟩) ?_
        rotate_left 1
        · (intro w0 _; go_simp; try with_reducible rfl)
        try simp only [Act.put, List.setIfInBounds_toArray, List.set_cons_zero, List.set_cons_succ, List.getElem_toArray, List.getElem_cons_zero, List.getElem_cons_succ]
        refine AnyT.takeA (i := 7) (v := ?_) rfl (by kernel_rfl) (by kernel_rfl) (by kernel_rfl) (fun _ _ _ h => h) (Or.inl ⟨by rfl, ?_⟩) ?_
        rotate_left 1
        · (intro w0 _; go_simp; try with_reducible rfl)
        try simp only [Act.put, List.setIfInBounds_toArray, List.set_cons_zero, List.set_cons_succ, List.getElem_toArray, List.getElem_cons_zero, List.getElem_cons_succ]
        refine AnyT.take (i := 8) (v := ?_) rfl (by kernel_rfl) (by kernel_rfl) (by kernel_rfl) (by kernel_rfl) (fun _ _ _ h => h) (Or.inl ⟨by rfl, ?_⟩) (by assumption) ?_
        rotate_left 1
        · (intro w0 hSw; (try dsimp only at hSw); go_simp; try with_reducible rfl)
        try simp only [Act.put, List.setIfInBounds_toArray, List.set_cons_zero, List.set_cons_succ, List.getElem_toArray, List.getElem_cons_zero, List.getElem_cons_succ]
        refine AnyT.takeA (i := 9) (v := ?_) rfl (by kernel_rfl) (by kernel_rfl) (by kernel_rfl) (fun _ _ _ h => h) (Or.inl ⟨by rfl, ?_⟩) ?_
        rotate_left 1
        · (intro w0 _; go_simp; try with_reducible rfl)
        try simp only [Act.put, List.setIfInBounds_toArray, List.set_cons_zero, List.set_cons_succ, List.getElem_toArray, List.getElem_cons_zero, List.getElem_cons_succ]
        refine AnyT.call (i := 3) (by kernel_rfl) rfl (fun K hK => ?_)
        try simp only [Act.put, List.setIfInBounds_toArray, List.set_cons_zero, List.set_cons_succ, List.getElem_toArray, List.getElem_cons_zero, List.getElem_cons_succ]
        rw [if_pos (by rfl)]
        go_simp
        (go_at_call 113; refine (Go.Proofs.Ytfkgiimcnlagmaa.drawS.draw p A n c S sn sc d.1 _ T.di T.sg hars.out (by omega) (by omega)).mono ?_; rintro e u1 ⟨B, m, cB, xss, rfl, oB, hB, d1, g1⟩; replace T := T.dice d1 g1; have e0u1 : u1.cell? ⟨w.heap.size, 0, none⟩ = some (.slice S sn sc) := T.r.cell 0; have e1u1 : u1.cell? ⟨w.heap.size, 1, none⟩ = some (.slice R rn rc) := T.r.cell 1; go_wp2_with fail)
        refine hK.out _ _ (fun _ _ => ?_) (fun hKeep => ?_)
        · exact ⟨e0u1, e1u1⟩
        replace hHeld := hKeep (by first | rfl | trivial) hHeld
        clear hK K hKeep
        try simp only [Act.put, List.setIfInBounds_toArray, List.set_cons_zero, List.set_cons_succ, List.getElem_toArray, List.getElem_cons_zero, List.getElem_cons_succ]
        refine AnyT.call (i := 10) (by kernel_rfl) rfl (fun K hK => ?_)
        try simp only [Act.put, List.setIfInBounds_toArray, List.set_cons_zero, List.set_cons_succ, List.getElem_toArray, List.getElem_cons_zero, List.getElem_cons_succ]
        rw [if_pos (by rfl)]
        go_simp
        (go_at_call 109; refine (below p A n c (rn : Int) _ T.di (by omega) (by omega)).mono ?_; rintro e u2 ⟨x, rfl, hx0, hx1, d2, g2⟩; replace T := T.dice d2 g2; obtain ⟨k, rfl⟩ := Int.eq_ofNat_of_zero_le hx0; have hk : k < rn := (by omega); have oB2 := oB.dice g2 hpw2; have e0u2 : u2.cell? ⟨w.heap.size, 0, none⟩ = some (.slice S sn sc) := T.r.cell 0; have e1u2 : u2.cell? ⟨w.heap.size, 1, none⟩ = some (.slice R rn rc) := T.r.cell 1; go_wp2_with fail)
        refine hK.out _ _ (fun _ _ => ?_) (fun hKeep => ?_)
        · exact ⟨e0u2, e1u2⟩
        replace hHeld := hKeep (by first | rfl | trivial) hHeld
        clear hK K hKeep
        try simp only [Act.put, List.setIfInBounds_toArray, List.set_cons_zero, List.set_cons_succ, List.getElem_toArray, List.getElem_cons_zero, List.getElem_cons_succ]
        obtain ⟨rb, roff, lA, ln, lc, hR, hrb, cl, sL, qL⟩ := T.rule hz1 hk
        subst hR
        have hl60 : ln ≤ 60 := by have h1 := (rule_parts (sys_rule2 HO.out (show k < d.2.length by rw [HLR.out]; exact hk))).1; have h2 := (term_len h1).2; have h3 := sL.1; omega
        have hvars := Lib.hid (fun (x : Int) hx => (term_mem (rule_parts (sys_rule2 HO.out (show k < d.2.length by rw [HLR.out]; exact hk))).1 (x := x) hx).1)
        obtain ⟨ls, hls⟩ : ∃ l, (d.2.getD k ([], [])).1 = l := ⟨_, rfl⟩
        rw [hls] at sL hvars
        clear hls
        have i0 : (0 : Int) ≤ (k : Int) := by omega
        have i1 : (k : Int) < (rn : Int) := by omega
        have HSL := Lib.hid sL
        have HSB := Lib.hid (Go.Proofs.Ytfkgiimcnlagmaa.drawSS.OwnR.segs oB2)
        have hT1 := Lib.hid (small_tot hB oB2.1 (by omega))
        have hG1 := Lib.hid (gives_each60 (fun j => Nat.le_trans (hB.2 j) (by omega)))
        clear sL d1 g1 d2 g2 oB hx0 hx1
        refine AnyT.call (i := 11) (by kernel_rfl) rfl (fun K hK => ?_)
        try simp only [Act.put, List.setIfInBounds_toArray, List.set_cons_zero, List.set_cons_succ, List.getElem_toArray, List.getElem_cons_zero, List.getElem_cons_succ]
        rw [if_pos (by rfl)]
        go_simp
        refine hK.out _ _ (fun _ _ => ?_) (fun hKeep => ?_)
        · exact ⟨e0u2, e1u2⟩
        replace hHeld := hKeep (by first | rfl | trivial) hHeld
        clear hK K hKeep
        try simp only [Act.put, List.setIfInBounds_toArray, List.set_cons_zero, List.set_cons_succ, List.getElem_toArray, List.getElem_cons_zero, List.getElem_cons_succ]
        refine AnyT.call (i := 12) (by kernel_rfl) rfl (fun K hK => ?_)
        try simp only [Act.put, List.setIfInBounds_toArray, List.set_cons_zero, List.set_cons_succ, List.getElem_toArray, List.getElem_cons_zero, List.getElem_cons_succ]
        rw [if_pos (by rfl)]
        go_simp
        refine hK.out _ _ (fun _ _ => ?_) (fun hKeep => ?_)
        · exact ⟨e0u2, e1u2⟩
        replace hHeld := hKeep (by first | rfl | trivial) hHeld
        clear hK K hKeep
        try simp only [Act.put, List.setIfInBounds_toArray, List.set_cons_zero, List.set_cons_succ, List.getElem_toArray, List.getElem_cons_zero, List.getElem_cons_succ]
        refine AnyT.call (i := 13) (by kernel_rfl) rfl (fun K hK => ?_)
        try simp only [Act.put, List.setIfInBounds_toArray, List.set_cons_zero, List.set_cons_succ, List.getElem_toArray, List.getElem_cons_zero, List.getElem_cons_succ]
        rw [if_pos (by rfl)]
        go_simp
        refine hK.out _ _ (fun _ _ => ?_) (fun hKeep => ?_)
        · exact ⟨e0u2, e1u2⟩
        replace hHeld := hKeep (by first | rfl | trivial) hHeld
        clear hK K hKeep
        try simp only [Act.put, List.setIfInBounds_toArray, List.set_cons_zero, List.set_cons_succ, List.getElem_toArray, List.getElem_cons_zero, List.getElem_cons_succ]
        refine AnyT.call (i := 14) (by kernel_rfl) rfl (fun K hK => ?_)
        try simp only [Act.put, List.setIfInBounds_toArray, List.set_cons_zero, List.set_cons_succ, List.getElem_toArray, List.getElem_cons_zero, List.getElem_cons_succ]
        rw [if_pos (by rfl)]
        go_simp
        (go_at_call 112; refine (Go.Proofs.Ytfkgiimcnlagmaa.filled.l2Filled B lA m cB ln lc xss ls u2 HSB.out HSL.out hT1.out hl60 hvars.out hG1.out).mono ?_; rintro e u3 ⟨O, on, oc, rfl, oO, b3⟩; have zu2 : w.heap.size ≤ u2.heap.size := T.g.size; replace T := T.next b3; have zu3 := b3.size; have e0u3 : u3.cell? ⟨w.heap.size, 0, none⟩ = some (.slice S sn sc) := T.r.cell 0; have e1u3 : u3.cell? ⟨w.heap.size, 1, none⟩ = some (.slice (some ⟨rb, roff, none⟩) rn rc) := T.r.cell 1; go_wp2_with fail)
        refine hK.out _ _ (fun _ _ => ?_) (fun hKeep => ?_)
        · exact ⟨e0u3, e1u3⟩
        replace hHeld := hKeep (by first | rfl | trivial) hHeld
        clear hK K hKeep
        try simp only [Act.put, List.setIfInBounds_toArray, List.set_cons_zero, List.set_cons_succ, List.getElem_toArray, List.getElem_cons_zero, List.getElem_cons_succ]
        refine AnyT.takeA (i := 15) (v := ?_) rfl (by kernel_rfl) (by kernel_rfl) (by kernel_rfl) (fun _ _ _ h => h) (Or.inl ⟨by rfl, ?_⟩) ?_
        rotate_left 1
        · (intro w0 _; go_simp; try with_reducible rfl)
        try simp only [Act.put, List.setIfInBounds_toArray, List.set_cons_zero, List.set_cons_succ, List.getElem_toArray, List.getElem_cons_zero, List.getElem_cons_succ]
        refine AnyT.takeA (i := 16) (v := ?_) rfl (by kernel_rfl) (by kernel_rfl) (by kernel_rfl) (fun _ _ _ h => h) (Or.inl ⟨by rfl, ?_⟩) ?_
        rotate_left 1
        · (intro w0 _; go_simp; try with_reducible rfl)
        try simp only [Act.put, List.setIfInBounds_toArray, List.set_cons_zero, List.set_cons_succ, List.getElem_toArray, List.getElem_cons_zero, List.getElem_cons_succ]
        refine AnyT.takeA (i := 17) (v := ?_) rfl (by kernel_rfl) (by kernel_rfl) (by kernel_rfl) (fun _ _ _ h => h) (Or.inl ⟨by rfl, ?_⟩) ?_
        rotate_left 1
        · (intro w0 _; go_simp; try with_reducible rfl)
        try simp only [Act.put, List.setIfInBounds_toArray, List.set_cons_zero, List.set_cons_succ, List.getElem_toArray, List.getElem_cons_zero, List.getElem_cons_succ]
        refine AnyT.takeA (i := 18) (v := ?_) rfl (by kernel_rfl) (by kernel_rfl) (by kernel_rfl) (fun _ _ _ h => h) (Or.inl ⟨by rfl, ?_⟩) ?_
        rotate_left 1
        · (intro w0 _; go_simp; try with_reducible rfl)
        try simp only [Act.put, List.setIfInBounds_toArray, List.set_cons_zero, List.set_cons_succ, List.getElem_toArray, List.getElem_cons_zero, List.getElem_cons_succ]
        refine AnyT.takeA (i := 19) (v := ?_) rfl (by kernel_rfl) (by kernel_rfl) (by kernel_rfl) (fun _ _ _ h => h) (Or.inl ⟨by rfl, ?_⟩) ?_
        rotate_left 1
        · (intro w0 _; go_simp; try with_reducible rfl)
        try simp only [Act.put, List.setIfInBounds_toArray, List.set_cons_zero, List.set_cons_succ, List.getElem_toArray, List.getElem_cons_zero, List.getElem_cons_succ]
        refine AnyT.done (by kernel_rfl) ?_ _
        clear e0u1 e1u1 e0u2 e1u2 e0u3 e1u3 cl
        have HT5 := Lib.hid T
        have HOO := Lib.hid oO
        clear T oO b3
        obtain ⟨bf, hbf⟩ : ∃ b, Go.Proofs.Ytfkgiimcnlagmaa.filled.fitsB xss ls = b := ⟨_, rfl⟩
        obtain ⟨ys, hys⟩ : ∃ y, Go.Proofs.Ytfkgiimcnlagmaa.filled.fitL xss ls = y := ⟨_, rfl⟩
        rw [hys] at HOO
        rw [hbf]
        have HYS := Lib.hid (show bf = true → ys.length ≤ 60 from fun e => by rw [← hys]; exact fit_len (hbf.trans e))
        clear hbf hys c0 c1
        cases bf with
        | false =>
          have k0 : u3.cell? ⟨w.heap.size, 0, none⟩ = some (.slice S sn sc) := HT5.out.r.cell 0
          have LAX := Lib.hid (LA.out u3 HT5.out)
          go_wp2_with fail
          refine LAX.out.mono ?_
          rintro e w9 ⟨O9, on9, oc9, xs9, rfl, z1, z2, z3, z4, z5, z6, z7⟩
          have F := Lib.hid (show AnsR w p A n c 65 (.returned (.slice O9 on9 oc9)) w9 from ⟨O9, on9, oc9, xs9, rfl, z1, z2, z3, z4, z5, z6, z7⟩)
          clear z1 z2 z3 z4 z5 z6 z7 LAX HT5
          go_wp2
          go_ret
          exact F.out
        | true =>
          have hon60 : on ≤ 60 := by have h1 := HYS.out rfl; have h2 := Own.len HOO.out; omega
          have LO := Lib.hid (once p A n c 2 u3 HT5.out.di (by omega) (by omega))
          go_wp2_with fail
          refine LO.out.mono ?_
          rintro e w6 ⟨b2, rfl, d6, g6⟩
          have HT6 := Lib.hid (HT5.out.dice d6 g6)
          have HO6 := Lib.hid (Go.Proofs.Ytfkgiimcnlagmaa.drawSig.Own.away HOO.out g6 (fun k e => by injection e with e; omega))
          clear d6 g6 HT5 HOO LO
          cases b2 with
          | true =>
            have F := Lib.hid (ansR_at (L := 65) HT6.out HO6.out (by omega) (by omega))
            clear HT6 HO6
            go_wp2
            go_ret
            exact F.out
          | false =>
            have k0 : w6.cell? ⟨w.heap.size, 0, none⟩ = some (.slice S sn sc) := HT6.out.r.cell 0
            have LU := Lib.hid (drawTermW p A n c S sn sc d.1 2 hars.out (by omega) (by omega) (by omega) (by omega) 2 3 w6 HT6.out.di HT6.out.sg (by omega) (by omega) (by omega))
            go_wp2_with fail
            refine LU.out.mono ?_
            rintro e w7 ⟨U, un, uc, us, rfl, oU, hu1, hu2, husc, d7, g7⟩
            have hw67 : w6.heap.size ≤ w7.heap.size := g7.size
            have HT7 := Lib.hid (HT6.out.dice d7 g7)
            have HO7 := Lib.hid (Go.Proofs.Ytfkgiimcnlagmaa.drawSig.Own.away HO6.out g7 (fun k e => by injection e with e; omega))
            have hu16 : un ≤ 16 := by have : (4 : Nat) ^ 2 = 16 := rfl; omega
            have HUT := Lib.hid (show termOkB d.1 us = true from term_mk (sys_parts HO.out).1 (by have := Own.len oU; omega) husc)
            have hpw7 : p < w7.heap.size := Nat.lt_of_lt_of_le hpw HT7.out.g.size
            have hw6 : w.heap.size ≤ w6.heap.size := HT6.out.g.size
            have T := HT7.out.next (drew_below w7)
            have oU1 := oU.next (drew_below w7)
            have oY1 := HO7.out.next (drew_below w7)
            have c0 : w7.drew.cell? ⟨w.heap.size, 0, none⟩ = some (.slice S sn sc) := T.r.cell 0
            clear k0 d7 g7 HT6 HO6 LU husc oU HT7 HO7
            go_wp2_with fail
            refine AnyT.start (S := (fun w' => w'.cell? ⟨w.heap.size, 0, none⟩ = some (.slice S sn sc))) (fun _ => false) (by kernel_rfl) c0 (fun hHeld => ?_)
            refine AnyT.takeA (i := 0) (v := ?_) rfl (by kernel_rfl) (by kernel_rfl) (by kernel_rfl) (fun _ _ _ h => h) (Or.inl ⟨by rfl, ?_⟩) ?_
            rotate_left 1
            · (intro w0 _; go_simp; try with_reducible rfl)
            try simp only [Act.put, List.setIfInBounds_toArray, List.set_cons_zero, List.set_cons_succ, List.getElem_toArray, List.getElem_cons_zero, List.getElem_cons_succ]
            refine AnyT.take (i := 1) (v := ?_) rfl (by kernel_rfl) (by kernel_rfl) (by kernel_rfl) (by kernel_rfl) (fun _ _ _ h => h) (Or.inl ⟨by rfl, ?_⟩) (by assumption) ?_
            rotate_left 1
            · (intro w0 hSw; (try dsimp only at hSw); go_simp; try with_reducible rfl)
            try simp only [Act.put, List.setIfInBounds_toArray, List.set_cons_zero, List.set_cons_succ, List.getElem_toArray, List.getElem_cons_zero, List.getElem_cons_succ]
            refine AnyT.takeA (i := 2) (v := ?_) rfl (by kernel_rfl) (by kernel_rfl) (by kernel_rfl) (fun _ _ _ h => h) (Or.inl ⟨by rfl, ?_⟩) ?_
            rotate_left 1
            · (intro w0 _; go_simp; try with_reducible rfl)
            try simp only [Act.put, List.setIfInBounds_toArray, List.set_cons_zero, List.set_cons_succ, List.getElem_toArray, List.getElem_cons_zero, List.getElem_cons_succ]
            refine AnyT.takeA (i := 3) (v := ?_) rfl (by kernel_rfl) (by kernel_rfl) (by kernel_rfl) (fun _ _ _ h => h) (Or.inl ⟨by rfl, ?_⟩) ?_
            rotate_left 1
            · (intro w0 _; go_simp; try with_reducible rfl)
            try simp only [Act.put, List.setIfInBounds_toArray, List.set_cons_zero, List.set_cons_succ, List.getElem_toArray, List.getElem_cons_zero, List.getElem_cons_succ]
            refine AnyT.takeA (i := 4) (v := ?_) rfl (by kernel_rfl) (by kernel_rfl) (by kernel_rfl) (fun _ _ _ h => h) (Or.inl ⟨by rfl, ?_⟩) ?_
            rotate_left 1
            · (intro w0 _; go_simp; try with_reducible rfl)
            try simp only [Act.put, List.setIfInBounds_toArray, List.set_cons_zero, List.set_cons_succ, List.getElem_toArray, List.getElem_cons_zero, List.getElem_cons_succ]
            refine AnyT.takeA (i := 5) (v := ?_) rfl (by kernel_rfl) (by kernel_rfl) (by kernel_rfl) (fun _ _ _ h => h) (Or.inl ⟨by rfl, ?_⟩) ?_
            rotate_left 1
            · (intro w0 _; go_simp; try with_reducible rfl)
            try simp only [Act.put, List.setIfInBounds_toArray, List.set_cons_zero, List.set_cons_succ, List.getElem_toArray, List.getElem_cons_zero, List.getElem_cons_succ]
            refine AnyT.takeA (i := 7) (v := ?_) rfl (by kernel_rfl) (by kernel_rfl) (by kernel_rfl) (fun _ _ _ h => h) (Or.inl ⟨by rfl, ?_⟩) ?_
            rotate_left 1
            · (intro w0 _; go_simp; try with_reducible rfl)
            try simp only [Act.put, List.setIfInBounds_toArray, List.set_cons_zero, List.set_cons_succ, List.getElem_toArray, List.getElem_cons_zero, List.getElem_cons_succ]
            refine AnyT.call (i := 6) (by kernel_rfl) rfl (fun K hK => ?_)
            try simp only [Act.put, List.setIfInBounds_toArray, List.set_cons_zero, List.set_cons_succ, List.getElem_toArray, List.getElem_cons_zero, List.getElem_cons_succ]
            rw [if_pos (by rfl)]
            go_simp
            (go_at_call 109; refine (below p A n c (un : Int) _ T.di (by omega) (by omega)).mono ?_; rintro e u9 ⟨x, rfl, hx0, hx1, d9, g9⟩; replace T := T.dice d9 g9; obtain ⟨a, rfl⟩ := Int.eq_ofNat_of_zero_le hx0; have ha : a < un := (by omega); have oU2 := Go.Proofs.Ytfkgiimcnlagmaa.drawSig.Own.away oU1 g9 (fun k e => by injection e with e; omega); have oY2 := Go.Proofs.Ytfkgiimcnlagmaa.drawSig.Own.away oY1 g9 (fun k e => by injection e with e; omega); have e0u9 : u9.cell? ⟨w.heap.size, 0, none⟩ = some (.slice S sn sc) := T.r.cell 0; go_wp2_with fail)
            refine hK.out _ _ (fun _ _ => ?_) (fun hKeep => ?_)
            · exact e0u9
            replace hHeld := hKeep (by first | rfl | trivial) hHeld
            clear hK K hKeep
            try simp only [Act.put, List.setIfInBounds_toArray, List.set_cons_zero, List.set_cons_succ, List.getElem_toArray, List.getElem_cons_zero, List.getElem_cons_succ]
            have haU : a < us.length := by have := Own.len oU2; omega
            have LP := Lib.hid (Go.Proofs.Ytfkgiimcnlagmaa.put.l3Put S U O sn sc un uc on oc d.1 us ys a u9 T.sg.seg (Own.seg oU2) (Own.seg oY2) (look.own_cap oY2).2.2 (by omega) (by omega) hon60 (look.own_cap oU2).1 (look.own_cap oU2).2.1 HUT.out haU)
            clear d9 g9 oU1 oY1 oU2 oY2 hx0 hx1 haU
            refine AnyT.call (i := 8) (by kernel_rfl) rfl (fun K hK => ?_)
            try simp only [Act.put, List.setIfInBounds_toArray, List.set_cons_zero, List.set_cons_succ, List.getElem_toArray, List.getElem_cons_zero, List.getElem_cons_succ]
            rw [if_pos (by rfl)]
            go_simp
            (go_at_call 115; refine LP.out.mono ?_; rintro e u10 ⟨X, xn, xc, rfl, oX, b10⟩; have zu9 : w.heap.size ≤ u9.heap.size := T.g.size; replace T := T.next b10; have e0u10 : u10.cell? ⟨w.heap.size, 0, none⟩ = some (.slice S sn sc) := T.r.cell 0; go_wp2_with fail)
            refine hK.out _ _ (fun _ _ => ?_) (fun hKeep => ?_)
            · exact e0u10
            replace hHeld := hKeep (by first | rfl | trivial) hHeld
            clear hK K hKeep
            try simp only [Act.put, List.setIfInBounds_toArray, List.set_cons_zero, List.set_cons_succ, List.getElem_toArray, List.getElem_cons_zero, List.getElem_cons_succ]
            refine AnyT.takeA (i := 9) (v := ?_) rfl (by kernel_rfl) (by kernel_rfl) (by kernel_rfl) (fun _ _ _ h => h) (Or.inl ⟨by rfl, ?_⟩) ?_
            rotate_left 1
            · (intro w0 _; go_simp; try with_reducible rfl)
            try simp only [Act.put, List.setIfInBounds_toArray, List.set_cons_zero, List.set_cons_succ, List.getElem_toArray, List.getElem_cons_zero, List.getElem_cons_succ]
            refine AnyT.takeA (i := 10) (v := ?_) rfl (by kernel_rfl) (by kernel_rfl) (by kernel_rfl) (fun _ _ _ h => h) (Or.inl ⟨by rfl, ?_⟩) ?_
            rotate_left 1
            · (intro w0 _; go_simp; try with_reducible rfl)
            try simp only [Act.put, List.setIfInBounds_toArray, List.set_cons_zero, List.set_cons_succ, List.getElem_toArray, List.getElem_cons_zero, List.getElem_cons_succ]
            refine AnyT.takeA (i := 11) (v := ?_) rfl (by kernel_rfl) (by kernel_rfl) (by kernel_rfl) (fun _ _ _ h => h) (Or.inl ⟨by rfl, ?_⟩) ?_
            rotate_left 1
            · (intro w0 _; go_simp; try with_reducible rfl)
            try simp only [Act.put, List.setIfInBounds_toArray, List.set_cons_zero, List.set_cons_succ, List.getElem_toArray, List.getElem_cons_zero, List.getElem_cons_succ]
            refine AnyT.takeA (i := 12) (v := ?_) rfl (by kernel_rfl) (by kernel_rfl) (by kernel_rfl) (fun _ _ _ h => h) (Or.inl ⟨by rfl, ?_⟩) ?_
            rotate_left 1
            · (intro w0 _; go_simp; try with_reducible rfl)
            try simp only [Act.put, List.setIfInBounds_toArray, List.set_cons_zero, List.set_cons_succ, List.getElem_toArray, List.getElem_cons_zero, List.getElem_cons_succ]
            refine AnyT.takeA (i := 13) (v := ?_) rfl (by kernel_rfl) (by kernel_rfl) (by kernel_rfl) (fun _ _ _ h => h) (Or.inl ⟨by rfl, ?_⟩) ?_
            rotate_left 1
            · (intro w0 _; go_simp; try with_reducible rfl)
            try simp only [Act.put, List.setIfInBounds_toArray, List.set_cons_zero, List.set_cons_succ, List.getElem_toArray, List.getElem_cons_zero, List.getElem_cons_succ]
            refine AnyT.done (by kernel_rfl) ?_ _
            clear e0u9 e0u10
            have HT10 := Lib.hid T
            have HOX := Lib.hid oX
            clear T oX b10 c0
            obtain ⟨bf, hbf⟩ : ∃ b, Go.Proofs.Ytfkgiimcnlagmaa.put.fitB d.1 us ys a = b := ⟨_, rfl⟩
            obtain ⟨zs, hzs⟩ : ∃ y, Go.Proofs.Ytfkgiimcnlagmaa.put.fitL d.1 us ys a = y := ⟨_, rfl⟩
            rw [hzs] at HOX
            rw [hbf]
            have HZ := Lib.hid (show bf = true → zs.length ≤ 60 from fun e => by rw [← hzs]; exact put_len (hbf.trans e))
            clear hbf hzs
            cases bf with
            | true =>
              have hxn : xn ≤ 65 := by have h1 := HZ.out rfl; have h2 := Own.len HOX.out; omega
              have F := Lib.hid (ansR_at (L := 65) HT10.out HOX.out (by have := HT10.out.g.size; omega) hxn)
              clear HT10 HOX
              go_wp2
              go_ret
              exact F.out
            | false =>
              have k0 : u10.cell? ⟨w.heap.size, 0, none⟩ = some (.slice S sn sc) := HT10.out.r.cell 0
              have LAX := Lib.hid (LA.out u10 HT10.out)
              go_wp2_with fail
              refine LAX.out.mono ?_
              rintro e w9 ⟨O9, on9, oc9, xs9, rfl, z1, z2, z3, z4, z5, z6, z7⟩
              have F := Lib.hid (show AnsR w p A n c 65 (.returned (.slice O9 on9 oc9)) w9 from ⟨O9, on9, oc9, xs9, rfl, z1, z2, z3, z4, z5, z6, z7⟩)
              clear z1 z2 z3 z4 z5 z6 z7 LAX HT10
              go_wp2
              go_ret
              exact F.out
end Go.Proofs.Ytfkgiimcnlagmaa.drawL7
end

section
/-
  CONTRACTS: spec.l7Draw, DrawRedexesIn, DrawStepsFrom: a drawn system and a drawn term. Conditions: the bytes of a draw. Written by a program of mine (mkdrawl7b.py). By an AI agent.
-/
namespace Go.Proofs.Ytfkgiimcnlagmaa.drawL7
open Go.RowKit Go.Proofs.Ytfkgiimcnlagmaa.base Go.Proofs.Ytfkgiimcnlagmaa.ints Go.Proofs.Ytfkgiimcnlagmaa.sig Go.Proofs.Ytfkgiimcnlagmaa.term Go.Proofs.Ytfkgiimcnlagmaa.termOk Go.Proofs.Ytfkgiimcnlagmaa.termFacts Go.Proofs.Ytfkgiimcnlagmaa.cursor Go.Proofs.Ytfkgiimcnlagmaa.marks Go.Proofs.Ytfkgiimcnlagmaa.app Go.Proofs.Ytfkgiimcnlagmaa.appAt Go.Proofs.Ytfkgiimcnlagmaa.sym Go.Proofs.Ytfkgiimcnlagmaa.segs Go.Proofs.Ytfkgiimcnlagmaa.segsHelp Go.Proofs.Ytfkgiimcnlagmaa.kinds Go.Proofs.Ytfkgiimcnlagmaa.dice Go.Proofs.Ytfkgiimcnlagmaa.drawTerm Go.Proofs.Ytfkgiimcnlagmaa.drawAny Go.Proofs.Ytfkgiimcnlagmaa.drawSub Go.Proofs.Ytfkgiimcnlagmaa.drawTwo Go.Proofs.Ytfkgiimcnlagmaa.drawTermW Go.Proofs.Ytfkgiimcnlagmaa.drawX Go.Proofs.Ytfkgiimcnlagmaa.drawRule Go.Proofs.Ytfkgiimcnlagmaa.drawKnown Go.Proofs.Ytfkgiimcnlagmaa.drawSys Go.Proofs.Ytfkgiimcnlagmaa.drawSysAny Go.Proofs.Ytfkgiimcnlagmaa.drawSysD Go.Proofs.Ytfkgiimcnlagmaa.ruleMath Go.Proofs.Ytfkgiimcnlagmaa.ruleSpec Go.Proofs.Ytfkgiimcnlagmaa.gives Go.Proofs.Ytfkgiimcnlagmaa.heldT
open Go.Proofs.Ytfkgiimcnlagmaa.shape (Sh Dat nc dft sI sz sz_ints rd_ints)
open Go.Proofs.Ytfkgiimcnlagmaa.kindsR (sRule sSystem sRuleS sSig)
set_option maxRecDepth 100000

/-- a drawn system and a drawn term: what they are good for in a world -/
structure St (w : World) (p lo : Nat) (A : Option Addr) (n c : Nat) (S : Option Addr) (sn sc : Nat) (sg : List Int) (R : Option Addr) (rn rc : Nat) (D : List (Dat sRule)) (O : Option Addr) (on oc : Nat) (t : List Int) (wr : World) : Prop where
  s : RdQ wr (OutR wr p (blk R)) sI [.slice S sn sc] sg
  h9 : sg.length ≤ 9
  own : OwnQ wr p lo 115 sRule R rn rc D
  hM : SmallD 13 D
  t : Go.Proofs.Ytfkgiimcnlagmaa.drawTerm.Rd wr p wr.heap.size O on t
  ct : Cap O on oc
  h65 : on ≤ 65
  di : Dice wr p A n c
  g : w.grownBy wr (some p)
section
variable {w : World} {p lo : Nat} {A : Option Addr} {n c : Nat} {S : Option Addr} {sn sc : Nat} {sg : List Int} {R : Option Addr} {rn rc : Nat} {D : List (Dat sRule)} {O : Option Addr} {on oc : Nat} {t : List Int} {wr w' : World}
/-- numbers lie in no row of two slices -/
theorem rdT_put {N i : Nat} {T : TypeId} {a1 a2 : Option Addr} {l1 k1 l2 k2 : Nat} {u : Value} (h : Go.Proofs.Ytfkgiimcnlagmaa.drawTerm.Rd wr p wr.heap.size O on t) (hN : Row wr N T #[.slice a1 l1 k1, .slice a2 l2 k2]) : Go.Proofs.Ytfkgiimcnlagmaa.drawTerm.Rd (wr.setCell ⟨N, i, none⟩ u) p (wr.setCell ⟨N, i, none⟩ u).heap.size O on t := by
  refine ⟨h.1, fun hn => ?_⟩
  obtain ⟨b, off, e, hb, hne, hc⟩ := h.2 hn
  refine ⟨b, off, e, by simpa using hb, hne, fun j hj => ?_⟩
  have hbN : b ≠ N := fun e => by
    subst e
    have h1 := hc j hj
    rw [hN.cell] at h1
    have hlt : off + j = 0 ∨ off + j = 1 ∨ 2 ≤ off + j := by omega
    rcases hlt with e2 | e2 | e2
    · rw [e2] at h1; cases h1
    · rw [e2] at h1; cases h1
    · rw [Array.getElem?_eq_none (by simpa using e2)] at h1; cases h1
  exact (World.cell?_of_block (Below.heap_setCell wr _ u b (by show b ≠ N; exact hbN))).trans (hc j hj)
theorem St.put {N i : Nat} {T : TypeId} {a1 a2 : Option Addr} {l1 k1 l2 k2 : Nat} {u : Value} (h : St w p lo A n c S sn sc sg R rn rc D O on oc t wr) (hN : Row wr N T #[.slice a1 l1 k1, .slice a2 l2 k2]) (hNlo : N < lo) (hNp : N ≠ p) (hw : w.heap.size ≤ N) :
    St w p lo A n c S sn sc sg R rn rc D O on oc t (wr.setCell ⟨N, i, none⟩ u) := by
  have hne : blk R ≠ some N := fun e => by have := (h.own.ge _ e).1; omega
  refine ⟨ints_put h.s hN i u, h.h9, ownQ_put h.own hN hne i u, h.hM, rdT_put h.t hN, h.ct, h.h65, ?_, ?_⟩
  · obtain ⟨j, hh, dd⟩ := h.di
    refine ⟨j, hh, dd.row.far (fun e => hNp e.symm) _, dd.le, fun hp => ?_, dd.hn⟩
    obtain ⟨b, off, e, hb, hc⟩ := dd.s hp
    refine ⟨b, off, e, hb, fun q hq => ?_⟩
    obtain ⟨x, x0, x1, hx⟩ := hc q hq
    have hbN : b ≠ N := fun e => by
      subst e
      rw [hN.cell] at hx
      have hlt : off + q = 0 ∨ off + q = 1 ∨ 2 ≤ off + q := by omega
      rcases hlt with e2 | e2 | e2
      · rw [e2] at hx; cases hx
      · rw [e2] at hx; cases hx
      · rw [Array.getElem?_eq_none (by simpa using e2)] at hx; cases hx
    exact ⟨x, x0, x1, (World.cell?_of_block (Below.heap_setCell wr _ u b (by show b ≠ N; exact hbN))).trans hx⟩
  · exact ⟨h.g.os, h.g.tape, h.g.output, by simpa using h.g.size, fun k hk hne => (Below.heap_setCell wr _ u k (by show k ≠ N; omega)).trans (h.g.block k hk hne)⟩
theorem St.from {w0 : World} (h : St w p lo A n c S sn sc sg R rn rc D O on oc t wr) (hg : w0.grownBy w (some p)) : St w0 p lo A n c S sn sc sg R rn rc D O on oc t wr := ⟨h.s, h.h9, h.own, h.hM, h.t, h.ct, h.h65, h.di, hg.trans h.g⟩
theorem St.next (h : St w p lo A n c S sn sc sg R rn rc D O on oc t wr) (hb : Below wr.heap.size wr w') : St w p lo A n c S sn sc sg R rn rc D O on oc t w' :=
  ⟨outR_below h.s hb, h.h9, h.own.below hb, h.hM, by
    refine ⟨h.t.1, fun hn => ?_⟩
    obtain ⟨b, off, e, hb2, hne, hc⟩ := h.t.2 hn
    exact ⟨b, off, e, Nat.lt_of_lt_of_le hb2 hb.size, hne, fun j hj => (hb.cell (p := ⟨b, off + j, none⟩) hb2).trans (hc j hj)⟩, h.ct, h.h65, h.di.next hb, h.g.trans (grown_of_below hb _)⟩
theorem St.sz (h : St w p lo A n c S sn sc sg R rn rc D O on oc t wr) : sz sSystem ((sg, D) : List Int × List (Dat sRule)) ≤ 2000 := by
  have h1 := sz_small h.hM
  have h2 := h.h9
  show Go.Proofs.Ytfkgiimcnlagmaa.shape.sz sI sg + Go.Proofs.Ytfkgiimcnlagmaa.shape.sz sRuleS D ≤ 2000
  rw [Go.Proofs.Ytfkgiimcnlagmaa.shape.sz_ints]
  omega
/-- .. as data -/
def AnsST (w : World) (e : Ending) (w' : World) : Prop :=
  ∃ S sn sc R rn rc d O on oc t, e = .returned (.tuple #[.agg #[.slice S sn sc, .slice R rn rc], .slice O on oc]) ∧ Go.Proofs.Ytfkgiimcnlagmaa.shape.Rd w' w'.heap.size sSystem [.slice S sn sc, .slice R rn rc] d ∧ Go.Proofs.Ytfkgiimcnlagmaa.shape.sz sSystem d ≤ 2000 ∧ Go.Proofs.Ytfkgiimcnlagmaa.shape.Rd w' w'.heap.size sI [.slice O on oc] t ∧ List.length t ≤ 65 ∧ Below w.heap.size w w'
end
/-- what l7Draw tells -/
def AnsSysT (w : World) (p : Nat) (A : Option Addr) (n c : Nat) (e : Ending) (w' : World) : Prop :=
  ∃ S sn sc sg R rn rc D O on oc t, e = .returned (.tuple #[.agg #[.slice S sn sc, .slice R rn rc], .slice O on oc]) ∧ St w p w.heap.size A n c S sn sc sg R rn rc D O on oc t w'

set_option maxHeartbeats 4000000 in
theorem l7Draw (p : Nat) (A : Option Addr) (n c : Nat) (w : World) (hd : Dice w p A n c) :
    Calls Try.prog 45 #[.pointer (some ⟨p, 0, none⟩)] w (AnsSysT w p A n c) := by
  obtain ⟨W, hW, rN, bel⟩ := box1 w 29 #[.slice none 0 0, .slice none 0 0]
  have hpw := hd.lt
  have L1 := Lib.hid (drawSysAny p A n c W (hd.next bel))
  have HW := Lib.hid hW
  have g0 := grown_of_below bel (some p)
  have zN : w.heap.size < W.heap.size := rN.lt
  clear hW hd
  go_enter Try.func45, Try.ntmps45
  go_wp2_with fail
  rw [← HW.out]
  refine L1.out.mono ?_
  rintro e w1 ⟨S, sn, sc, sg, R, rn, rc, D, rfl, s1, h9, o1, hM, d1, g1⟩
  have rN1 := Row.away rN g1 (fun e => by injection e with e; omega)
  obtain ⟨W2, hW2, r2, b2⟩ := box1 w1 29 #[.slice S sn sc, .slice R rn rc]
  have s2 := outR_below s1 b2
  have o2 := o1.below b2
  have d2 := d1.next b2
  have g2 := (g0.trans g1).trans (grown_of_below b2 (some p))
  have rN2 := rN1.next b2
  have zW1 : W.heap.size ≤ w1.heap.size := g1.size
  have BD := drew_below W2
  have LT := Lib.hid (l7DrawTerm p A n c S sn sc R rn rc ((sg, D) : List Int × List (Dat sRule)) W2.drew (d2.next BD) (RdQ.cat (ca := [_]) (cb := [_]) ((outR_below s2 BD).mono fun b hb => ⟨hb.1, hb.2.1⟩) ((o2.below BD).rdq (by omega))) (by
    have h1 := sz_small hM
    show Go.Proofs.Ytfkgiimcnlagmaa.shape.sz sI sg + Go.Proofs.Ytfkgiimcnlagmaa.shape.sz sRuleS D ≤ 2000
    rw [Go.Proofs.Ytfkgiimcnlagmaa.shape.sz_ints]
    omega))
  have rD := r2.next BD
  have HN2 := Lib.hid (rN2.next BD)
  have HR2 := Lib.hid rD
  have HS := Lib.hid (show RdQ W2.drew (OutR W2.drew p (blk R)) sI [.slice S sn sc] sg ∧ OwnQ W2.drew p W.heap.size 115 sRule R rn rc D ∧ w.grownBy W2.drew (some p) from ⟨outR_below s2 BD, o2.below BD, g2.trans (grown_of_below BD _)⟩)
  have HMM := Lib.hid (And.intro h9 hM)
  have c0 : W2.drew.cell? ⟨w1.heap.size, 0, none⟩ = some (.slice S sn sc) := rD.cell 0
  have c1 : W2.drew.cell? ⟨w1.heap.size, 1, none⟩ = some (.slice R rn rc) := rD.cell 1
  have HW2 := Lib.hid hW2
  have zo : w1.heap.size < W2.heap.size := r2.lt
  clear s1 o1 d1 g1 rN1 rN bel g0 s2 o2 d2 g2 rN2 BD rD r2 b2 hW2 L1 HW h9 hM
  go_upto_region 2 with fail
  rw [← HW2.out]
  clear HW2
  generalize w1.heap.size = o at *
  refine AnyT.start (S := (fun w' => w'.cell? ⟨o, 0, none⟩ = some (.slice S sn sc) ∧ w'.cell? ⟨o, 1, none⟩ = some (.slice R rn rc))) (fun _ => false) (by kernel_rfl) ⟨c0, c1⟩ (fun hHeld => ?_)
  refine AnyT.take (i := 0) (v := ?_) rfl (by kernel_rfl) (by kernel_rfl) (by kernel_rfl) (by kernel_rfl) (fun _ _ _ h => h) (Or.inl ⟨by rfl, ?_⟩) (by assumption) ?_
  rotate_left 1
  · (intro w0 hSw; (try dsimp only at hSw); go_simp; try with_reducible rfl)
  try simp only [Act.put, List.setIfInBounds_toArray, List.set_cons_zero, List.set_cons_succ, List.getElem_toArray, List.getElem_cons_zero, List.getElem_cons_succ]
  refine AnyT.takeA (i := 1) (v := ?_) rfl (by kernel_rfl) (by kernel_rfl) (by kernel_rfl) (fun _ _ _ h => h) (Or.inl ⟨by rfl, ?_⟩) ?_
  rotate_left 1
  · (intro w0 _; go_simp; try with_reducible rfl)
  try simp only [Act.put, List.setIfInBounds_toArray, List.set_cons_zero, List.set_cons_succ, List.getElem_toArray, List.getElem_cons_zero, List.getElem_cons_succ]
  refine AnyT.take (i := 2) (v := ?_) rfl (by kernel_rfl) (by kernel_rfl) (by kernel_rfl) (by kernel_rfl) (fun _ _ _ h => h) (Or.inl ⟨by rfl, ?_⟩) (by assumption) ?_
  rotate_left 1
  · (intro w0 hSw; (try dsimp only at hSw); go_simp; try with_reducible rfl)
  try simp only [Act.put, List.setIfInBounds_toArray, List.set_cons_zero, List.set_cons_succ, List.getElem_toArray, List.getElem_cons_zero, List.getElem_cons_succ]
  refine AnyT.call (i := 3) (by kernel_rfl) rfl (fun K hK => ?_)
  try simp only [Act.put, List.setIfInBounds_toArray, List.set_cons_zero, List.set_cons_succ, List.getElem_toArray, List.getElem_cons_zero, List.getElem_cons_succ]
  rw [if_pos (by rfl)]
  go_simp
  (go_at_call 82; refine LT.out.mono ?_; rintro e w3 ⟨O, on, oc, t, rfl, tR, tc1, tc2, tc3, t65, d3, g3⟩; have rM := Row.away HN2.out g3 (fun e => by injection e with e; omega); have rO := Row.away HR2.out g3 (fun e => by injection e with e; omega); have e0 : w3.cell? ⟨o, 0, none⟩ = some (.slice S sn sc) := rO.cell 0; have e1 : w3.cell? ⟨o, 1, none⟩ = some (.slice R rn rc) := rO.cell 1; go_wp2_with fail)
  refine hK.out _ _ (fun _ _ => ?_) (fun hKeep => ?_)
  · exact ⟨e0, e1⟩
  replace hHeld := hKeep (by first | rfl | trivial) hHeld
  clear hK K hKeep
  try simp only [Act.put, List.setIfInBounds_toArray, List.set_cons_zero, List.set_cons_succ, List.getElem_toArray, List.getElem_cons_zero, List.getElem_cons_succ]
  have y0 : w3.cell? ⟨w.heap.size, 0, none⟩ = some (.slice none 0 0) := rM.cell 0
  have y1 : w3.cell? ⟨w.heap.size, 1, none⟩ = some (.slice none 0 0) := rM.cell 1
  have g0 := rM.free 0
  have g1 := rM.free 1
  have ra := rM.put 0 (.slice S sn sc)
  have y2 : (w3.setCell ⟨w.heap.size, 0, none⟩ (.slice S sn sc)).cell? ⟨w.heap.size, 1, none⟩ = some (.slice none 0 0) := ra.cell 1
  have g2 := ra.free 1
  have rb := ra.put 1 (.slice R rn rc)
  have u0 : ((w3.setCell ⟨w.heap.size, 0, none⟩ (.slice S sn sc)).setCell ⟨w.heap.size, 1, none⟩ (.slice R rn rc)).cell? ⟨w.heap.size, 0, none⟩ = some (.slice S sn sc) := rb.cell 0
  have u1 : ((w3.setCell ⟨w.heap.size, 0, none⟩ (.slice S sn sc)).setCell ⟨w.heap.size, 1, none⟩ (.slice R rn rc)).cell? ⟨w.heap.size, 1, none⟩ = some (.slice R rn rc) := rb.cell 1
  have T3 : St w p W.heap.size A n c S sn sc sg R rn rc D O on oc t w3 := ⟨outR_dice HS.out.1 g3, HMM.out.1, HS.out.2.1.dice g3 (by omega), HMM.out.2, tR, ⟨tc1, tc2, tc3⟩, t65, d3, HS.out.2.2.trans g3⟩
  have T4 := (T3.put (i := 0) (u := .slice S sn sc) rM zN (by omega) (Nat.le_refl _)).put (i := 1) (u := .slice R rn rc) ra zN (by omega) (Nat.le_refl _)
  have T5 : St w p w.heap.size A n c S sn sc sg R rn rc D O on oc t _ := ⟨T4.s, T4.h9, T4.own.lower (Nat.le_of_lt zN), T4.hM, T4.t, T4.ct, T4.h65, T4.di, T4.g⟩
  have F := Lib.hid (show AnsSysT w p A n c (.returned (.tuple #[.agg #[.slice S sn sc, .slice R rn rc], .slice O on oc])) ((w3.setCell ⟨w.heap.size, 0, none⟩ (.slice S sn sc)).setCell ⟨w.heap.size, 1, none⟩ (.slice R rn rc)) from ⟨_, _, _, _, _, _, _, _, _, _, _, _, rfl, T5⟩)
  have a0 := (rO.far (show o ≠ w.heap.size by omega) (p := ⟨w.heap.size, 0, none⟩) (.slice S sn sc)).far (show o ≠ w.heap.size by omega) (p := ⟨w.heap.size, 1, none⟩) (.slice R rn rc)
  have HA0 := Lib.hid a0
  clear T3 T4 T5 ra rb rM rO a0 tR tc1 tc2 tc3 d3 g3 HS HN2 HR2
  refine AnyT.call (i := 4) (by kernel_rfl) rfl (fun K hK => ?_)
  try simp only [Act.put, List.setIfInBounds_toArray, List.set_cons_zero, List.set_cons_succ, List.getElem_toArray, List.getElem_cons_zero, List.getElem_cons_succ]
  rw [if_pos (by rfl)]
  go_simp
  refine hK.out _ _ (fun _ _ => ?_) (fun hKeep => ?_)
  · exact ⟨HA0.out.cell 0, HA0.out.cell 1⟩
  replace hHeld := hKeep (by first | rfl | trivial) hHeld
  clear hK K hKeep
  try simp only [Act.put, List.setIfInBounds_toArray, List.set_cons_zero, List.set_cons_succ, List.getElem_toArray, List.getElem_cons_zero, List.getElem_cons_succ]
  refine AnyT.takeA (i := 5) (v := ?_) rfl (by kernel_rfl) (by kernel_rfl) (by kernel_rfl) (fun _ _ _ h => h) (Or.inl ⟨by rfl, ?_⟩) ?_
  rotate_left 1
  · (intro w0 _; go_simp; try with_reducible rfl)
  try simp only [Act.put, List.setIfInBounds_toArray, List.set_cons_zero, List.set_cons_succ, List.getElem_toArray, List.getElem_cons_zero, List.getElem_cons_succ]
  refine AnyT.done (by kernel_rfl) ?_ _
  clear e0 e1 c0 c1
  go_wp2
  exact bodyPost_ret (v := .tuple #[.agg #[.slice S sn sc, .slice R rn rc], .slice O on oc]) (by simp [results, Try.results45, go_sem, u0, u1]) rfl F.out


set_option maxHeartbeats 2000000 in
theorem drawRedexesIn (A : Option Addr) (n c : Nat) (w : World) (h : SegB w w.heap.size A n) (hn : n ≤ 4096) :
    Calls Try.prog 12 #[.slice A n c] w (AnsST w) := by
  obtain ⟨W, hW, rN, b0⟩ := box1 w 29 #[.slice none 0 0, .slice none 0 0]
  have h0 : SegB W W.heap.size A n := fun hp => by
    obtain ⟨b, off, e, hb, hc⟩ := h hp
    refine ⟨b, off, e, Nat.lt_of_lt_of_le hb b0.size, fun j hj => ?_⟩
    obtain ⟨x, x0, x1, hx⟩ := hc j hj
    exact ⟨x, x0, x1, (b0.cell (p := ⟨b, off + j, none⟩) hb).trans hx⟩
  have L := Lib.hid (new_ A n c W h0 hn)
  have HW := Lib.hid hW
  clear h h0 hW
  go_enter Try.func12, Try.ntmps12
  go_wp2_with fail
  rw [← HW.out]
  refine L.out.mono ?_
  rintro e w1 ⟨p, rfl, hp, d1, bb⟩
  have hNp : w.heap.size < p := Nat.lt_of_lt_of_le rN.lt hp
  replace rN := rN.next bb
  have bel := next_trans b0 bb
  have L2 := Lib.hid (l7Draw p A n c w1 d1)
  have hp1 := d1.lt
  clear d1 bb b0 L HW
  go_wp2_with fail
  refine L2.out.mono ?_
  rintro e w2 ⟨S, sn, sc, sg, R, rn, rc, D, O, on, oc, t, rfl, T⟩
  have hz := rN.lt
  have rM := Row.away rN T.g (fun e => by injection e with e; omega)
  have bel2 : Below w.heap.size w w2 := bel.grown T.g bel.size (fun k hk => by injection hk with hk; omega)
  have y0 : w2.cell? ⟨w.heap.size, 0, none⟩ = some (.slice none 0 0) := rM.cell 0
  have y1 : w2.cell? ⟨w.heap.size, 1, none⟩ = some (.slice none 0 0) := rM.cell 1
  have g0 := rM.free 0
  have g1 := rM.free 1
  have ra := rM.put 0 (.slice S sn sc)
  have y2 : (w2.setCell ⟨w.heap.size, 0, none⟩ (.slice S sn sc)).cell? ⟨w.heap.size, 1, none⟩ = some (.slice none 0 0) := ra.cell 1
  have g2 := ra.free 1
  have rb := ra.put 1 (.slice R rn rc)
  have u0 : ((w2.setCell ⟨w.heap.size, 0, none⟩ (.slice S sn sc)).setCell ⟨w.heap.size, 1, none⟩ (.slice R rn rc)).cell? ⟨w.heap.size, 0, none⟩ = some (.slice S sn sc) := rb.cell 0
  have u1 : ((w2.setCell ⟨w.heap.size, 0, none⟩ (.slice S sn sc)).setCell ⟨w.heap.size, 1, none⟩ (.slice R rn rc)).cell? ⟨w.heap.size, 1, none⟩ = some (.slice R rn rc) := rb.cell 1
  have T1 : St w1 p w1.heap.size A n c S sn sc sg R rn rc D O on oc t w2 := T
  have s2 := ints_put (ints_put T1.s rM 0 (.slice S sn sc)) ra 1 (.slice R rn rc)
  have hne : blk R ≠ some w.heap.size := fun e => by have := (T1.own.ge _ e).1; omega
  have o2 := ownQ_put (ownQ_put T1.own rM hne 0 (.slice S sn sc)) ra hne 1 (.slice R rn rc)
  have t2 := rdT_put (i := 1) (u := .slice R rn rc) (rdT_put (i := 0) (u := .slice S sn sc) T1.t rM) ra
  have F := Lib.hid (show AnsST w (.returned (.tuple #[.agg #[.slice S sn sc, .slice R rn rc], .slice O on oc])) ((w2.setCell ⟨w.heap.size, 0, none⟩ (.slice S sn sc)).setCell ⟨w.heap.size, 1, none⟩ (.slice R rn rc)) from
    ⟨_, _, _, _, _, _, ((sg, D) : List Int × List (Dat sRule)), _, _, _, t, rfl, RdQ.rd (Q := Out _ p) (fun b hb => hb.1) (RdQ.cat (ca := [_]) (cb := [_]) (s2.mono fun b hb => ⟨hb.1, hb.2.1⟩) (o2.rdq hp1)), T1.sz, rd_ints.2 ⟨O, on, oc, rfl, t2.seg, T1.ct⟩, by have := T1.t.1; have := T1.h65; omega, (bel2.setCell (p := ⟨w.heap.size, 0, none⟩) (Nat.le_refl _) _).setCell (p := ⟨w.heap.size, 1, none⟩) (Nat.le_refl _) _⟩)
  clear T T1 s2 o2 t2 ra rb rM rN bel bel2 L2
  go_wp2
  exact bodyPost_ret (v := .tuple #[.agg #[.slice S sn sc, .slice R rn rc], .slice O on oc]) (by simp [results, Try.results12, go_sem, u0, u1]) rfl F.out

end Go.Proofs.Ytfkgiimcnlagmaa.drawL7
end

section
/-
  What stands in a law's walk over a drawn system and a drawn term: 'Sy'. Conditions: none. By an AI agent.
-/
namespace Go.Proofs.Ytfkgiimcnlagmaa.lawS
open Go.RowKit Go.Proofs.Ytfkgiimcnlagmaa.base Go.Proofs.Ytfkgiimcnlagmaa.ints Go.Proofs.Ytfkgiimcnlagmaa.sig Go.Proofs.Ytfkgiimcnlagmaa.term Go.Proofs.Ytfkgiimcnlagmaa.marks Go.Proofs.Ytfkgiimcnlagmaa.app Go.Proofs.Ytfkgiimcnlagmaa.sym Go.Proofs.Ytfkgiimcnlagmaa.segs Go.Proofs.Ytfkgiimcnlagmaa.kinds Go.Proofs.Ytfkgiimcnlagmaa.shape Go.Proofs.Ytfkgiimcnlagmaa.kindsR Go.Proofs.Ytfkgiimcnlagmaa.same Go.Proofs.Ytfkgiimcnlagmaa.ruleSpec
set_option maxRecDepth 100000
structure Sy (w : World) (o : Nat) (S : Option Addr) (sn sc : Nat) (R : Option Addr) (rn rc : Nat) (d : Dat sSystem) (u : Value) (t : List Int) (wr : World) : Prop where
  s : Rd wr wr.heap.size sSystem [.slice S sn sc, .slice R rn rc] d
  t : Rd wr wr.heap.size sI [u] t
  r : Row wr o 29 #[.slice S sn sc, .slice R rn rc]
  b : Below w.heap.size w wr
section
variable {w : World} {o : Nat} {S : Option Addr} {sn sc : Nat} {R : Option Addr} {rn rc : Nat} {d : Dat sSystem} {u : Value} {t : List Int} {wr w' : World}
theorem Sy.next (h : Sy w o S sn sc R rn rc d u t wr) (hb : Below wr.heap.size wr w') : Sy w o S sn sc R rn rc d u t w' := ⟨h.s.next hb, h.t.next hb, h.r.next hb, next_trans h.b hb⟩
theorem Sy.c0 (h : Sy w o S sn sc R rn rc d u t wr) : wr.cell? ⟨o, 0, none⟩ = some (.slice S sn sc) := h.r.cell 0
theorem Sy.c1 (h : Sy w o S sn sc R rn rc d u t wr) : wr.cell? ⟨o, 1, none⟩ = some (.slice R rn rc) := h.r.cell 1
end
end Go.Proofs.Ytfkgiimcnlagmaa.lawS
end

section
/-
  SHAPES with numbers amid slices: an element of the call's own slice that is written cell by cell; a struct that is being copied, from any first cells on; the marks of a slice's elements read again. Conditions: none; plain lemmas. By an AI agent.
-/
namespace Go.Proofs.Ytfkgiimcnlagmaa.shape
open Go.RowKit Go.Proofs.Ytfkgiimcnlagmaa.base Go.Proofs.Ytfkgiimcnlagmaa.ints Go.Proofs.Ytfkgiimcnlagmaa.sig Go.Proofs.Ytfkgiimcnlagmaa.cursor Go.Proofs.Ytfkgiimcnlagmaa.marks Go.Proofs.Ytfkgiimcnlagmaa.app Go.Proofs.Ytfkgiimcnlagmaa.sym Go.Proofs.Ytfkgiimcnlagmaa.appAt Go.Proofs.Ytfkgiimcnlagmaa.segs Go.Proofs.Ytfkgiimcnlagmaa.segsHelp Go.Proofs.Ytfkgiimcnlagmaa.segsMark Go.Proofs.Ytfkgiimcnlagmaa.kinds

theorem Owned.num (w : World) (lo hi : Nat) (x : Int) : Owned w lo hi .num [.int .i64 x] x := ⟨[], ⟨rfl, rfl⟩, List.nodup_nil, fun k hk => by cases hk⟩
theorem Ow.num {w w' : World} {cs : List Value} {x : Int} {F : List Nat} (h : Ow w .num cs x F) (y : Int) : Ow w' .num [.int .i64 y] y F := ⟨rfl, h.2⟩
/-! ### marks that are read again -/
end Go.Proofs.Ytfkgiimcnlagmaa.shape
end

section
/-
  CONTRACTS of the laws' helpers over shapes: Step:sz,to,eq, StepS:sz,to,eq,mark,held, Walk:sz,to,eq,mark,held. Conditions: at most 1048576 numbers. Written by a program of mine (mkkinds.py). By an AI agent.
-/
namespace Go.Proofs.Ytfkgiimcnlagmaa.kindsW
open Go.RowKit Go.Proofs.Ytfkgiimcnlagmaa.base Go.Proofs.Ytfkgiimcnlagmaa.ints Go.Proofs.Ytfkgiimcnlagmaa.sig Go.Proofs.Ytfkgiimcnlagmaa.cursor Go.Proofs.Ytfkgiimcnlagmaa.marks Go.Proofs.Ytfkgiimcnlagmaa.app Go.Proofs.Ytfkgiimcnlagmaa.sym Go.Proofs.Ytfkgiimcnlagmaa.appAt Go.Proofs.Ytfkgiimcnlagmaa.segs Go.Proofs.Ytfkgiimcnlagmaa.segsHelp Go.Proofs.Ytfkgiimcnlagmaa.segsMark Go.Proofs.Ytfkgiimcnlagmaa.kinds Go.Proofs.Ytfkgiimcnlagmaa.shape
set_option maxRecDepth 100000

abbrev sStep : Sh := .cat .num (.cat .num sI)
end Go.Proofs.Ytfkgiimcnlagmaa.kindsW
end

section
/-
  WORDS of the laws' walks: what stands behind a draw of a signature and two terms ('T1'), a variable that holds a substitution ('Sv'); laws.likeInts of two lists that read the same. Conditions: none; plain lemmas. By an AI agent.
-/
namespace Go.Proofs.Ytfkgiimcnlagmaa.lawT
open Go.RowKit Go.Proofs.Ytfkgiimcnlagmaa.base Go.Proofs.Ytfkgiimcnlagmaa.ints Go.Proofs.Ytfkgiimcnlagmaa.segs
set_option maxRecDepth 100000

/-- what stands after the first draw: the signature's variable at v3 -/
structure T1 (w : World) (v3 : Nat) (S : Option Addr) (sn sc : Nat) (sg : List Int) (O : Option Addr) (on : Nat) (p : List Int) (Q : Option Addr) (qn : Nat) (t : List Int) (wr : World) : Prop where
  s : Seg wr wr.heap.size S sn sg
  o : Seg wr wr.heap.size O on p
  q : Seg wr wr.heap.size Q qn t
  r3 : Row wr v3 26 #[.slice S sn sc]
  bel : Below w.heap.size w wr
section
variable {w : World} {v3 : Nat} {S : Option Addr} {sn sc : Nat} {sg : List Int} {O : Option Addr} {on : Nat} {p : List Int} {Q : Option Addr} {qn : Nat} {t : List Int} {wr w' : World}
theorem T1.next (f : T1 w v3 S sn sc sg O on p Q qn t wr) (hb : Below wr.heap.size wr w') : T1 w v3 S sn sc sg O on p Q qn t w' :=
  ⟨f.s.next hb, f.o.next hb, f.q.next hb, f.r3.next hb, next_trans f.bel hb⟩
end
/-- a variable that holds a substitution -/
structure Sv (wr : World) (v : Nat) (D : Option Addr) (dn dc : Nat) (xss : List (List Int)) : Prop where
  r : Row wr v 111 #[.slice D dn dc]
  s : Segs wr wr.heap.size D dn xss
section
variable {v : Nat} {D : Option Addr} {dn dc : Nat} {xss : List (List Int)} {wr w' : World}
theorem Sv.next (f : Sv wr v D dn dc xss) (hb : Below wr.heap.size wr w') : Sv w' v D dn dc xss := ⟨f.r.next hb, f.s.next hb⟩
end
theorem below_drewN (w : World) (d : Nat) : Below w.heap.size w (w.drewN d) := ⟨rfl, rfl, rfl, Nat.le_refl _, fun _ _ => rfl⟩

/-- two lists that read the same are told so -/
theorem like (A A' : Option Addr) (n c c' : Nat) (xs : List Int) (w : World) (h : Seg w w.heap.size A n xs) (h' : Seg w w.heap.size A' n xs) (hn : n ≤ 1048576) :
    Calls Try.prog 16 #[.slice A n c, .slice A' n c'] w fun e w' => e = .returned (.bool true) ∧ ∃ d, w' = w.drewN d := by
  go_enter Try.func16, Try.ntmps16
  go_wp2
  go_loopw [5] (fun i wr => ∃ k d : Nat, k ≤ n ∧ i = .int .i64 k ∧ wr = w.drewN d) (fun i _ => n - (intOf i).toNat)
  case atStart => exact ⟨0, 0, Nat.zero_le _, rfl, rfl⟩
  case round =>
    obtain ⟨k, d, hk, rfl, rfl⟩ := hrel
    by_cases hlt : k < n
    · obtain ⟨b, off, x, rfl, -, hx, ex⟩ := h.spot hlt
      obtain ⟨b', off', y, rfl, -, hy, ey⟩ := h'.spot hlt
      obtain rfl : x = y := by rw [← ex.out, ← ey.out]
      clear h h' ex ey
      go_wp2
      go_quiet (fail)
      go_wp2
      go_roundw
      case rel => exact ⟨k + 1, _, hlt, by simp, rfl⟩
      case measure => simp [intOf]; omega
    · clear h h'
      go_wp2
      go_ret
      exact ⟨rfl, _, rfl⟩
end Go.Proofs.Ytfkgiimcnlagmaa.lawT
end

section
/-
  CONTRACTS: laws.w5Steps of two slices of steps that read as the same data. Conditions: the slices read as data ('Rd'), at most 1048576 numbers. By an AI agent.
-/
namespace Go.Proofs.Ytfkgiimcnlagmaa.w5
open Go.RowKit Go.Proofs.Ytfkgiimcnlagmaa.base Go.Proofs.Ytfkgiimcnlagmaa.ints Go.Proofs.Ytfkgiimcnlagmaa.sig Go.Proofs.Ytfkgiimcnlagmaa.cursor Go.Proofs.Ytfkgiimcnlagmaa.marks Go.Proofs.Ytfkgiimcnlagmaa.app Go.Proofs.Ytfkgiimcnlagmaa.sym Go.Proofs.Ytfkgiimcnlagmaa.appAt Go.Proofs.Ytfkgiimcnlagmaa.segs Go.Proofs.Ytfkgiimcnlagmaa.segsHelp Go.Proofs.Ytfkgiimcnlagmaa.segsMark Go.Proofs.Ytfkgiimcnlagmaa.kinds Go.Proofs.Ytfkgiimcnlagmaa.shape Go.Proofs.Ytfkgiimcnlagmaa.kindsW Go.Proofs.Ytfkgiimcnlagmaa.lawT
set_option maxRecDepth 100000

theorem likeYes (A A' : Option Addr) (n n' c c' : Nat) (xs : List Int) (w : World) (h : Seg w w.heap.size A n xs) (h' : Seg w w.heap.size A' n' xs) (hn : n ≤ 1048576) :
    Calls Try.prog 16 #[.slice A n c, .slice A' n' c'] w fun e w' => e = .returned (.bool true) ∧ Below w.heap.size w w' := by
  obtain rfl : n = n' := by rw [← h.1, ← h'.1]
  exact (like A A' n c c' xs w h h' hn).mono fun _ _ ⟨e, d, hw⟩ => ⟨e, by rw [hw]; exact drewN_below w d⟩

end Go.Proofs.Ytfkgiimcnlagmaa.w5
end

section
/-
  CONTRACTS: spec.l4Match, Matched, InstanceIn. Conditions: the slices read as lists ('Seg'), at most 1048576 numbers. By an AI agent.
-/
namespace Go.Proofs.Ytfkgiimcnlagmaa.matchSpec
open Go.RowKit Go.Proofs.Ytfkgiimcnlagmaa.base Go.Proofs.Ytfkgiimcnlagmaa.ints Go.Proofs.Ytfkgiimcnlagmaa.sig Go.Proofs.Ytfkgiimcnlagmaa.same Go.Proofs.Ytfkgiimcnlagmaa.term Go.Proofs.Ytfkgiimcnlagmaa.termOk Go.Proofs.Ytfkgiimcnlagmaa.endAt Go.Proofs.Ytfkgiimcnlagmaa.inside Go.Proofs.Ytfkgiimcnlagmaa.marks Go.Proofs.Ytfkgiimcnlagmaa.app Go.Proofs.Ytfkgiimcnlagmaa.sym Go.Proofs.Ytfkgiimcnlagmaa.sub Go.Proofs.Ytfkgiimcnlagmaa.segs Go.Proofs.Ytfkgiimcnlagmaa.segsHelp Go.Proofs.Ytfkgiimcnlagmaa.termFacts Go.Proofs.Ytfkgiimcnlagmaa.termMath Go.Proofs.Ytfkgiimcnlagmaa.posMath Go.Proofs.Ytfkgiimcnlagmaa.plainMath Go.Proofs.Ytfkgiimcnlagmaa.plain Go.Proofs.Ytfkgiimcnlagmaa.plainOf Go.Proofs.Ytfkgiimcnlagmaa.gives Go.Proofs.Ytfkgiimcnlagmaa.cursor Go.Proofs.Ytfkgiimcnlagmaa.matchMath
set_option maxRecDepth 100000

/-- a table of 24 lists of the call's own -/
structure Tab (w : World) (T : Nat) (s : List (List Int)) : Prop where
  len : s.length = 24
  row : ∃ cs, Row w T 24 cs ∧ cs.size = 24 ∧ ∀ j, j < 24 → ∃ A n c, cs[j]? = some (.slice A n c) ∧ Own w (T + 1) (.slice A n c) (s.getD j [])
section
variable {w w' : World} {T : Nat} {s : List (List Int)}
theorem Tab.next (h : Tab w T s) (hb : Below w.heap.size w w') : Tab w' T s := by
  obtain ⟨cs, hr, hs, hc⟩ := h.row
  exact ⟨h.len, cs, hr.next hb, hs, fun j hj => by obtain ⟨A, n, c, e, ho⟩ := hc j hj; exact ⟨A, n, c, e, Own.next ho hb⟩⟩
theorem Tab.at (h : Tab w T s) {j : Nat} (hj : j < 24) : ∃ A n c, w.cell? ⟨T, j, none⟩ = some (.slice A n c) ∧ Own w (T + 1) (.slice A n c) (s.getD j []) := by
  obtain ⟨cs, hr, hs, hc⟩ := h.row
  obtain ⟨A, n, c, e, ho⟩ := hc j hj
  exact ⟨A, n, c, by rw [hr.cell j, e], ho⟩
theorem Tab.free (h : Tab w T s) (j : Nat) : w.frozen? ⟨T, j, none⟩ = false := by obtain ⟨cs, hr, _⟩ := h.row; exact hr.free j
theorem Tab.put (h : Tab w T s) {j : Nat} (hj : j < 24) {A : Option Addr} {n c : Nat} {ys : List Int} (ho : Own w (T + 1) (.slice A n c) ys) : Tab (w.setCell ⟨T, j, none⟩ (.slice A n c)) T (s.set j ys) := by
  obtain ⟨cs, hr, hs, hc⟩ := h.row
  have hg : w.grownBy (w.setCell ⟨T, j, none⟩ (.slice A n c)) (some T) := grown_put (World.grownBy.refl _ _) _ _
  have far : ∀ {A' : Option Addr} {n' c' : Nat} {zs : List Int}, Own w (T + 1) (.slice A' n' c') zs → Own (w.setCell ⟨T, j, none⟩ (.slice A n c)) (T + 1) (.slice A' n' c') zs := fun h => Own.far h hg (fun k hk => by injection hk; omega)
  refine ⟨by rw [List.length_set]; exact h.len, cs.setIfInBounds j (.slice A n c), hr.put j _, by rw [Array.size_setIfInBounds]; exact hs, fun i hi => ?_⟩
  by_cases e : j = i
  · subst e
    exact ⟨A, n, c, by rw [Array.getElem?_setIfInBounds_self_of_lt (by omega)], by rw [set_get, if_pos ⟨rfl, by rw [h.len]; exact hj⟩]; exact far ho⟩
  · obtain ⟨A', n', c', e', ho'⟩ := hc i hi
    exact ⟨A', n', c', by rw [Array.getElem?_setIfInBounds_ne e]; exact e', by rw [set_get, if_neg (fun hh => e hh.1)]; exact far ho'⟩
theorem Tab.segs (h : Tab w T s) : Segs w w.heap.size (some ⟨T, 0, none⟩) 24 s := by
  obtain ⟨cs, hr, hs, hc⟩ := h.row
  refine ⟨h.len, fun _ => ⟨T, 0, rfl, hr.lt, fun j hj => ?_⟩⟩
  obtain ⟨A, n, c, e, ho⟩ := hc j hj
  refine ⟨A, n, c, by rw [Nat.zero_add, hr.cell j, e], ?_, ?_⟩
  · have := Own.len ho; exact Own.seg ho
  · rcases ho.form with ⟨e1, _⟩ | ⟨g, c', cur, e1, _, _, _, _⟩
    · injection e1 with e1 e2 e3; subst e1 e2 e3; exact ⟨Nat.le_refl _, by omega, fun _ => rfl⟩
    · exact look.own_cap ho
end
theorem Tab.new (w : World) : Tab (w.alloc (.cells (madeCells #[.slice none 0 0] 24) 24)) w.heap.size s0 := by
  refine ⟨rfl, _, Row.new _ _ _, size_madeCells _ _, fun j hj => ⟨none, 0, 0, ?_, by rw [s0_get]; exact Own.nil _ _⟩⟩
  simp [madeCells, hj, Nat.mod_one]

def resL (R : Option (List (List Int))) : List (List Int) := match R with
  | some s => plainL (givesL s) 24
  | none => []
def AnsM (w : World) (xss : List (List Int)) (b : Bool) (e : Ending) (w' : World) : Prop := ∃ A n c, e = .returned (.tuple #[.agg #[.slice A n c], .bool b]) ∧ Owns w' w.heap.size w'.heap.size A n c xss ∧ Below w.heap.size w w'
theorem ansM_no {w w' : World} {R : Option (List (List Int))} (h : R = none) (hb : Below w.heap.size w w') : AnsM w (resL R) R.isSome (.returned (.tuple #[.agg #[.slice none 0 0], .bool false])) w' :=
  ⟨none, 0, 0, by rw [h]; rfl, by rw [h]; exact Owns.nil _ _ _, hb⟩

/-- what stands in the course of l4Match -/
structure Mt (w wr : World) (A : Option Addr) (n c : Nat) (sg : List Int) (P : Option Addr) (pn : Nat) (p : List Int) (Q : Option Addr) (m : Nat) (t : List Int) (s : List (List Int)) : Prop where
  r0 : Row wr w.heap.size 26 #[.slice A n c]
  r1 : Row wr (w.heap.size + 1) 111 #[.slice none 0 0]
  r3 : Row wr (w.heap.size + 1 + 1 + 1) 111 #[.slice (some ⟨w.heap.size + 1 + 1, 0, none⟩) 24 24]
  tb : Tab wr (w.heap.size + 1 + 1) s
  ss : Seg wr w.heap.size A n sg
  sp : Seg wr w.heap.size P pn p
  st : Seg wr w.heap.size Q m t
  b : Below w.heap.size w wr
section
variable {w wr w' : World} {A : Option Addr} {n c : Nat} {sg : List Int} {P : Option Addr} {pn : Nat} {p : List Int} {Q : Option Addr} {m : Nat} {t : List Int} {s : List (List Int)}
theorem Mt.next (h : Mt w wr A n c sg P pn p Q m t s) (hb : Below wr.heap.size wr w') : Mt w w' A n c sg P pn p Q m t s :=
  have b : Below w.heap.size wr w' := hb.mono h.b.size
  ⟨h.r0.next hb, h.r1.next hb, h.r3.next hb, h.tb.next hb, h.ss.below b, h.sp.below b, h.st.below b, h.b.trans b⟩
theorem Mt.put (h : Mt w wr A n c sg P pn p Q m t s) {j : Nat} (hj : j < 24) {D : Option Addr} {dn dc : Nat} {ys : List Int} (ho : Own wr (w.heap.size + 1 + 1 + 1) (.slice D dn dc) ys) : Mt w (wr.setCell ⟨w.heap.size + 1 + 1, j, none⟩ (.slice D dn dc)) A n c sg P pn p Q m t (s.set j ys) :=
  ⟨h.r0.far (show w.heap.size ≠ w.heap.size + 1 + 1 by omega) _, h.r1.far (show w.heap.size + 1 ≠ w.heap.size + 1 + 1 by omega) _, h.r3.far (show w.heap.size + 1 + 1 + 1 ≠ w.heap.size + 1 + 1 by omega) _, h.tb.put hj ho, h.ss.put (show w.heap.size ≤ w.heap.size + 1 + 1 by omega) _, h.sp.put (show w.heap.size ≤ w.heap.size + 1 + 1 by omega) _, h.st.put (show w.heap.size ≤ w.heap.size + 1 + 1 by omega) _, h.b.setCell (show w.heap.size ≤ w.heap.size + 1 + 1 by omega) _⟩
end

set_option maxHeartbeats 1000000 in
theorem l4Match (A P Q : Option Addr) (n c pn pc m mc : Nat) (sg p t : List Int) (w : World) (h : Seg w w.heap.size A n sg) (hp : Seg w w.heap.size P pn p) (ht : Seg w w.heap.size Q m t) (hn : n ≤ 1048576) (hpn : pn ≤ 60) (hm : m ≤ 60) (hmc : m ≤ mc) (hmc2 : mc ≤ 9223372036854775807)
    (hokp : termOkB sg p = true) (hokt : termOkB sg t = true) :
    Calls Try.prog 87 #[.agg #[.slice A n c], .slice P pn pc, .slice Q m mc] w (AnsM w (resL (mst sg t p 0 s0)) (mst sg t p 0 s0).isSome) := by
  obtain ⟨W0, hW0⟩ : ∃ W, W = (w.alloc (.cells #[.slice A n c] 26)).alloc (.cells #[.slice none 0 0] 111) := ⟨_, rfl⟩
  have z0 : W0.heap.size = w.heap.size + 1 + 1 := by rw [hW0]; simp
  obtain ⟨W, hW⟩ : ∃ W, W = (W0.alloc (.cells (madeCells #[.slice none 0 0] 24) 24)).alloc (.cells #[.slice (some ⟨w.heap.size + 1 + 1, 0, none⟩) 24 24] 111) := ⟨_, rfl⟩
  have b0 : Below w.heap.size w W0 := by rw [hW0]; exact ((Below.refl _ _).alloc (Nat.le_refl _) _).alloc (by simp) _
  have b1 : Below w.heap.size w W := by rw [hW]; exact (b0.alloc b0.size _).alloc (by simp; omega) _
  have hmk : ∀ W : World, (Instr.makeSlice 109 (.int .i64 24) (.int .i64 24)).run Try.prog W = .ok (.slice (some ⟨W.heap.size, 0, none⟩) 24 24) (W.alloc (.cells (madeCells #[.slice none 0 0] 24) 24)) := fun W => run_make_lists 24 (by omega) W
  have M0 : Mt w W A n c sg P pn p Q m t s0 := by
    refine ⟨?_, ?_, ?_, ?_, h.below b1, hp.below b1, ht.below b1, b1⟩
    · rw [hW, hW0]; exact (((Row.new w _ _).alloc _).alloc _).alloc _
    · rw [hW, hW0]
      have := (((Row.new (w.alloc (.cells #[.slice A n c] 26)) 111 #[.slice none 0 0]).alloc (.cells (madeCells #[.slice none 0 0] 24) 24)).alloc (.cells #[.slice (some ⟨w.heap.size + 1 + 1, 0, none⟩) 24 24] 111))
      simpa using this
    · rw [hW]
      have := Row.new (W0.alloc (.cells (madeCells #[.slice none 0 0] 24) 24)) 111 #[.slice (some ⟨w.heap.size + 1 + 1, 0, none⟩) 24 24]
      have e : (W0.alloc (.cells (madeCells #[.slice none 0 0] 24) 24)).heap.size = w.heap.size + 1 + 1 + 1 := by simp; omega
      rwa [e] at this
    · rw [hW]
      have := (Tab.new W0).next ((Below.refl _ _).alloc (Nat.le_refl _) (.cells #[.slice (some ⟨w.heap.size + 1 + 1, 0, none⟩) 24 24] 111))
      rwa [z0] at this
  have HW := Lib.hid hW
  have HW0 := Lib.hid hW0
  have HLP := Lib.hid hp.1
  have HLT := Lib.hid ht.1
  have HT := Lib.hid hokt
  have HPM : Hid (∀ i, i < pn → -24 ≤ p.getD i 0) := Lib.hid (fun i hi => (term_num hokp (by rw [hp.1]; exact hi)).1)
  have hars := (sig_arities (termOk_parts hokt).1).1
  obtain ⟨R, hR⟩ : ∃ R, mst sg t p 0 s0 = R := ⟨_, rfl⟩
  rw [hR]
  have HR := Lib.hid hR
  have HM0 := Lib.hid M0
  clear hW hW0 h hp ht b0 b1 M0 hokp hokt hR z0
  go_enter Try.func87, Try.ntmps87
  go_wp2_with fail
  clear hmk
  go_loopg [9, 10] pn (fun g k i wr => ∃ (k' i' : Nat) (s : List (List Int)), k = .int .i64 k' ∧ i = .int .i64 i' ∧ i' + g = pn ∧ k' ≤ m ∧ mst sg t (p.drop i') k' s = R ∧ (∀ j, (s.getD j []).length ≤ 60) ∧ Mt w wr A n c sg P pn p Q m t s)
  case atStart =>
    have hM := HM0.out
    rw [HW.out, HW0.out] at hM
    exact ⟨0, 0, s0, rfl, rfl, by omega, Nat.zero_le _, HR.out, fun j => by rw [s0_get]; simp, hM⟩
  case round =>
    obtain ⟨k, i, s, rfl, rfl, hi, hk, hmst, hs60, M⟩ := hrel
    clear HM0 HW HW0
    have HI := Lib.hid hi
    have HMS := Lib.hid hmst
    have HS60 := Lib.hid hs60
    clear hi hmst hs60
    by_cases hip : i < pn
    · have hgk := Lib.hid (show gk - 1 < gk ∧ i + 1 + (gk - 1) = pn by have := HI.out; omega)
      obtain ⟨bp, op, x, rfl, hbp, hx, ex⟩ := M.sp.spot hip
      have hx24 := HPM.out i hip
      rw [ex.out] at hx24
      have HD := Lib.hid (show p.drop i = x :: p.drop (i + 1) by rw [drop_cons (by rw [HLP.out]; exact hip), ex.out])
      have cR : wr.cell? ⟨w.heap.size + 1, 0, none⟩ = some (.slice none 0 0) := M.r1.cell 0
      have fR : wr.frozen? ⟨w.heap.size + 1, 0, none⟩ = false := M.r1.free 0
      by_cases hkm : k < m
      · obtain ⟨bt, ot, y, rfl, hbt, hy, ey⟩ := M.st.spot hkm
        have hkl : ¬ t.length ≤ k := by rw [HLT.out]; omega
        by_cases hx0 : 0 ≤ x
        · by_cases hxy : x = y
          · subst hxy
            have S := Lib.hid (show mst sg t (p.drop (i + 1)) (k + 1) s = R by rw [← HMS.out, HD.out, mst_sym hkl hx0 ey.out.symm])
            have HM := Lib.hid (fun d => M.next (below_drewN (Below.refl _ _) d))
            have hd : (x != x) = false := by simp
            clear M ex ey HD
            go_wp2
            go_quiet (fail)
            go_wp2
            go_roundg (gk - 1)
            case measure => exact hgk.out.1
            case rel => exact ⟨k + 1, i + 1, s, by simp, by simp, hgk.out.2, by omega, S.out, HS60.out, HM.out _⟩
          · have HN := Lib.hid (show R = none by rw [← HMS.out, HD.out, mst_symNo hkl hx0 (by rw [ey.out]; exact hxy)])
            have HM := Lib.hid (fun d => M.next (below_drewN (Below.refl _ _) d))
            have hd : (x != y) = true := by simp [hxy]
            have F1 := Lib.hid (fun d => ansM_no (w := w) HN.out (below_drewN M.b d))
            have F2 := Lib.hid (fun d => ansM_no (w := w) HN.out ((below_drewN M.b d).setCell (p := ⟨w.heap.size + 1, 0, none⟩) (show w.heap.size ≤ w.heap.size + 1 by omega) (.slice none 0 0)))
            clear M ex ey HD HM
            go_wp2
            go_quiet (fail)
            go_wp2
            first
              | exact bodyPost_ret (v := .tuple #[.agg #[.slice none 0 0], .bool false]) (by simp [results, Try.results87, go_sem, cR]) rfl (F1.out _)
              | exact bodyPost_ret (v := .tuple #[.agg #[.slice none 0 0], .bool false]) (by simp [results, Try.results87, go_sem, cR]) rfl (F2.out _)
        · obtain ⟨v, hv⟩ : ∃ v : Nat, x = -1 - (v : Int) := ⟨(-1 - x).toNat, by omega⟩
          subst hv
          have hv24 : v < 24 := by omega
          have hvr : vr (-1 - (v : Int)) = v := by unfold vr; omega
          obtain ⟨t1, t2, t3⟩ := term_at HT.out (show k < t.length by rw [HLT.out]; exact hkm)
          rw [HLT.out] at t3
          have hsl := (sub_len1 HT.out (show k < t.length by rw [HLT.out]; exact hkm)).1
          have cA : wr.cell? ⟨w.heap.size, 0, none⟩ = some (.slice A n c) := M.r0.cell 0
          have LS := Lib.hid (l1Sub A (some ⟨bt, ot, none⟩) n c m mc sg t k (len1 sg t k) wr (M.ss.more M.b.size) (M.st.more M.b.size) hn (by omega) hmc hmc2 hars hkm t1 t2 t3)
          obtain ⟨ys, hys⟩ : ∃ ys, subL sg t k = ys := ⟨_, rfl⟩
          rw [hys] at LS hsl
          have HYS := Lib.hid hys
          have hyl : k + ys.length ≤ m := by rw [hsl]; exact t3
          have hyl60 : ys.length ≤ 60 := by omega
          have hwr := M.b.size
          have hw3 := M.r3.lt
          clear hys t1 t2 t3 hsl hy ey cR fR
          go_wp2_with fail
          refine LS.out.mono ?_
          rintro e w1 ⟨D, dn, dc, rfl, od, bb⟩
          replace M := M.next bb
          have hx1 : w1.cell? ⟨bp, op + i, none⟩ = some (.int .i64 (-1 - (v : Int))) := (bb.cell (p := ⟨bp, op + i, none⟩) (show bp < wr.heap.size by omega)).trans hx
          obtain rfl : dn = ys.length := Own.len od
          replace od := Own.lower (base' := w.heap.size + 1 + 1 + 1) od (by omega)
          obtain ⟨Ao, no, co, hc, oo⟩ := M.tb.at hv24
          obtain ⟨os, hos⟩ : ∃ os, s.getD v [] = os := ⟨_, rfl⟩
          rw [hos] at oo
          have HOS := Lib.hid hos
          have HNO := Lib.hid (Own.len oo)
          have hno60 : no ≤ 60 := by rw [HNO.out, ← hos]; exact HS60.out v
          have c3 : w1.cell? ⟨w.heap.size + 1 + 1 + 1, 0, none⟩ = some (.slice (some ⟨w.heap.size + 1 + 1, 0, none⟩) 24 24) := M.r3.cell 0
          have hw1 : IntKind.i64.wrap (-1 - (-1 - (v : Int))) = (v : Int) := by rw [IntKind.wrap_i64]; omega
          have hw2 : IntKind.i64.wrap (v : Int) = (v : Int) := by rw [IntKind.wrap_i64]; omega
          have j0 : (0 : Int) ≤ (v : Int) := by omega
          have j1 : (v : Int) < 24 := by omega
          have HMD := Lib.hid (fun d => M.next (below_drewN (Below.refl _ _) d))
          have HOD := Lib.hid (fun d => Own.drewN od d)
          have HOO := Lib.hid (fun d => Own.drewN oo d)
          have HC := Lib.hid hc
          have HX1 := Lib.hid hx1
          have HVR := Lib.hid hvr
          clear bb hx LS M od oo hos hvr
          go_wp2
          go_quiet (fail)
          generalize hd1 : w1.drewN _ = w2
          have M : Mt w w2 A n c sg (some ⟨bp, op, none⟩) pn p (some ⟨bt, ot, none⟩) m t s := by rw [← hd1]; exact HMD.out _
          have od : Own w2 (w.heap.size + 1 + 1 + 1) (.slice D ys.length dc) ys := by rw [← hd1]; exact HOD.out _
          have oo : Own w2 (w.heap.size + 1 + 1 + 1) (.slice Ao no co) os := by rw [← hd1]; exact HOO.out _
          clear hd1 HMD HOD HOO hx1 c3 hc
          have cR : w2.cell? ⟨w.heap.size + 1, 0, none⟩ = some (.slice none 0 0) := M.r1.cell 0
          have fR : w2.frozen? ⟨w.heap.size + 1, 0, none⟩ = false := M.r1.free 0
          by_cases hn0 : no = 0
          · have hno2 : ¬ ((s.getD (vr (-1 - (v : Int))) []).length ≠ 0 ∧ s.getD (vr (-1 - (v : Int))) [] ≠ subL sg t k) := by
              rw [HVR.out, HOS.out]
              intro h
              exact h.1 (by rw [← HNO.out]; exact hn0)
            subst hn0
            have S := Lib.hid (show mst sg t (p.drop (i + 1)) (k + ys.length) (s.set v ys) = R by rw [← HMS.out, HD.out, mst_var hkl (show ¬ 0 ≤ -1 - (v : Int) by omega) hno2, HVR.out, HYS.out])
            have hs2 := Lib.hid (show ∀ j, ((s.set v ys).getD j []).length ≤ 60 from fun j => by rw [set_get]; split; exact hyl60; exact HS60.out j)
            have hxq : w2.cell? ⟨bp, op + i, none⟩ = some (.int .i64 (-1 - (v : Int))) := by
              obtain ⟨b', o', x', e', -, hq, ex'⟩ := M.sp.spot hip
              injection e' with e'
              injection e' with e1 e2
              subst e1 e2
              rw [hq, ← ex'.out, ex.out]
            have c3q : w2.cell? ⟨w.heap.size + 1 + 1 + 1, 0, none⟩ = some (.slice (some ⟨w.heap.size + 1 + 1, 0, none⟩) 24 24) := M.r3.cell 0
            have fT : w2.frozen? ⟨w.heap.size + 1 + 1, v, none⟩ = false := M.tb.free v
            obtain ⟨A9, n9, c9, hcq, -⟩ := M.tb.at hv24
            have HM2 := Lib.hid (fun d => (M.next (below_drewN (Below.refl _ _) d)).put hv24 (Own.drewN od d))
            clear M od
            go_wp2
            go_region
            go_wp2
            go_roundg (gk - 1)
            case measure => exact hgk.out.1
            case rel => exact ⟨k + ys.length, i + 1, s.set v ys, by simp, by simp, hgk.out.2, hyl, S.out, hs2.out, HM2.out _⟩
          · have hpos : (0 : Int) < (no : Int) := by omega
            go_wp2_with fail
            refine (specSame Ao D no ys.length co dc os ys w2 (Own.seg oo) (Own.seg od) (by omega) (by omega)).mono ?_
            rintro e w3 ⟨he, d3, rfl⟩
            replace M := M.next (below_drewN (Below.refl _ _) d3)
            replace od := Own.drewN od d3
            clear oo cR fR
            generalize w2.drewN d3 = w3 at *
            have cR : w3.cell? ⟨w.heap.size + 1, 0, none⟩ = some (.slice none 0 0) := M.r1.cell 0
            have fR : w3.frozen? ⟨w.heap.size + 1, 0, none⟩ = false := M.r1.free 0
            by_cases hoy : os = ys
            · rw [decide_eq_true hoy] at he
              subst he
              have hno2 : ¬ ((s.getD (vr (-1 - (v : Int))) []).length ≠ 0 ∧ s.getD (vr (-1 - (v : Int))) [] ≠ subL sg t k) := by
                rw [HVR.out, HOS.out, HYS.out]
                intro h
                exact h.2 hoy
              have S := Lib.hid (show mst sg t (p.drop (i + 1)) (k + ys.length) (s.set v ys) = R by rw [← HMS.out, HD.out, mst_var hkl (show ¬ 0 ≤ -1 - (v : Int) by omega) hno2, HVR.out, HYS.out])
              have hs2 := Lib.hid (show ∀ j, ((s.set v ys).getD j []).length ≤ 60 from fun j => by rw [set_get]; split; exact hyl60; exact HS60.out j)
              have hxq : w3.cell? ⟨bp, op + i, none⟩ = some (.int .i64 (-1 - (v : Int))) := by
                obtain ⟨b', o', x', e', -, hq, ex'⟩ := M.sp.spot hip
                injection e' with e'
                injection e' with e1 e2
                subst e1 e2
                rw [hq, ← ex'.out, ex.out]
              have c3q : w3.cell? ⟨w.heap.size + 1 + 1 + 1, 0, none⟩ = some (.slice (some ⟨w.heap.size + 1 + 1, 0, none⟩) 24 24) := M.r3.cell 0
              have fT : w3.frozen? ⟨w.heap.size + 1 + 1, v, none⟩ = false := M.tb.free v
              obtain ⟨A9, n9, c9, hcq, -⟩ := M.tb.at hv24
              have HM2 := Lib.hid (fun d => (M.next (below_drewN (Below.refl _ _) d)).put hv24 (Own.drewN od d))
              clear M od
              go_wp2
              go_region
              go_wp2
              go_roundg (gk - 1)
              case measure => exact hgk.out.1
              case rel => exact ⟨k + ys.length, i + 1, s.set v ys, by simp, by simp, hgk.out.2, hyl, S.out, hs2.out, HM2.out _⟩
            · rw [decide_eq_false hoy] at he
              subst he
              have HN := Lib.hid (show R = none by
                rw [← HMS.out, HD.out, mst_varNo hkl (show ¬ 0 ≤ -1 - (v : Int) by omega) (by
                  rw [HVR.out, HOS.out, HYS.out]
                  exact ⟨by rw [← HNO.out]; exact hn0, hoy⟩)])
              have F1 := Lib.hid (ansM_no (w := w) HN.out M.b)
              have F2 := Lib.hid (ansM_no (w := w) HN.out ((M.b).setCell (p := ⟨w.heap.size + 1, 0, none⟩) (show w.heap.size ≤ w.heap.size + 1 by omega) (.slice none 0 0)))
              clear M od ex HD
              go_wp2
              first
                | exact bodyPost_ret (v := .tuple #[.agg #[.slice none 0 0], .bool false]) (by simp [results, Try.results87, go_sem, cR]) rfl F1.out
                | exact bodyPost_ret (v := .tuple #[.agg #[.slice none 0 0], .bool false]) (by simp [results, Try.results87, go_sem, cR]) rfl F2.out
      · have HN := Lib.hid (show R = none by rw [← HMS.out, HD.out, mst_out (by rw [HLT.out]; omega)])
        have hge : (m : Int) ≤ (k : Int) := by omega
        have F1 := Lib.hid (ansM_no (w := w) HN.out M.b)
        have F2 := Lib.hid (ansM_no (w := w) HN.out ((M.b).setCell (p := ⟨w.heap.size + 1, 0, none⟩) (show w.heap.size ≤ w.heap.size + 1 by omega) (.slice none 0 0)))
        clear M ex HD
        go_wp2
        first
          | exact bodyPost_ret (v := .tuple #[.agg #[.slice none 0 0], .bool false]) (by simp [results, Try.results87, go_sem, cR]) rfl F1.out
          | exact bodyPost_ret (v := .tuple #[.agg #[.slice none 0 0], .bool false]) (by simp [results, Try.results87, go_sem, cR]) rfl F2.out
    · have hipn : i = pn := by have := HI.out; omega
      have hRs : R = some s := by rw [← HMS.out, hipn, List.drop_eq_nil_of_le (by rw [HLP.out]; exact Nat.le_refl _)]; rfl
      have HRS := Lib.hid hRs
      have hlen := M.tb.len
      have htot : tot s ≤ 1048576 := by have := tot_le (M := 60) HS60.out; rw [hlen] at this; omega
      have LP := Lib.hid (l2Plain _ 24 24 s _ M.tb.segs htot)
      have c3 : wr.cell? ⟨w.heap.size + 1 + 1 + 1, 0, none⟩ = some (.slice (some ⟨w.heap.size + 1 + 1, 0, none⟩) 24 24) := M.r3.cell 0
      have z1 := M.b.size
      have r1 := M.r1
      have hb := M.b
      have zr := M.r3.lt
      clear hRs hlen htot M hipn
      go_wp2_with fail
      refine LP.out.mono ?_
      rintro e w2 ⟨D, dn, dc, rfl, od, bb⟩
      replace r1 := r1.next bb
      replace hb := next_trans hb bb
      have cR : w2.cell? ⟨w.heap.size + 1, 0, none⟩ = some (.slice none 0 0) := r1.cell 0
      have fR : w2.frozen? ⟨w.heap.size + 1, 0, none⟩ = false := r1.free 0
      have F : AnsM w (resL R) R.isSome (.returned (.tuple #[.agg #[.slice D dn dc], .bool true])) (w2.setCell ⟨w.heap.size + 1, 0, none⟩ (.slice D dn dc)) := by
        have hbt : Btw (w.heap.size + 1) (w.heap.size + 2) w2 (w2.setCell ⟨w.heap.size + 1, 0, none⟩ (.slice D dn dc)) := Btw.of_grown (grown_put (World.grownBy.refl _ _) _ _) (fun k hk => by injection hk; omega)
        have o2 := od.btw hbt (.inr (by omega))
        refine ⟨D, dn, dc, by rw [HRS.out]; rfl, ?_, hb.setCell (p := ⟨w.heap.size + 1, 0, none⟩) (show w.heap.size ≤ w.heap.size + 1 by omega) _⟩
        rw [HRS.out]
        exact o2.wider z1 (by simp)
      have HF := Lib.hid F
      clear F od bb hb r1 LP
      go_wp2
      exact bodyPost_ret (v := .tuple #[.agg #[.slice D dn dc], .bool true]) (by simp [results, Try.results87, go_sem, cR]) rfl HF.out
/-- what stands in the course of a call with a boxed signature and a boxed result -/
structure Mr (w wr : World) (A : Option Addr) (n c : Nat) (sg : List Int) (P : Option Addr) (pn : Nat) (p : List Int) (Q : Option Addr) (m : Nat) (t : List Int) : Prop where
  r0 : Row wr w.heap.size 26 #[.slice A n c]
  r1 : Row wr (w.heap.size + 1) 111 #[.slice none 0 0]
  ss : Seg wr wr.heap.size A n sg
  sp : Seg wr wr.heap.size P pn p
  st : Seg wr wr.heap.size Q m t
  b : Below w.heap.size w wr
section
variable {w wr w' : World} {A : Option Addr} {n c : Nat} {sg : List Int} {P : Option Addr} {pn : Nat} {p : List Int} {Q : Option Addr} {m : Nat} {t : List Int}
theorem Mr.next (h : Mr w wr A n c sg P pn p Q m t) (hb : Below wr.heap.size wr w') : Mr w w' A n c sg P pn p Q m t :=
  ⟨h.r0.next hb, h.r1.next hb, h.ss.next hb, h.sp.next hb, h.st.next hb, next_trans h.b hb⟩
end
end Go.Proofs.Ytfkgiimcnlagmaa.matchSpec
end

section
/-
  CONTRACTS: spec.SameSubst, impl.SameSubst. Conditions: the slices read as lists ('Seg', 'Segs'), at most 1048576 values. (The regions' walks by wip/tools/reg.py.) By an AI agent.
-/
namespace Go.Proofs.Ytfkgiimcnlagmaa.sameSubst
open Go.RowKit Go.Proofs.Ytfkgiimcnlagmaa.base Go.Proofs.Ytfkgiimcnlagmaa.ints Go.Proofs.Ytfkgiimcnlagmaa.sig Go.Proofs.Ytfkgiimcnlagmaa.same Go.Proofs.Ytfkgiimcnlagmaa.marks Go.Proofs.Ytfkgiimcnlagmaa.sym Go.Proofs.Ytfkgiimcnlagmaa.segs Go.Proofs.Ytfkgiimcnlagmaa.segsHelp Go.Proofs.Ytfkgiimcnlagmaa.kinds Go.Proofs.Ytfkgiimcnlagmaa.varsOf Go.Proofs.Ytfkgiimcnlagmaa.fillMath Go.Proofs.Ytfkgiimcnlagmaa.look Go.Proofs.Ytfkgiimcnlagmaa.substOk Go.Proofs.Ytfkgiimcnlagmaa.gives
set_option maxRecDepth 100000

end Go.Proofs.Ytfkgiimcnlagmaa.sameSubst
end

section
/-
  PLAIN MATHEMATICS of plain substitutions: the plain form is valid, replaces in the same way, and is unique; of compositions: they are valid and fill as one after the other. Conditions: those named. By an AI agent.
-/
namespace Go.Proofs.Ytfkgiimcnlagmaa.plainFacts
open Go.RowKit Go.Proofs.Ytfkgiimcnlagmaa.base Go.Proofs.Ytfkgiimcnlagmaa.ints Go.Proofs.Ytfkgiimcnlagmaa.sig Go.Proofs.Ytfkgiimcnlagmaa.term Go.Proofs.Ytfkgiimcnlagmaa.termOk Go.Proofs.Ytfkgiimcnlagmaa.termFacts Go.Proofs.Ytfkgiimcnlagmaa.fillMath Go.Proofs.Ytfkgiimcnlagmaa.plainMath Go.Proofs.Ytfkgiimcnlagmaa.plainOf Go.Proofs.Ytfkgiimcnlagmaa.substOk Go.Proofs.Ytfkgiimcnlagmaa.gives Go.Proofs.Ytfkgiimcnlagmaa.sameSubst Go.Proofs.Ytfkgiimcnlagmaa.compMath Go.Proofs.Ytfkgiimcnlagmaa.filled

end Go.Proofs.Ytfkgiimcnlagmaa.plainFacts
end

section
/-
  PLAIN MATHEMATICS: a match's answer holds few numbers. Conditions: none. By an AI agent.
-/
namespace Go.Proofs.Ytfkgiimcnlagmaa.matchTot
open Go.RowKit Go.Proofs.Ytfkgiimcnlagmaa.base Go.Proofs.Ytfkgiimcnlagmaa.ints Go.Proofs.Ytfkgiimcnlagmaa.sig Go.Proofs.Ytfkgiimcnlagmaa.term Go.Proofs.Ytfkgiimcnlagmaa.termOk Go.Proofs.Ytfkgiimcnlagmaa.app Go.Proofs.Ytfkgiimcnlagmaa.sym Go.Proofs.Ytfkgiimcnlagmaa.sub Go.Proofs.Ytfkgiimcnlagmaa.segs Go.Proofs.Ytfkgiimcnlagmaa.segsHelp Go.Proofs.Ytfkgiimcnlagmaa.plainMath Go.Proofs.Ytfkgiimcnlagmaa.gives Go.Proofs.Ytfkgiimcnlagmaa.plainOf Go.Proofs.Ytfkgiimcnlagmaa.fillMath Go.Proofs.Ytfkgiimcnlagmaa.termFacts Go.Proofs.Ytfkgiimcnlagmaa.matchMath Go.Proofs.Ytfkgiimcnlagmaa.matchSpec

end Go.Proofs.Ytfkgiimcnlagmaa.matchTot
end

section
/-
  PLAIN MATHEMATICS: what matching finds is a valid substitution, which turns the pattern into the term; a filled term is an instance of what was filled. Conditions: none. By an AI agent.
-/
namespace Go.Proofs.Ytfkgiimcnlagmaa.matchFacts
open Go.Proofs.Ytfkgiimcnlagmaa.sig Go.Proofs.Ytfkgiimcnlagmaa.term Go.Proofs.Ytfkgiimcnlagmaa.termOk Go.Proofs.Ytfkgiimcnlagmaa.termFacts Go.Proofs.Ytfkgiimcnlagmaa.endAt Go.Proofs.Ytfkgiimcnlagmaa.sub Go.Proofs.Ytfkgiimcnlagmaa.termMath Go.Proofs.Ytfkgiimcnlagmaa.fillMath Go.Proofs.Ytfkgiimcnlagmaa.posMath Go.Proofs.Ytfkgiimcnlagmaa.segsHelp Go.Proofs.Ytfkgiimcnlagmaa.substOk Go.Proofs.Ytfkgiimcnlagmaa.gives Go.Proofs.Ytfkgiimcnlagmaa.plainMath Go.Proofs.Ytfkgiimcnlagmaa.plainFacts Go.Proofs.Ytfkgiimcnlagmaa.filled Go.Proofs.Ytfkgiimcnlagmaa.sameSubst Go.Proofs.Ytfkgiimcnlagmaa.matchMath Go.Proofs.Ytfkgiimcnlagmaa.matchSpec

end Go.Proofs.Ytfkgiimcnlagmaa.matchFacts
end

section
/-
  CONTRACTS: spec.l7Right, RedexAt, l7Step, StepAt. Conditions: the system reads as data ('Rd'), the term as a list ('Seg'), at most 1048576 numbers; place and rule are int64. By an AI agent.
-/
namespace Go.Proofs.Ytfkgiimcnlagmaa.stepSpec
open Go.RowKit Go.Proofs.Ytfkgiimcnlagmaa.base Go.Proofs.Ytfkgiimcnlagmaa.ints Go.Proofs.Ytfkgiimcnlagmaa.sig Go.Proofs.Ytfkgiimcnlagmaa.term Go.Proofs.Ytfkgiimcnlagmaa.termOk Go.Proofs.Ytfkgiimcnlagmaa.endAt Go.Proofs.Ytfkgiimcnlagmaa.endOf Go.Proofs.Ytfkgiimcnlagmaa.marks Go.Proofs.Ytfkgiimcnlagmaa.app Go.Proofs.Ytfkgiimcnlagmaa.sym Go.Proofs.Ytfkgiimcnlagmaa.sub Go.Proofs.Ytfkgiimcnlagmaa.segs Go.Proofs.Ytfkgiimcnlagmaa.segsHelp Go.Proofs.Ytfkgiimcnlagmaa.kinds Go.Proofs.Ytfkgiimcnlagmaa.termFacts Go.Proofs.Ytfkgiimcnlagmaa.termMath Go.Proofs.Ytfkgiimcnlagmaa.posMath Go.Proofs.Ytfkgiimcnlagmaa.plainMath Go.Proofs.Ytfkgiimcnlagmaa.plainFacts Go.Proofs.Ytfkgiimcnlagmaa.plain Go.Proofs.Ytfkgiimcnlagmaa.gives Go.Proofs.Ytfkgiimcnlagmaa.fillMath Go.Proofs.Ytfkgiimcnlagmaa.shifted Go.Proofs.Ytfkgiimcnlagmaa.matchMath Go.Proofs.Ytfkgiimcnlagmaa.matchSpec Go.Proofs.Ytfkgiimcnlagmaa.putMath Go.Proofs.Ytfkgiimcnlagmaa.varsOf Go.Proofs.Ytfkgiimcnlagmaa.shape Go.Proofs.Ytfkgiimcnlagmaa.kindsR Go.Proofs.Ytfkgiimcnlagmaa.kindsW Go.Proofs.Ytfkgiimcnlagmaa.ruleMath Go.Proofs.Ytfkgiimcnlagmaa.ruleSpec Go.Proofs.Ytfkgiimcnlagmaa.stepMath Go.Proofs.Ytfkgiimcnlagmaa.walkMath
set_option maxRecDepth 100000

/-! ### plain facts -/
theorem right_sys {sg : List Int} {rs : List Rl} {t : List Int} (h : sysOkB sg rs = false) : rightB sg rs t = false := by unfold rightB; rw [h]; rfl
theorem right_term {sg : List Int} {rs : List Rl} {t : List Int} (h : termOkB sg t = false) : rightB sg rs t = false := by unfold rightB; rw [h, Bool.and_false]
theorem right_yes {sg : List Int} {rs : List Rl} {t : List Int} (h : sysOkB sg rs = true) (h' : termOkB sg t = true) : rightB sg rs t = true := by unfold rightB; rw [h, h']; rfl
theorem right_parts {sg : List Int} {rs : List Rl} {t : List Int} (h : rightB sg rs t = true) : sysOkB sg rs = true ∧ termOkB sg t = true := by unfold rightB at h; rw [Bool.and_eq_true] at h; exact h
theorem there_r {sg : List Int} {rs : List Rl} {t : List Int} {a r : Int} (h : rightB sg rs t = false) : thereR sg rs t a r = false := by unfold thereR; rw [h]; rfl
theorem redex_no {sg : List Int} {rs : List Rl} {t : List Int} {a r : Int} (h : thereR sg rs t a r = false) : redexB sg rs t a r = false := by unfold redexB; rw [h]; rfl
theorem redex_yes {sg : List Int} {rs : List Rl} {t : List Int} {a r : Int} (h : thereR sg rs t a r = true) : redexB sg rs t a r = redB sg (rl rs r) t a.toNat := by unfold redexB; rw [h]; rfl
theorem at_no {sg : List Int} {rs : List Rl} {t : List Int} {a r : Int} (h : thereR sg rs t a r = false) : stepAtO sg rs t a r = none := by unfold stepAtO; rw [if_neg (by rw [h]; simp)]
theorem sys_rule {sg : List Int} {rs : List Rl} (h : sysOkB sg rs = true) {r : Nat} (hr : r < rs.length) : ruleOkB sg (rs.getD r ([], [])) = true := by
  have := rl_ok (r := (r : Int)) h (by omega)
  unfold rl at this
  simpa using this
set_option maxHeartbeats 2000000 in
theorem l7Right (a v : Value) (d : Dat sSystem) (T : Option Addr) (m c : Nat) (t : List Int) (w : World) (h : Rd w w.heap.size sSystem [a, v] d) (hz : sz sSystem d ≤ 1048576) (ht : Seg w w.heap.size T m t) (hm : m ≤ 1048576) :
    Calls Try.prog 50 #[.agg #[a, v], .slice T m c] w (AnsB w (rightB d.1 d.2 t)) := by
  obtain ⟨A, n, cs, V, q, cv, rfl, rfl, hs, hc, hcv, hq, hn, hq1, hrs, hsg, hE⟩ := rd_sys h hz
  obtain ⟨W, hW, rA, bel⟩ := box1 w 29 #[.slice A n cs, .slice V q cv]
  have HW := Lib.hid hW
  have L1 := Lib.hid (specSystemOk _ _ d W (h.next bel) hz)
  have L2 := Lib.hid (fun (w1 : World) (bb : Below w.heap.size w w1) => specTermOk A T n cs m c d.1 t w1 (hs.next bb) (ht.next bb) hn hm)
  clear hW h hz hs hc hcv hq hrs hsg hE ht
  cases ok1 : sysOkB d.1 d.2 with
  | false =>
    have HS := Lib.hid ok1
    clear ok1
    go_enter Try.func50, Try.ntmps50
    go_wp2_with fail
    rw [← HW.out]
    refine L1.out.mono ?_
    rintro e w1 ⟨he, bb⟩
    rw [HS.out] at he
    subst he
    have F := Lib.hid (ansB (b := rightB d.1 d.2 t) (a := false) (by rw [right_sys HS.out]) (next_trans bel bb))
    clear bb bel rA
    go_wp2
    go_ret
    exact F.out
  | true =>
    obtain ⟨bt, hbt⟩ : ∃ b, termOkB d.1 t = b := ⟨_, rfl⟩
    have HS := Lib.hid (show rightB d.1 d.2 t = bt by unfold rightB; rw [ok1, hbt]; rfl)
    have HB := Lib.hid hbt
    have H1 := Lib.hid ok1
    clear ok1 hbt
    go_enter Try.func50, Try.ntmps50
    go_wp2_with fail
    rw [← HW.out]
    refine L1.out.mono ?_
    rintro e w1 ⟨he, bb⟩
    rw [H1.out] at he
    subst he
    replace rA := rA.next bb
    replace bel := next_trans bel bb
    have cA : w1.cell? ⟨w.heap.size, 0, none⟩ = some (.slice A n cs) := rA.cell 0
    clear bb L1
    go_wp2_with fail
    refine (L2.out _ bel).mono ?_
    rintro e w2 ⟨he, bb⟩
    rw [HB.out] at he
    subst he
    have F := Lib.hid (ansB (b := rightB d.1 d.2 t) (a := bt) (by rw [HS.out]) (next_trans bel bb))
    clear bb bel rA cA
    cases bt <;> (go_wp2; go_ret; exact F.out)
-- REST
/-- what the region asks of l1Sub and of l4Match, in whatever world above W -/
def SubIn (W : World) (A : Option Addr) (n cs : Nat) (T : Option Addr) (m c : Nat) (x : Int) (ys : List Int) : Prop := ∀ X, Below W.heap.size W X → Calls Try.prog 86 #[.agg #[.slice A n cs], .slice T m c, .int .i64 x] X fun e w' => ∃ D dn dc, e = .returned (.slice D dn dc) ∧ Own w' W.heap.size (.slice D dn dc) ys ∧ Below W.heap.size W w' ∧ Below X.heap.size X w'
theorem subIn {W : World} {A : Option Addr} {n cs : Nat} {T : Option Addr} {m c : Nat} {sg t : List Int} {a : Nat} (h : Seg W W.heap.size A n sg) (h' : Seg W W.heap.size T m t) (hn : n ≤ 1048576) (hm : m ≤ 1048576) (hc : m ≤ c) (hc2 : c ≤ 9223372036854775807) (ht : termOkB sg t = true) (ha : a < t.length) : SubIn W A n cs T m c (a : Int) (subL sg t a) := fun X hX => by
  obtain ⟨t1, t2, t3⟩ := term_at ht ha
  have hl := h'.1
  refine (l1Sub A T n cs m c sg t a (len1 sg t a) X (h.next hX) (h'.next hX) hn hm hc hc2 (sig_arities (termOk_parts ht).1).1 (by omega) t1 t2 (by omega)).mono ?_
  rintro e w3 ⟨D, dn, dc, rfl, od, b3⟩
  exact ⟨D, dn, dc, rfl, Own.lower od hX.size, next_trans hX b3, b3⟩
theorem box_a {W w : World} {v : Bool} {o : Obj} (h : Below W.heap.size W w) : Value.bool v = .bool v ∧ Below W.heap.size W (w.alloc o) := ⟨rfl, h.alloc h.size _⟩
theorem box_b {W w : World} {v : Bool} {g i : Nat} {u : Value} (h : Below W.heap.size W w) (hg : W.heap.size ≤ g) : Value.bool v = .bool v ∧ Below W.heap.size W (w.setCell ⟨g, i, none⟩ u) := ⟨rfl, h.setCell hg _⟩

/-! ### a step -/
end Go.Proofs.Ytfkgiimcnlagmaa.stepSpec
end

section
/-
  WORDS FOR MEMORY: a table of 24 lists that may be read ('TabR'). Conditions: none; plain lemmas. By an AI agent.
-/
namespace Go.Proofs.Ytfkgiimcnlagmaa.whole
open Go.RowKit Go.Proofs.Ytfkgiimcnlagmaa.base Go.Proofs.Ytfkgiimcnlagmaa.segs Go.Proofs.Ytfkgiimcnlagmaa.matchMath
set_option maxRecDepth 100000

/-- 24 empty lists -/
def z24 : Array Value := Array.replicate 24 (.slice none 0 0)
theorem z24_size : z24.size = 24 := by simp [z24]

section
variable {w w' : World} {B B' g : Nat} {cs : Array Value} {s : List (List Int)} {t : TypeId}
/-- 24 lists that may be read, all of them below B -/
def TabR (w : World) (B : Nat) (cs : Array Value) (s : List (List Int)) : Prop :=
  cs.size = 24 ∧ s.length = 24 ∧ ∀ j, j < 24 → ∃ A n c, cs[j]? = some (.slice A n c) ∧ Seg w B A n (s.getD j []) ∧ Cap A n c
theorem TabR.new (w : World) (B : Nat) : TabR w B z24 s0 :=
  ⟨z24_size, rfl, fun j hj => ⟨none, 0, 0, by simp [z24, hj], by rw [s0_get]; exact Seg.empty, ⟨Nat.le_refl _, by omega, fun _ => rfl⟩⟩⟩
theorem TabR.keep (h : TabR w B cs s) (hk : ∀ p : Addr, p.block < B → w'.cell? p = w.cell? p) : TabR w' B cs s :=
  ⟨h.1, h.2.1, fun j hj => by obtain ⟨A, n, c, e, hs, hc⟩ := h.2.2 j hj; exact ⟨A, n, c, e, hs.keep hk, hc⟩⟩
theorem TabR.below (h : TabR w B cs s) (hb : Below B w w') : TabR w' B cs s := h.keep fun _ hp => hb.cell hp
theorem TabR.put (h : TabR w B cs s) {j : Nat} (hj : j < 24) {A : Option Addr} {n c : Nat} {ys : List Int} (hs : Seg w B A n ys) (hc : Cap A n c) : TabR w B (cs.setIfInBounds j (.slice A n c)) (s.set j ys) := by
  refine ⟨by rw [Array.size_setIfInBounds]; exact h.1, by rw [List.length_set]; exact h.2.1, fun i hi => ?_⟩
  by_cases e : j = i
  · subst e
    exact ⟨A, n, c, by rw [Array.getElem?_setIfInBounds_self_of_lt (by rw [h.1]; exact hj)], by rw [set_get, if_pos ⟨rfl, by rw [h.2.1]; exact hj⟩]; exact hs, hc⟩
  · obtain ⟨A', n', c', e', hs', hc'⟩ := h.2.2 i hi
    exact ⟨A', n', c', by rw [Array.getElem?_setIfInBounds_ne e]; exact e', by rw [set_get, if_neg (fun hh => e hh.1)]; exact hs', hc'⟩
theorem TabR.one (h : TabR w B cs s) : cs.all (·.oneCell') = true := by
  rw [Array.all_eq_true]
  intro i hi
  obtain ⟨A, n, c, e, _⟩ := h.2.2 i (by rw [← h.1]; exact hi)
  rw [Array.getElem?_eq_getElem hi] at e
  injection e with e
  rw [e]; rfl
end
end Go.Proofs.Ytfkgiimcnlagmaa.whole
end

section
/-
  WORDS FOR MEMORY, impl's bindings: an array of 24 lists by value, in and out of a block that is known whole; a table of 24 lists that may be read ('TabR'). Conditions: none; plain lemmas. By an AI agent.
-/
namespace Go.Proofs.Ytfkgiimcnlagmaa.whole
open Go.RowKit Go.Proofs.Ytfkgiimcnlagmaa.base Go.Proofs.Ytfkgiimcnlagmaa.cursor Go.Proofs.Ytfkgiimcnlagmaa.marks Go.Proofs.Ytfkgiimcnlagmaa.app Go.Proofs.Ytfkgiimcnlagmaa.sym Go.Proofs.Ytfkgiimcnlagmaa.segs Go.Proofs.Ytfkgiimcnlagmaa.matchMath Go.Proofs.Ytfkgiimcnlagmaa.matchSpec
set_option maxRecDepth 100000

section
variable {P : Program} {ops : Array Oper} {rest : List Oper} {o : Oper} {a : Act} {w : World} {Q : Exit → Act → World → Prop}
/-- a new variable of a type whose zero value is z -/
theorem rowAlloc (hgd : o.guard = none) (t : TypeId) (ho : o.op = .alloc t) (z : Array Value) (hz : ∀ w, (zeroValue t).run P w = .ok (.agg z) w)
    (h : wpList P ops Q rest (a.put o.dst (.pointer (some ⟨w.heap.size, 0, none⟩))) (w.alloc (.cells z t))) : wpList P ops Q (o :: rest) a w :=
  wpList_plain hgd fun _ hK => by
    unfold Oper.wp execOp
    simp only [ho, Instr.alloc, Sem.run_bind, hz, Result.andThen_ok, newVar, Value.cells]
    exact hK _ _ h
/-- a new variable with a value -/
theorem rowBox (hgd : o.guard = none) (t : TypeId) (x : Operand) (ho : o.op = .box t x) (z : Array Value) (hx : a.eval x = .agg z)
    (h : wpList P ops Q rest (a.put o.dst (.pointer (some ⟨w.heap.size, 0, none⟩))) (w.alloc (.cells z t))) : wpList P ops Q (o :: rest) a w :=
  wpList_plain hgd fun _ hK => by
    unfold Oper.wp execOp
    simp only [ho, hx, Instr.box, Sem.run_bind, Result.andThen_ok, newVar, Value.cells]
    exact hK _ _ h
/-- a literal without elements -/
theorem rowBuild (hgd : o.guard = none) (t : TypeId) (ho : o.op = .build t #[]) (z : Array Value) (hz : P.built t [] = some z)
    (h : wpList P ops Q rest (a.put o.dst (.agg z)) w) : wpList P ops Q (o :: rest) a w :=
  wpList_plain hgd fun _ hK => by
    refine wp_build t #[] ho (by simp [hz]) ?_
    simp only [List.map_toArray, List.map_nil, hz, Option.getD_some]
    exact hK _ _ h
/-- a whole row is written -/
theorem rowStore (hgd : o.guard = none) (ty : TypeId) (x y : Operand) (ho : o.op = .store ty x y) (g : Nat) (cells old : Array Value) (t : TypeId) (hx : a.eval x = .pointer (some ⟨g, 0, none⟩)) (hy : a.eval y = .agg cells)
    (hg : w.heap[g]? = some (.cells old t (0, 0))) (hi : (P.info? ty).map (·.size) = some cells.size) (hs : old.size = cells.size) (h1 : cells.all (·.oneCell') = true)
    (h : wpList P ops Q rest (a.put o.dst undef) (w.setRow g cells)) : wpList P ops Q (o :: rest) a w :=
  wpList_plain hgd fun _ hK => by
    unfold Oper.wp execOp
    simp only [ho, hx, hy, Instr.storeAt, Instr.sureAddr, Sem.run_bind, Sem.run_pure, Result.andThen_ok, run_storeVar_row w g t ty old cells hg hi hs h1]
    exact hK _ _ h
/-- a whole row and a value are the results -/
theorem results_row_tmp {fn : Func} {p u : Tmp} {ty : TypeId} (h : fn.results = #[.cell p ty, .tmp u]) (tmps : Array Value) (g : Nat) (t : TypeId) (cs : Array Value) (d : TypeDesc)
    (hp : tmps.getD p undef = .pointer (some ⟨g, 0, none⟩)) (hg : w.heap[g]? = some (.cells cs t (0, 0)))
    (hu : P.underlying ty = some d) (hd : (match d with | .struct _ | .array _ _ => true | _ => false) = true) (hi : (P.info? ty).map (·.size) = some cs.size) :
    (results fn tmps).run P w = .ok (.tuple #[.agg cs, tmps.getD u undef]) w := by
  rw [results_cell_tmp h, hp]
  simp [asAddr, Result.andThen, run_loadVar_row w g t ty cs (0, 0) d hg hu hd hi]
end

theorem z24_one : z24.all (·.oneCell') = true := by kernel_rfl
theorem info_b : (Try.prog.info? 128).map (fun i => (i.zero, i.size)) = some (some (.agg z24), 24) := by kernel_rfl
theorem zero_b : ∀ w, (zeroValue 128).run Try.prog w = .ok (.agg z24) w := by
  intro w
  cases hq : Try.prog.info? 128 with
  | none => have h := info_b; simp [hq] at h
  | some i => have h := info_b; simp [hq] at h; simp [zeroValue, typeInfo, hq, h.1]
theorem size_b : (Try.prog.info? 128).map (·.size) = some 24 := by kernel_rfl
theorem built_b : Try.prog.built 128 [] = some z24 := by kernel_rfl

section
variable {w w' : World} {B B' g : Nat} {cs : Array Value} {s : List (List Int)} {t : TypeId}
theorem Row.setRow (h : Row w g t cs) (c' : Array Value) : Row (w.setRow g c') g t c' := setRow_heap w g cs c' t (0, 0) h
theorem grown_setRow (w : World) (g : Nat) (c' : Array Value) : w.grownBy (w.setRow g c') (some g) :=
  ⟨rfl, rfl, rfl, by simp, fun k _ hk => setRow_other w g k c' (fun e => hk (by rw [e]))⟩

end
end Go.Proofs.Ytfkgiimcnlagmaa.whole
end

section
/-
  PLAIN MATHEMATICS of impl's matching: pattern and term are read in step; a pattern is matched at a place of a term just where it is matched with the subterm there; all terms valid. Conditions: none. By an AI agent.
-/
namespace Go.Proofs.Ytfkgiimcnlagmaa.takeMath
open Go.Proofs.Ytfkgiimcnlagmaa.sig Go.Proofs.Ytfkgiimcnlagmaa.term Go.Proofs.Ytfkgiimcnlagmaa.termOk Go.Proofs.Ytfkgiimcnlagmaa.termFacts Go.Proofs.Ytfkgiimcnlagmaa.endAt Go.Proofs.Ytfkgiimcnlagmaa.sub Go.Proofs.Ytfkgiimcnlagmaa.termMath Go.Proofs.Ytfkgiimcnlagmaa.fillMath Go.Proofs.Ytfkgiimcnlagmaa.posMath Go.Proofs.Ytfkgiimcnlagmaa.renMath Go.Proofs.Ytfkgiimcnlagmaa.matchMath

/-- as many terms are missing in the pattern as in the term -/
def Sync (sg p t : List Int) (i k : Nat) : Prop := ∃ q, scan sg q (p.drop i) = some (p.length - i) ∧ ∃ j, scan sg q (t.drop k) = some j
section
variable {sg p t : List Int} {i k : Nat} {x : Int}
theorem Sync.start (h1 : termOkB sg p = true) (h2 : termOkB sg t = true) (ha : k < t.length) : Sync sg p t 0 k :=
  ⟨1, by rw [List.drop_zero, Nat.sub_zero]; exact (term_parts h1).2.2, _, (term_at h2 ha).1⟩
theorem Sync.lt (h : Sync sg p t i k) (hi : i < p.length) : k < t.length := by
  obtain ⟨q, h1, j, h2⟩ := h
  cases q with
  | zero => rw [scan_zero] at h1; injection h1 with h1; omega
  | succ q =>
    have a := scan_pos h2
    have b := scan_le h2
    rw [List.length_drop] at b
    omega
theorem Sync.sym (h : Sync sg p t i k) (hi : i < p.length) (hx : p.getD i 0 = x) (hy : t.getD k 0 = x) : Sync sg p t (i + 1) (k + 1) := by
  have hk := h.lt hi
  obtain ⟨q, h1, j, h2⟩ := h
  rw [drop_cons hi, hx] at h1
  rw [drop_cons hk, hy] at h2
  cases q with
  | zero => rw [scan_zero] at h1; injection h1 with h1; omega
  | succ q =>
    by_cases hn : ar sg x < 0
    · rw [scan_bad hn] at h1; cases h1
    · rw [scan_step hn, Option.map_eq_some_iff] at h1 h2
      obtain ⟨a, e1, e2⟩ := h1
      obtain ⟨b, e3, e4⟩ := h2
      exact ⟨_, by rw [e1]; congr 1; omega, b, e3⟩
theorem Sync.var (h : Sync sg p t i k) (hi : i < p.length) (hx : p.getD i 0 = x) (h0 : -24 ≤ x) (h1 : x < 0) (hok : termOkB sg t = true) : Sync sg p t (i + 1) (k + (subL sg t k).length) := by
  have hk := h.lt hi
  have hl := (sub_len1 hok hk).1
  obtain ⟨q, h1, j, h2⟩ := h
  rw [drop_cons hi, hx] at h1
  cases q with
  | zero => rw [scan_zero] at h1; injection h1 with h1; omega
  | succ q =>
    have hz : ar sg x = 0 := ar_var (by omega)
    rw [scan_step (by omega), hz, Option.map_eq_some_iff] at h1
    obtain ⟨a, e1, e2⟩ := h1
    obtain ⟨j1, g1, _, _, g2⟩ := scan_first h2
    rw [hl, len1_eq g1]
    exact ⟨q, by rw [show p.length - (i + 1) = a by omega]; exact e1, _, g2⟩
end

/-- at a place of the term: just where the subterm there is an instance -/
theorem mst_at {sg p t : List Int} {k : Nat} (h1 : termOkB sg p = true) (h2 : termOkB sg t = true) (hk : k < t.length) : (mst sg t p k s0).isSome = instB sg p (subL sg t k) := by
  have hx : ∀ x ∈ p, -24 ≤ x := fun x hx => (term_mem h1 hx).1
  have hs := (sub_term h2 hk).1
  obtain ⟨_, e2, e3⟩ := sub_len1 h2 hk
  rw [Bool.eq_iff_iff, inst_iff h1 hs, Option.isSome_iff_exists]
  constructor
  · rintro ⟨s', h⟩
    obtain ⟨⟨rest, e⟩, hv⟩ := mst_sound h2 h (by rfl) hx
    refine ⟨fun i => s'.getD i [], ?_, hv⟩
    have a := scan_append (r := rest) (scan_fill (L := fun i => s'.getD i []) (term_parts h1).2.2 hv)
    rw [← e] at a
    unfold subL
    rw [len1_eq a, e, List.take_left' rfl]
  · rintro ⟨L, hL, hv⟩
    obtain ⟨s', m1, _⟩ := mst_full (sg := sg) (t := t) (L := L) (p := p) (k := k) (s := s0) (rest := t.drop (k + (subL sg t k).length)) (by rw [hL]; exact e2) (by rfl) hx hv (fun i hi => by rw [s0_get] at hi; exact absurd rfl hi)
    exact ⟨s', m1⟩

end Go.Proofs.Ytfkgiimcnlagmaa.takeMath
end

section
/-
  CONTRACT: impl's (*bindings).take. Conditions: the slices read as lists ('Seg') below the bindings' block, the cursor's block is the next one, the term is valid, the place lies in it, the pattern's number is at least -24. By an AI agent.
-/
namespace Go.Proofs.Ytfkgiimcnlagmaa.take
open Go.RowKit Go.Proofs.Ytfkgiimcnlagmaa.base Go.Proofs.Ytfkgiimcnlagmaa.ints Go.Proofs.Ytfkgiimcnlagmaa.sig Go.Proofs.Ytfkgiimcnlagmaa.same Go.Proofs.Ytfkgiimcnlagmaa.term Go.Proofs.Ytfkgiimcnlagmaa.termOk Go.Proofs.Ytfkgiimcnlagmaa.endAt Go.Proofs.Ytfkgiimcnlagmaa.marks Go.Proofs.Ytfkgiimcnlagmaa.app Go.Proofs.Ytfkgiimcnlagmaa.sym Go.Proofs.Ytfkgiimcnlagmaa.sub Go.Proofs.Ytfkgiimcnlagmaa.segs Go.Proofs.Ytfkgiimcnlagmaa.termFacts Go.Proofs.Ytfkgiimcnlagmaa.termMath Go.Proofs.Ytfkgiimcnlagmaa.posMath Go.Proofs.Ytfkgiimcnlagmaa.cursor Go.Proofs.Ytfkgiimcnlagmaa.matchMath Go.Proofs.Ytfkgiimcnlagmaa.matchSpec Go.Proofs.Ytfkgiimcnlagmaa.whole Go.Proofs.Ytfkgiimcnlagmaa.takeMath Go.Proofs.Ytfkgiimcnlagmaa.curO
set_option maxRecDepth 100000

theorem set_same {s : List (List Int)} {v : Nat} {ys : List Int} (h : s.getD v [] = ys) (hv : v < s.length) : s.set v ys = s := by
  refine List.ext_getElem (by simp) fun i h1 h2 => ?_
  rw [List.getElem_set]
  split
  · rename_i e
    subst e
    rw [← h]
    simp [List.getD, hv]
  · rfl

/-- bindings in block g, cursor in the next one -/
structure Tk (w : World) (g : Nat) (A : Option Addr) (n c : Nat) (Q : Option Addr) (m mc : Nat) (sg t : List Int) (k : Nat) (s : List (List Int)) : Prop where
  row : Row w (g + 1) 121 #[.slice A n c, .slice Q m mc, .int .i64 k]
  tab : ∃ cs, Row w g 128 cs ∧ TabR w g cs s
  ss : Seg w g A n sg
  st : Seg w g Q m t
  le : k ≤ m
  hn : n ≤ 1048576
  hm : m ≤ 1048576
  ars : Arities sg
  hs : ∀ j, (s.getD j []).length ≤ m
section
variable {w w' : World} {g : Nat} {A : Option Addr} {n c : Nat} {Q : Option Addr} {m mc : Nat} {sg t : List Int} {k k' : Nat} {s : List (List Int)}
theorem Tk.cur (h : Tk w g A n c Q m mc sg t k s) : Cur w (g + 1) A n c Q m mc sg t k := ⟨h.row, h.ss.more (Nat.le_succ _), h.st.more (Nat.le_succ _), h.le, h.hn, h.hm, h.ars⟩
theorem Tk.lt (h : Tk w g A n c Q m mc sg t k s) : g + 1 < w.heap.size := h.row.lt
theorem keep_of {B : Nat} {r : Option Nat} (hg : w.grownBy w' r) (hB : B ≤ w.heap.size) (hr : ∀ k, r = some k → B ≤ k) : ∀ p : Addr, p.block < B → w'.cell? p = w.cell? p :=
  fun q hq => World.cell?_of_block (hg.block q.block (by omega) (fun e => by have := hr _ e.symm; omega))
/-- the cursor has moved -/
theorem Tk.move (h : Tk w g A n c Q m mc sg t k s) (hg : w.grownBy w' (some (g + 1))) (hr : Row w' (g + 1) 121 #[.slice A n c, .slice Q m mc, .int .i64 k']) (hk : k' ≤ m) : Tk w' g A n c Q m mc sg t k' s := by
  have hl := h.lt
  have hk0 := keep_of (B := g) hg (by omega) (fun k e => by injection e; omega)
  obtain ⟨cs, h1, h2⟩ := h.tab
  refine ⟨hr, ⟨cs, (hg.block g (by omega) (fun e => by injection e; omega)).trans h1, h2.keep hk0⟩, h.ss.keep hk0, h.st.keep hk0, hk, h.hn, h.hm, h.ars, h.hs⟩
theorem Tk.drewN (h : Tk w g A n c Q m mc sg t k s) (d : Nat) : Tk (w.drewN d) g A n c Q m mc sg t k s := ⟨h.row, h.tab, h.ss, h.st, h.le, h.hn, h.hm, h.ars, h.hs⟩
/-- a binding is written -/
theorem Tk.put (h : Tk w g A n c Q m mc sg t k s) {j : Nat} (hj : j < 24) {D : Option Addr} {dn dc : Nat} {ys : List Int} (hs : Seg w g D dn ys) (hc : Cap D dn dc) (hl : ys.length ≤ m) :
    Tk (w.setCell ⟨g, j, none⟩ (.slice D dn dc)) g A n c Q m mc sg t k (s.set j ys) := by
  have hlt := h.lt
  have hg : w.grownBy (w.setCell ⟨g, j, none⟩ (.slice D dn dc)) (some g) := grown_put (World.grownBy.refl _ _) _ _
  have hk0 := keep_of (B := g) hg (by omega) (fun k e => by injection e; omega)
  obtain ⟨cs, h1, h2⟩ := h.tab
  exact ⟨h.row.far (show g + 1 ≠ g by omega) _, ⟨_, h1.put j _, (h2.put hj hs hc).keep hk0⟩, h.ss.keep hk0, h.st.keep hk0, h.le, h.hn, h.hm, h.ars, fun i => by rw [set_get]; split; exact hl; exact h.hs i⟩
theorem Tk.held (h : Tk w g A n c Q m mc sg t k s) {j : Nat} (hj : j < 24) : ∃ D dn dc, w.cell? ⟨g, j, none⟩ = some (.slice D dn dc) ∧ Seg w g D dn (s.getD j []) ∧ w.frozen? ⟨g, j, none⟩ = false := by
  obtain ⟨cs, h1, h2⟩ := h.tab
  obtain ⟨D, dn, dc, e, hs, _⟩ := h2.2.2 j hj
  exact ⟨D, dn, dc, by rw [h1.cell j, e], hs, h1.free j⟩
theorem Tk.len (h : Tk w g A n c Q m mc sg t k s) : s.length = 24 := by obtain ⟨cs, h1, h2⟩ := h.tab; exact h2.2.1
end

theorem btw_drewN (lo hi : Nat) (w : World) (d : Nat) : Btw lo hi w (w.drewN d) := ⟨rfl, rfl, rfl, Nat.le_refl _, fun _ _ _ => rfl⟩
/-- what take gives: a step of the walk -/
def AnsTake (w : World) (g : Nat) (A : Option Addr) (n c : Nat) (Q : Option Addr) (m mc : Nat) (sg t : List Int) (k : Nat) (s : List (List Int)) (x : Int) (e : Ending) (w' : World) : Prop :=
  Btw g (g + 2) w w' ∧ ((∃ k' s', e = .returned (.bool true) ∧ Tk w' g A n c Q m mc sg t k' s' ∧ ((0 ≤ x ∧ t.getD k 0 = x ∧ k' = k + 1) ∨ (x < 0 ∧ k' = k + (subL sg t k).length)) ∧ ∀ r, mst sg t (x :: r) k s = mst sg t r k' s') ∨
    (e = .returned (.bool false) ∧ ∀ r, mst sg t (x :: r) k s = none))

set_option maxHeartbeats 1000000 in
theorem take (g : Nat) (A Q : Option Addr) (n c m mc : Nat) (sg t : List Int) (k : Nat) (s : List (List Int)) (x : Int) (w : World) (h : Tk w g A n c Q m mc sg t k s) (hk : k < m) (hmc : m ≤ mc) (hmc2 : mc ≤ 9223372036854775807) (hx : -24 ≤ x) (hok : termOkB sg t = true) :
    Calls Try.prog 142 #[.pointer (some ⟨g, 0, none⟩), .int .i64 x, .pointer (some ⟨g + 1, 0, none⟩)] w (AnsTake w g A n c Q m mc sg t k s x) := by
  have HT := Lib.hid hok
  have HL := Lib.hid h.st.1
  have hkt : ¬ t.length ≤ k := by rw [HL.out]; omega
  have hm := h.hm
  have c1 : w.cell? ⟨g + 1, 1, none⟩ = some (.slice Q m mc) := h.row.cell 1
  have c2 : w.cell? ⟨g + 1, 2, none⟩ = some (.int .i64 k) := h.row.cell 2
  have f2 : w.frozen? ⟨g + 1, 2, none⟩ = false := h.row.free 2
  obtain ⟨b, off, y, rfl, hbb, hy, ey⟩ := h.st.spot hk
  have i0 : (0 : Int) ≤ (k : Int) := by omega
  have i1 : (k : Int) < (m : Int) := by omega
  clear hok
  by_cases hx0 : 0 ≤ x
  · have g0 : w.grownBy (w.setCell ⟨g + 1, 2, none⟩ (.int .i64 ((k : Int) + 1))) (some (g + 1)) := grown_put (World.grownBy.refl _ _) _ _
    have M := Lib.hid (h.move (k' := k + 1) g0 (by have r := h.row.put 2 (.int .i64 ((k : Int) + 1)); have e : (.int .i64 ((k : Int) + 1) : Value) = .int .i64 ((k + 1 : Nat) : Int) := by simp
                                                   rw [← e]; exact r) hk)
    have B := Lib.hid (Btw.of_grown (lo := g) (hi := g + 2) g0 (fun k e => by injection e; omega))
    have hy1 : (w.setCell ⟨g + 1, 2, none⟩ (.int .i64 ((k : Int) + 1))).cell? ⟨b, off + k, none⟩ = some (.int .i64 y) := (World.cell?_setCell_far w ⟨g + 1, 2, none⟩ ⟨b, off + k, none⟩ _ (by show g + 1 ≠ b; omega)).trans hy
    by_cases hxy : x = y
    · subst hxy
      have F := fun d => (show AnsTake w g A n c (some ⟨b, off, none⟩) m mc sg t k s x (.returned (.bool true)) ((w.setCell ⟨g + 1, 2, none⟩ (.int .i64 ((k : Int) + 1))).drewN d) from
        ⟨B.out.trans (btw_drewN _ _ _ d), .inl ⟨k + 1, s, rfl, M.out.drewN d, .inl ⟨hx0, ey.out, rfl⟩, fun r => mst_sym hkt hx0 ey.out.symm⟩⟩)
      have HF := Lib.hid F
      clear F M B g0 h ey
      go_enter Try.func142, Try.ntmps142
      go_wp2
      go_quiet (fail)
      go_wp2
      go_ret
      exact HF.out _
    · have hd : (y == x) = false := by simp; exact fun e => hxy e.symm
      have F := fun d => (show AnsTake w g A n c (some ⟨b, off, none⟩) m mc sg t k s x (.returned (.bool false)) ((w.setCell ⟨g + 1, 2, none⟩ (.int .i64 ((k : Int) + 1))).drewN d) from
        ⟨B.out.trans (btw_drewN _ _ _ d), .inr ⟨rfl, fun r => mst_symNo hkt hx0 (by rw [ey.out]; exact hxy)⟩⟩)
      have HF := Lib.hid F
      clear F M B g0 h ey
      go_enter Try.func142, Try.ntmps142
      go_wp2
      go_quiet (fail)
      go_wp2
      go_ret
      exact HF.out _
  · obtain ⟨v, hv⟩ : ∃ v : Nat, x = -1 - (v : Int) := ⟨(-1 - x).toNat, by omega⟩
    subst hv
    have hv24 : v < 24 := by omega
    have HVR := Lib.hid (show vr (-1 - (v : Int)) = v by unfold vr; omega)
    obtain ⟨t1, t2, t3⟩ := term_at HT.out (show k < t.length by rw [HL.out]; exact hk)
    rw [HL.out] at t3
    obtain ⟨j, hj⟩ : ∃ j, len1 sg t k = j := ⟨_, rfl⟩
    have hsl := (sub_len1 HT.out (show k < t.length by rw [HL.out]; exact hk)).1
    have hsub : subL sg t k = (t.drop k).take j := by unfold subL; rw [hj]
    rw [hj] at t1 t2 t3 hsl
    obtain ⟨ys, hys⟩ : ∃ ys, subL sg t k = ys := ⟨_, rfl⟩
    rw [hys] at hsl hsub
    have HYS := Lib.hid hys
    have HSUB := Lib.hid hsub
    have HSL := Lib.hid hsl
    have T1 := Lib.hid t1
    have C := Lib.hid h.cur
    have HH := Lib.hid h
    have HKT := Lib.hid hkt
    have a1 : (k : Int) ≤ (k : Int) + (j : Int) := by omega
    have a2 : (k : Int) + (j : Int) ≤ (mc : Int) := by omega
    have a3 : ¬ mc = k := by omega
    have a4 : k + j ≤ mc := by omega
    have w1 : IntKind.i64.wrap (-1 - (-1 - (v : Int))) = (v : Int) := by rw [IntKind.wrap_i64]; omega
    have w2 : IntKind.i64.wrap (v : Int) = (v : Int) := by rw [IntKind.wrap_i64]; omega
    have j0 : (0 : Int) ≤ (v : Int) := by omega
    have j1 : (v : Int) < 24 := by omega
    clear hj hys hsub hsl t1 hy ey f2 hkt h
    go_enter Try.func142, Try.ntmps142
    have C2 := Lib.hid (C.out.drewN 1)
    go_wp2_with fail
    go_region_held3 (fun _ => True) (trivial)
      (first
        | (go_at_call 147; refine (partC (g + 1) A n c b off m mc sg t k j w.drew C2.out T1.out t3 t2 hmc hmc2).mono ?_; rintro e w3 ⟨rfl, hg0, hc⟩))
    · have hg : w.grownBy w3 (some (g + 1)) := grown_trans (World.grownBy.refl w _) ⟨hg0.os, hg0.tape, hg0.output, hg0.size, hg0.block⟩
      have M := HH.out.move hg hc.row t3
      have b3 := Btw.of_grown (lo := g) (hi := g + 2) hg (fun k e => by injection e; omega)
      obtain ⟨D, dn, dc, ch, sh, fh⟩ := M.held hv24
      obtain ⟨os, hos⟩ : ∃ os, s.getD v [] = os := ⟨_, rfl⟩
      have hdn : dn ≤ 1048576 := by rw [← sh.1]; exact Nat.le_trans (M.hs v) hm
      rw [hos] at sh
      have HOS := Lib.hid hos
      have HSH := Lib.hid sh
      have HM := Lib.hid M
      have HB := Lib.hid b3
      have cut := Lib.hid (Seg.cut (a := k) (j := j) M.st t3)
      clear hc hg hg0 hos sh b3 M C C2 c1 c2
      have HC := Lib.hid (show Cap (some ⟨b, off + k, none⟩) j (mc - k) from ⟨by omega, by omega, fun e => by cases e⟩)
      have hj60 : j ≤ 1048576 := by omega
      have HJ := Lib.hid (show 1 ≤ j from t2)
      by_cases hd0 : dn = 0
      · subst hd0
        have hno : ¬ ((s.getD (vr (-1 - (v : Int))) []).length ≠ 0 ∧ s.getD (vr (-1 - (v : Int))) [] ≠ subL sg t k) := by
          rw [HVR.out, HOS.out, HSH.out.1]
          exact fun e => e.1 rfl
        have R := Lib.hid (fun r => mst_var (sg := sg) (r := r) HKT.out (show ¬ 0 ≤ -1 - (v : Int) by omega) hno)
        have P := Lib.hid (HM.out.put (j := v) (D := some ⟨b, off + k, none⟩) (dn := j) (dc := mc - k) (ys := ys) hv24 (by rw [HSUB.out]; exact cut.out) HC.out (by rw [HSL.out]; omega))
        have BP := Lib.hid (HB.out.trans (Btw.of_grown (lo := g) (hi := g + 2) (grown_put (World.grownBy.refl w3 (some g)) v (.slice (some ⟨b, off + k, none⟩) j (mc - k))) (fun k e => by injection e; omega)))
        have ce := World.cell?_setCell_same w3 ⟨g, v, none⟩ (.slice (some ⟨b, off + k, none⟩) j (mc - k)) (show w3.cell? ⟨g, v, none⟩ = some (.slice D 0 dc) from ch)
        have PS := Lib.hid (show Seg (w3.setCell ⟨g, v, none⟩ (.slice (some ⟨b, off + k, none⟩) j (mc - k))) (w3.setCell ⟨g, v, none⟩ (.slice (some ⟨b, off + k, none⟩) j (mc - k))).heap.size (some ⟨b, off + k, none⟩) j ys from by
          have q := cut.out.put (p := ⟨g, v, none⟩) (Nat.le_refl _) (.slice (some ⟨b, off + k, none⟩) j (mc - k))
          rw [← HSUB.out] at q
          exact q.more (by have := P.out.lt; omega))
        clear HM HB hno
        go_wp2_with fail
        refine (implSame _ _ j j _ _ ys ys _ PS.out PS.out hj60 hj60).mono ?_
        rintro e w5 ⟨rfl, d, rfl⟩
        rw [decide_eq_true (show ys = ys from rfl)]
        have F : AnsTake w g A n c (some ⟨b, off, none⟩) m mc sg t k s (-1 - (v : Int)) (.returned (.bool true)) ((w3.setCell ⟨g, v, none⟩ (.slice (some ⟨b, off + k, none⟩) j (mc - k))).drewN d) :=
          ⟨BP.out.trans (btw_drewN _ _ _ d), .inl ⟨k + j, s.set v ys, rfl, P.out.drewN d, .inr ⟨by omega, by rw [HYS.out, HSL.out]⟩, fun r => by rw [R.out r, HVR.out, HYS.out, HSL.out]⟩⟩
        have HF := Lib.hid F
        clear F R P BP ce PS cut
        go_wp2
        go_ret
        exact HF.out
      · have hdz : ((dn : Int) == 0) = false := by simp; omega
        have hwg := Lib.hid (show g ≤ w3.heap.size by have := HM.out.lt; omega)
        have PS := Lib.hid (show Seg w3 w3.heap.size (some ⟨b, off + k, none⟩) j ys from by
          have q := cut.out
          rw [← HSUB.out] at q
          exact q.more hwg.out)
        have PO := Lib.hid (show Seg w3 w3.heap.size D dn os from HSH.out.more hwg.out)
        by_cases hoy : os = ys
        · have hno : ¬ ((s.getD (vr (-1 - (v : Int))) []).length ≠ 0 ∧ s.getD (vr (-1 - (v : Int))) [] ≠ subL sg t k) := by
            rw [HVR.out, HOS.out, HYS.out]
            exact fun e => e.2 hoy
          have R := Lib.hid (fun r => mst_var (sg := sg) (r := r) HKT.out (show ¬ 0 ≤ -1 - (v : Int) by omega) hno)
          have SS := Lib.hid (show s.set v ys = s from set_same (HOS.out.trans hoy) (by rw [HM.out.len]; exact hv24))
          have DS := Lib.hid (decide_eq_true hoy)
          clear cut hno hoy
          go_wp2_with fail
          refine (implSame _ _ dn j _ _ os ys _ PO.out PS.out hdn hj60).mono ?_
          rintro e w5 ⟨rfl, d, rfl⟩
          rw [DS.out]
          have F : AnsTake w g A n c (some ⟨b, off, none⟩) m mc sg t k s (-1 - (v : Int)) (.returned (.bool true)) (w3.drewN d) :=
            ⟨HB.out.trans (btw_drewN _ _ _ d), .inl ⟨k + j, s, rfl, HM.out.drewN d, .inr ⟨by omega, by rw [HYS.out, HSL.out]⟩, fun r => by rw [R.out r, HVR.out, HYS.out, HSL.out, SS.out]⟩⟩
          have HF := Lib.hid F
          clear F R SS DS PS PO HM HB
          go_wp2
          go_ret
          exact HF.out
        · have hyes : (s.getD (vr (-1 - (v : Int))) []).length ≠ 0 ∧ s.getD (vr (-1 - (v : Int))) [] ≠ subL sg t k := by
            rw [HVR.out, HOS.out, HYS.out]
            exact ⟨by rw [HSH.out.1]; exact hd0, hoy⟩
          have R := Lib.hid (fun r => mst_varNo (sg := sg) (r := r) HKT.out (show ¬ 0 ≤ -1 - (v : Int) by omega) hyes)
          have DS := Lib.hid (decide_eq_false hoy)
          clear cut hyes hoy
          go_wp2_with fail
          refine (implSame _ _ dn j _ _ os ys _ PO.out PS.out hdn hj60).mono ?_
          rintro e w5 ⟨rfl, d, rfl⟩
          rw [DS.out]
          have F : AnsTake w g A n c (some ⟨b, off, none⟩) m mc sg t k s (-1 - (v : Int)) (.returned (.bool false)) (w3.drewN d) :=
            ⟨HB.out.trans (btw_drewN _ _ _ d), .inr ⟨rfl, R.out⟩⟩
          have HF := Lib.hid F
          clear F R DS PS PO HM HB
          go_wp2
          go_ret
          exact HF.out
end Go.Proofs.Ytfkgiimcnlagmaa.take
end

section
/-
  CONTRACTS: impl's (bindings).extended, (bindings).plain. Conditions: the slices read as lists ('Seg', 'TabR'), pattern and term are valid, the place lies in the term. By an AI agent.
-/
namespace Go.Proofs.Ytfkgiimcnlagmaa.extended
open Go.RowKit Go.Proofs.Ytfkgiimcnlagmaa.base Go.Proofs.Ytfkgiimcnlagmaa.ints Go.Proofs.Ytfkgiimcnlagmaa.sig Go.Proofs.Ytfkgiimcnlagmaa.same Go.Proofs.Ytfkgiimcnlagmaa.term Go.Proofs.Ytfkgiimcnlagmaa.termOk Go.Proofs.Ytfkgiimcnlagmaa.endAt Go.Proofs.Ytfkgiimcnlagmaa.marks Go.Proofs.Ytfkgiimcnlagmaa.app Go.Proofs.Ytfkgiimcnlagmaa.sym Go.Proofs.Ytfkgiimcnlagmaa.sub Go.Proofs.Ytfkgiimcnlagmaa.segs Go.Proofs.Ytfkgiimcnlagmaa.termFacts Go.Proofs.Ytfkgiimcnlagmaa.termMath Go.Proofs.Ytfkgiimcnlagmaa.posMath Go.Proofs.Ytfkgiimcnlagmaa.cursor Go.Proofs.Ytfkgiimcnlagmaa.matchMath Go.Proofs.Ytfkgiimcnlagmaa.matchSpec Go.Proofs.Ytfkgiimcnlagmaa.whole Go.Proofs.Ytfkgiimcnlagmaa.takeMath Go.Proofs.Ytfkgiimcnlagmaa.take Go.Proofs.Ytfkgiimcnlagmaa.segsHelp Go.Proofs.Ytfkgiimcnlagmaa.kinds Go.Proofs.Ytfkgiimcnlagmaa.plainMath Go.Proofs.Ytfkgiimcnlagmaa.plain Go.Proofs.Ytfkgiimcnlagmaa.plainOf Go.Proofs.Ytfkgiimcnlagmaa.gives Go.Proofs.Ytfkgiimcnlagmaa.look Go.Proofs.Ytfkgiimcnlagmaa.fillMath
set_option maxRecDepth 100000

/-- what extended gives: the bindings by value, and whether there are any -/
def AnsExt (w : World) (R : Option (List (List Int))) (e : Ending) (w' : World) : Prop :=
  ∃ cs, e = .returned (.tuple #[.agg cs, .bool R.isSome]) ∧ TabR w' w.heap.size cs (R.getD s0) ∧ (∀ j, ((R.getD s0).getD j []).length ≤ 60) ∧ Below w.heap.size w w'
/-- the head of its loop -/
def HeadX (w : World) (A : Option Addr) (n c : Nat) (Q : Option Addr) (m mc : Nat) (sg t : List Int) (P : Option Addr) (pn : Nat) (p : List Int) (R : Option (List (List Int))) (i : Value) (wr : World) : Prop :=
  ∃ (j k : Nat) (s : List (List Int)), i = .int .i64 j ∧ j ≤ pn ∧ Tk wr w.heap.size A n c Q m mc sg t k s ∧ Row wr (w.heap.size + 1 + 1) 128 z24 ∧ Seg wr w.heap.size P pn p ∧ Below w.heap.size w wr ∧ Sync sg p t j k ∧ mst sg t (p.drop j) k s = R
theorem seg_btw {w w' : World} {lo hi : Nat} {A : Option Addr} {n : Nat} {xs : List Int} (h : Seg w lo A n xs) (hb : Btw lo hi w w') (hl : lo ≤ w.heap.size) : Seg w' lo A n xs :=
  h.keep fun p hp => World.cell?_of_block (hb.block p.block (by omega) (.inl hp))

set_option maxHeartbeats 1000000 in
theorem extended (A P Q : Option Addr) (n c pn pc m mc : Nat) (sg p t : List Int) (at_ : Nat) (cs : Array Value) (s : List (List Int)) (w : World) (h : Seg w w.heap.size A n sg) (hp : Seg w w.heap.size P pn p) (ht : Seg w w.heap.size Q m t)
    (hn : n ≤ 1048576) (hpn : pn ≤ 60) (hm : m ≤ 60) (hmc : m ≤ mc) (hmc2 : mc ≤ 9223372036854775807) (hat : at_ < m) (hokp : termOkB sg p = true) (hokt : termOkB sg t = true) (htab : TabR w w.heap.size cs s) (hs : ∀ j, (s.getD j []).length ≤ m) :
    Calls Try.prog 125 #[.agg cs, .slice P pn pc, .agg #[.slice A n c, .slice Q m mc, .int .i64 (at_ : Int)]] w (AnsExt w (mst sg t p at_ s)) := by
  obtain ⟨W, hW⟩ : ∃ W, W = ((w.alloc (.cells cs 128)).alloc (.cells #[.slice A n c, .slice Q m mc, .int .i64 (at_ : Int)] 121)).alloc (.cells z24 128) := ⟨_, rfl⟩
  have b0 : Below w.heap.size w W := by rw [hW]; exact (((Below.refl _ _).alloc (Nat.le_refl _) _).alloc (by simp) _).alloc (by simp; omega) _
  have r0 : Row W w.heap.size 128 cs := by rw [hW]; exact ((Row.new w _ _).alloc _).alloc _
  have r1 : Row W (w.heap.size + 1) 121 #[.slice A n c, .slice Q m mc, .int .i64 (at_ : Int)] := by
    rw [hW]
    have := (Row.new (w.alloc (.cells cs 128)) 121 #[.slice A n c, .slice Q m mc, .int .i64 (at_ : Int)]).alloc (.cells z24 128)
    simpa using this
  have r2 : Row W (w.heap.size + 1 + 1) 128 z24 := by
    rw [hW]
    have := Row.new ((w.alloc (.cells cs 128)).alloc (.cells #[.slice A n c, .slice Q m mc, .int .i64 (at_ : Int)] 121)) 128 z24
    simpa using this
  have HX : HeadX w A n c Q m mc sg t P pn p (mst sg t p at_ s) (.int .i64 0) W :=
    ⟨0, at_, s, rfl, Nat.zero_le _, ⟨r1, ⟨cs, r0, htab.below b0⟩, h.below b0, ht.below b0, Nat.le_of_lt hat, hn, by omega, (sig_arities (termOk_parts hokt).1).1, hs⟩, r2, hp.below b0, b0, Sync.start hokp hokt (by rw [ht.1]; exact hat), by rw [List.drop_zero]⟩
  have HH := Lib.hid HX
  have HW := Lib.hid hW
  have HT := Lib.hid hokt
  have HL := Lib.hid ht.1
  have HPL := Lib.hid hp.1
  have HPM : Hid (∀ i, i < pn → -24 ≤ p.getD i 0) := Lib.hid (fun i hi => (term_num hokp (by rw [hp.1]; exact hi)).1)
  generalize mst sg t p at_ s = R at *
  clear hW HX r0 r1 r2 b0 htab hs hokt hokp h hp ht
  go_enter Try.func125, Try.ntmps125
  go_wp2_with (first
    | (refine rowBox rfl 128 _ rfl cs rfl ?_)
    | (refine rowAlloc rfl 128 rfl z24 zero_b ?_))
  rw [← HW.out]
  go_loopw [12] (fun i wr => HeadX w A n c Q m mc sg t P pn p R i wr) (fun i _ => pn - (intOf i).toNat)
  case atStart => exact HH.out
  case round =>
    obtain ⟨j, k, s, rfl, hj, M, r2, sp, hb, hsy, hm1⟩ := hrel
    clear HH
    have HM1 := Lib.hid hm1
    have HSY := Lib.hid hsy
    clear hm1 hsy
    by_cases hlt : j < pn
    · obtain ⟨bp, op, x, rfl, hbp, hx, ex⟩ := sp.spot hlt
      have hx24 : -24 ≤ x := by rw [← ex.out]; exact HPM.out j hlt
      have hkm : k < m := by have := HSY.out.lt (by rw [HPL.out]; exact hlt); rw [HL.out] at this; exact this
      have HD := Lib.hid (show p.drop j = x :: p.drop (j + 1) by rw [drop_cons (by rw [HPL.out]; exact hlt), ex.out])
      have LT := Lib.hid (take w.heap.size A Q n c m mc sg t k s x wr M hkm hmc hmc2 hx24 HT.out)
      have gl := M.lt
      have HR := Lib.hid r2
      have HB := Lib.hid hb
      have HP := Lib.hid sp
      clear M r2 hb sp
      go_wp2_with fail
      refine LT.out.mono ?_
      rintro e w2 ⟨bb, ⟨k', s', rfl, M, hmv, hr⟩ | ⟨rfl, hr⟩⟩
      · have hsync : Sync sg p t (j + 1) k' := by
          rcases hmv with ⟨h0, h1, rfl⟩ | ⟨h0, rfl⟩
          · exact HSY.out.sym (by rw [HPL.out]; exact hlt) ex.out h1
          · exact HSY.out.var (by rw [HPL.out]; exact hlt) ex.out hx24 h0 HT.out
        have S : HeadX w A n c Q m mc sg t (some ⟨bp, op, none⟩) pn p R (.int .i64 ((j : Int) + 1)) w2 :=
          ⟨j + 1, k', s', by simp, hlt, M, segs.Row.btw HR.out bb (.inr (Nat.le_refl _)), seg_btw HP.out bb (by omega), Below.btw HB.out bb (Nat.le_refl _) (by omega), hsync, by rw [← hr, ← HD.out]; exact HM1.out⟩
        have HS := Lib.hid S
        clear S M hsync hmv hr bb HR HP HB LT ex HD hx
        go_wp2
        go_roundw
        case rel => exact HS.out
        case measure => simp [intOf]; omega
      · have hR : R = none := by rw [← HM1.out, HD.out]; exact hr _
        have r2 := segs.Row.btw HR.out bb (.inr (Nat.le_refl _))
        have b2 := Below.btw HB.out bb (Nat.le_refl _) (by omega)
        have hz := r2
        unfold Row at hz
        have r3 := Row.setRow r2 z24
        have F : AnsExt w R (.returned (.tuple #[.agg z24, .bool false])) (w2.setRow (w.heap.size + 1 + 1) z24) :=
          ⟨z24, by rw [hR]; rfl, by rw [hR]; exact TabR.new _ _, fun i => by rw [hR]; simp only [Option.getD_none]; rw [s0_get]; simp, Below.btw b2 (Btw.of_grown (lo := w.heap.size) (hi := w.heap.size + 1 + 1 + 1) (grown_setRow w2 (w.heap.size + 1 + 1) z24) (fun k e => by injection e; omega)) (Nat.le_refl _) b2.size⟩
        have HF := Lib.hid F
        have H3 := Lib.hid r3
        have HZ := Lib.hid hz
        clear F r3 r2 b2 hz hr bb HR HP HB LT ex HD hx hR
        go_wp2_with (first
          | (refine rowBuild rfl 128 rfl z24 built_b ?_)
          | (refine rowStore rfl 128 _ _ rfl (w.heap.size + 1 + 1) z24 z24 128 rfl rfl HZ.out (by rw [z24_size]; exact size_b) rfl z24_one ?_))
        (try simp only [Exit.inBlock, Exit.then])
        refine bodyPost_ret (v := .tuple #[.agg z24, .bool false]) ?_ rfl HF.out
        exact results_row_tmp Try.results125 _ (w.heap.size + 1 + 1) 128 z24 _ rfl H3.out Try.underlying128 rfl (by rw [z24_size]; exact size_b)
    · have hjp : j = pn := by omega
      have hR : R = some s := by rw [← HM1.out, hjp, List.drop_eq_nil_of_le (by rw [HPL.out]; exact Nat.le_refl _)]; rfl
      obtain ⟨cs', h1, h2⟩ := M.tab
      have hz1 := h1
      have hz2 := r2
      unfold Row at hz1 hz2
      have r3 := Row.setRow r2 cs'
      have hl := M.lt
      have F : AnsExt w R (.returned (.tuple #[.agg cs', .bool true])) (wr.setRow (w.heap.size + 1 + 1) cs') :=
        ⟨cs', by rw [hR]; rfl, by rw [hR]; exact h2.keep (keep_of (grown_setRow wr (w.heap.size + 1 + 1) cs') (by omega) (fun k e => by injection e; omega)), by rw [hR]; exact fun j => Nat.le_trans (M.hs j) hm,
          Below.btw hb (Btw.of_grown (lo := w.heap.size) (hi := w.heap.size + 1 + 1 + 1) (grown_setRow wr (w.heap.size + 1 + 1) cs') (fun k e => by injection e; omega)) (Nat.le_refl _) hb.size⟩
      have HF := Lib.hid F
      have H3 := Lib.hid r3
      have HZ1 := Lib.hid hz1
      have HZ2 := Lib.hid hz2
      have HSZ := Lib.hid h2.1
      have HON := Lib.hid h2.one
      clear F r3 r2 hz1 hz2 h1 h2 hR M sp hb hjp
      go_wp2_with (first
        | (refine wpList_load_row rfl 128 _ rfl w.heap.size rfl 128 cs' (0, 0) _ HZ1.out Try.underlying128 rfl (by rw [HSZ.out]; exact size_b) ?_)
        | (refine rowStore rfl 128 _ _ rfl (w.heap.size + 1 + 1) cs' z24 128 rfl rfl HZ2.out (by rw [HSZ.out]; exact size_b) (by rw [HSZ.out]; rfl) HON.out ?_))
      (try simp only [Exit.inBlock, Exit.then])
      refine bodyPost_ret (v := .tuple #[.agg cs', .bool true]) ?_ rfl HF.out
      exact results_row_tmp Try.results125 _ (w.heap.size + 1 + 1) 128 cs' _ rfl H3.out Try.underlying128 rfl (by rw [HSZ.out]; exact size_b)

end Go.Proofs.Ytfkgiimcnlagmaa.extended
end
