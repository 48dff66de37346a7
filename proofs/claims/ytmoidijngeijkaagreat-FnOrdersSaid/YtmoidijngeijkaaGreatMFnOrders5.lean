/-
  MERGED: my texts WalkMath, DrawL7, DrawL7B, LawS, DrawL8, Shape3, KindsW, LawT, W5, MatchSpec, SameSubst, PlainFacts, MatchTot, MatchFacts, one behind the other, as they are. By an AI agent.
-/
import Derived.Test.YtmoidijngeijkaaGreatMFnOrders4
import Derived.Deep.RegionHeld3
import Derived.Deep.QuietTactic
import Derived.BigQuiet
import Derived.Deep.LoopGhost
namespace Go.Proofs.YtmoidijngeijkaaGreat
section
namespace walkMath
open sig term termOk termFacts fillMath gives sub matchMath putMath ruleMath stepMath
abbrev St := Int × Int × List Int
abbrev Wk := List Int × List St
def inB (x : Int) (n : Nat) : Bool := decide (0 ≤ x ∧ x < n)
def rightB (sg : List Int) (rs : List Rl) (t : List Int) : Bool := sysOkB sg rs && termOkB sg t
def thereR (sg : List Int) (rs : List Rl) (t : List Int) (a r : Int) : Bool := rightB sg rs t && (inB a t.length && inB r rs.length)
def rl (rs : List Rl) (r : Int) : Rl := rs.getD r.toNat ([], [])
def redexB (sg : List Int) (rs : List Rl) (t : List Int) (a r : Int) : Bool := thereR sg rs t a r && redB sg (rl rs r) t a.toNat
def stepAtO (sg : List Int) (rs : List Rl) (t : List Int) (a r : Int) : Option (List Int) := if thereR sg rs t a r = true then stepO sg (rl rs r) t a.toNat else none
def normalB (sg : List Int) (rs : List Rl) (t : List Int) : Bool := rightB sg rs t && (List.range t.length).all fun a => rs.all fun x => !redB sg x t a
def goOn (sg : List Int) (rs : List Rl) : List Int → List St → Option (List Int)
 | t, [] => some t
 | t, s :: ss => match stepAtO sg rs t s.1 s.2.1 with
  | some v => if v = s.2.2 then goOn sg rs v ss else none
  | none => none
def walkB (sg : List Int) (rs : List Rl) (w : Wk) : Bool := rightB sg rs w.1 && (decide (w.2.length ≤ 60) && (goOn sg rs w.1 w.2).isSome)
def endL (w : Wk) : List Int := match w.2.getLast? with
 | some s => s.2.2
 | none => w.1
theorem there_parts {sg : List Int} {rs : List Rl} {t : List Int} {a r : Int} (h : thereR sg rs t a r = true) : sysOkB sg rs = true ∧ termOkB sg t = true ∧ (0 ≤ a ∧ a < t.length) ∧ (0 ≤ r ∧ r < rs.length) := by
 unfold thereR rightB inB at h
 simp only [Bool.and_eq_true, decide_eq_true_eq] at h
 exact ⟨h.1.1, h.1.2, h.2.1, h.2.2⟩
theorem there_mk {sg : List Int} {rs : List Rl} {t : List Int} {a r : Int} (h1 : sysOkB sg rs = true) (h2 : termOkB sg t = true) (h3 : 0 ≤ a ∧ a < t.length) (h4 : 0 ≤ r ∧ r < rs.length) : thereR sg rs t a r = true := by
 unfold thereR rightB inB
 rw [h1, h2, decide_eq_true h3, decide_eq_true h4]
 rfl
theorem rl_ok {sg : List Int} {rs : List Rl} {r : Int} (h : sysOkB sg rs = true) (hr : 0 ≤ r ∧ r < rs.length) : ruleOkB sg (rl rs r) = true := (sys_parts h).2.2 _ (rl_mem (by omega))
theorem stepAt_parts {sg : List Int} {rs : List Rl} {t v : List Int} {a r : Int} (h : stepAtO sg rs t a r = some v) : thereR sg rs t a r = true ∧ stepO sg (rl rs r) t a.toNat = some v := by
 unfold stepAtO at h
 split at h
 ·exact ⟨by assumption, h⟩
 ·cases h
theorem stepAt_ok {sg : List Int} {rs : List Rl} {t v : List Int} {a r : Int} (h : stepAtO sg rs t a r = some v) : termOkB sg v = true := by
 obtain ⟨h1, h2⟩ := stepAt_parts h
 obtain ⟨q1, q2, q3, q4⟩ := there_parts h1
 exact step_ok (rl_ok q1 q4) q2 (by omega) h2
theorem stepAt_redex {sg : List Int} {rs : List Rl} {t v : List Int} {a r : Int} (h : stepAtO sg rs t a r = some v) : redexB sg rs t a r = true := by
 obtain ⟨h1, h2⟩ := stepAt_parts h
 unfold redexB
 rw [h1, Bool.true_and]
 unfold stepO at h2
 unfold redB
 cases hm : mst sg (subL sg t a.toNat) (rl rs r).1 0 s0 with
 | none => rw [hm] at h2; cases h2
 | some ss => rfl
theorem go_cons {sg : List Int} {rs : List Rl} {t v : List Int} {s : St} {ss : List St} : goOn sg rs t (s :: ss) = some v ↔ stepAtO sg rs t s.1 s.2.1 = some s.2.2 ∧ goOn sg rs s.2.2 ss = some v := by
 rw [goOn]
 cases h : stepAtO sg rs t s.1 s.2.1 with
 | none => simp
 | some u =>
  dsimp only
  split
  ·rename_i e
   subst e
   simp
  ·rename_i e
   constructor
   ·intro h; cases h
   ·rintro ⟨h, _⟩
    injection h with h
    exact absurd h e
theorem go_append {sg : List Int} {rs : List Rl} : ∀ {a b : List St} {t : List Int}, goOn sg rs t (a ++ b) = (goOn sg rs t a).bind fun v => goOn sg rs v b
 | [], b, t => rfl
 | s :: a, b, t => by
  show goOn sg rs t (s :: (a ++ b)) = _
  rw [goOn, goOn]
  cases h : stepAtO sg rs t s.1 s.2.1 with
  | none => rfl
  | some u =>
   dsimp only
   split
   ·exact go_append
   ·rfl
theorem end_cons (t : List Int) (s : St) (ss : List St) : endL (t, s :: ss) = endL (s.2.2, ss) := by
 unfold endL
 cases ss with
 | nil => rfl
 | cons u r =>
  rw [List.getLast?_cons_cons]
  cases h : (u :: r).getLast? with
  | none => simp at h
  | some z => rfl
theorem go_end {sg : List Int} {rs : List Rl} : ∀ {ss : List St} {t v : List Int}, goOn sg rs t ss = some v → v = endL (t, ss)
 | [], t, v, h => by injection h with h; exact h.symm
 | s :: ss, t, v, h => by
  obtain ⟨_, h2⟩ := go_cons.1 h
  rw [end_cons]
  exact go_end h2
theorem go_ok {sg : List Int} {rs : List Rl} : ∀ {ss : List St} {t v : List Int}, termOkB sg t = true → goOn sg rs t ss = some v → termOkB sg v = true ∧ ∀ s ∈ ss, termOkB sg s.2.2 = true
 | [], t, v, ht, h => by injection h with h; subst h; exact ⟨ht, fun s hs => by cases hs⟩
 | s :: ss, t, v, _, h => by
  obtain ⟨h1, h2⟩ := go_cons.1 h
  have h3 := stepAt_ok h1
  obtain ⟨h4, h5⟩ := go_ok h3 h2
  refine ⟨h4, fun u hu => ?_⟩
  rcases List.mem_cons.1 hu with rfl | hu
  ·exact h3
  ·exact h5 u hu
theorem walk_parts {sg : List Int} {rs : List Rl} {w : Wk} (h : walkB sg rs w = true) : sysOkB sg rs = true ∧ termOkB sg w.1 = true ∧ w.2.length ≤ 60 ∧ goOn sg rs w.1 w.2 = some (endL w) := by
 unfold walkB rightB at h
 simp only [Bool.and_eq_true, decide_eq_true_eq] at h
 obtain ⟨⟨h1, h2⟩, h3, h4⟩ := h
 obtain ⟨v, hv⟩ := Option.isSome_iff_exists.1 h4
 exact ⟨h1, h2, h3, by rw [hv, go_end hv]⟩
theorem walk_mk {sg : List Int} {rs : List Rl} {w : Wk} {v : List Int} (h1 : sysOkB sg rs = true) (h2 : termOkB sg w.1 = true) (h3 : w.2.length ≤ 60) (h4 : goOn sg rs w.1 w.2 = some v) : walkB sg rs w = true := by
 unfold walkB rightB
 rw [h1, h2, decide_eq_true h3, h4]
 rfl
end walkMath
end
section
open Go.Lib (hid)
open List (setIfInBounds_toArray set_cons_zero set_cons_succ getElem_toArray getElem_cons_zero getElem_cons_succ)
namespace drawL7
open Go.RowKit base ints sig term termOk termFacts cursor marks app appAt sym segs segsHelp kinds dice drawTerm drawAny drawSub drawTermW drawX drawKnown drawSys drawSysAny drawSysD ruleMath ruleSpec gives heldT
open shape (Sh Dat nc dft sI sz sz_ints rd_ints)
open kindsR (sRule sSystem sRuleS sSig)
set_option maxRecDepth 100000
structure Dy (w : World) (p : Nat) (A : Option Addr) (n c : Nat) (S : Option Addr) (sn sc : Nat) (R : Option Addr) (rn rc : Nat) (d : Dat sSystem) (wr : World) : Prop where
 di : Dice wr p A n c
 r : Row wr w.heap.size 29 #[.slice S sn sc, .slice R rn rc]
 s : RdQ wr (Out wr p) sSystem [.slice S sn sc, .slice R rn rc] d
 g : w.grownBy wr (some p)
 hp : p < w.heap.size
section
variable {w : World} {p : Nat} {A : Option Addr} {n c : Nat} {S : Option Addr} {sn sc : Nat} {R : Option Addr} {rn rc : Nat} {d : Dat sSystem} {wr w' : World}
theorem Dy.dice (t : Dy w p A n c S sn sc R rn rc d wr) (h : Dice w' p A n c) (hg : wr.grownBy w' (some p)) : Dy w p A n c S sn sc R rn rc d w' :=
 ⟨h, Row.away t.r hg (fun e => by injection e with e; have := t.hp; omega), out_dice t.s hg, t.g.trans hg, t.hp⟩
theorem grown_of_below (hb : Below w.heap.size w w') (r : Option Nat) : w.grownBy w' r := ⟨hb.os, hb.tape, hb.output, hb.size, fun k hk _ => hb.block k hk⟩
theorem Dy.next (t : Dy w p A n c S sn sc R rn rc d wr) (hb : Below wr.heap.size wr w') : Dy w p A n c S sn sc R rn rc d w' :=
 ⟨t.di.next hb, t.r.next hb, out_below t.s hb, t.g.trans (grown_of_below hb _), t.hp⟩
theorem rdq_sig (h : RdQ wr (Out wr p) sSystem [.slice S sn sc, .slice R rn rc] d) : Go.Proofs.YtmoidijngeijkaaGreat.drawTerm.Rd wr p wr.heap.size S sn d.1 := by
 obtain ⟨ca, cb, e, h1, h2⟩ := h
 have l1 := h1.len
 have l1 : ca.length = 1 := l1
 obtain ⟨x, rfl⟩ : ∃ x, ca = [x] := by
  cases ca with
  | nil => cases l1
  | cons x r => cases r with
   | nil => exact ⟨x, rfl⟩
   | cons y z => simp at l1
 rw [List.singleton_append, List.cons.injEq] at e
 obtain ⟨rfl, -⟩ := e
 obtain ⟨A, n, c, e, hc, hl, h1⟩ := h1
 injection e with e _
 injection e with e1 e2 e3
 subst e1 e2 e3
 refine ⟨hl, fun hn => ?_⟩
 obtain ⟨b, off, e2, hb, h2⟩ := h1 hn
 refine ⟨b, off, e2, hb.1, hb.2, fun j hj => ?_⟩
 obtain ⟨es, hel, hp, hr⟩ := h2 j hj
 have hr : es = [.int .i64 (d.1.getD j 0)] := hr
 subst hr
 have := hp 0 (by simp)
 simpa [nc] using this
theorem Dy.sg (t : Dy w p A n c S sn sc R rn rc d wr) : Go.Proofs.YtmoidijngeijkaaGreat.drawTerm.Rd wr p wr.heap.size S sn d.1 := rdq_sig t.s
theorem Dy.rd (t : Dy w p A n c S sn sc R rn rc d wr) : Go.Proofs.YtmoidijngeijkaaGreat.shape.Rd wr wr.heap.size sSystem [.slice S sn sc, .slice R rn rc] d := out_rd t.s
theorem Dy.len (t : Dy w p A n c S sn sc R rn rc d wr) (hz : sz sSystem d ≤ 1048576) : List.length d.2 = rn ∧ rn ≤ rc ∧ rc ≤ 9223372036854775807 := by
 obtain ⟨A1, n1, c1, A2, n2, c2, e1, e2, -, -, h5, h6, -⟩ := rd_sys t.rd hz
 injection e2 with e3 e4 e5
 subst e3 e4 e5
 exact ⟨h6, h5.1, h5.2.1⟩
theorem Dy.rule (t : Dy w p A n c S sn sc R rn rc d wr) (hz : sz sSystem d ≤ 1048576) {k : Nat} (hk : k < rn) : ∃ b off l ln lc, R = some ⟨b, off, none⟩ ∧ b < wr.heap.size ∧ wr.cell? ⟨b, off + k * 2, none⟩ = some (.slice l ln lc) ∧ Seg wr wr.heap.size l ln (d.2.getD k ([], [])).1 ∧ Cap l ln lc := by
 obtain ⟨A1, n1, c1, A2, n2, c2, e1, e2, -, -, -, h6, -, -, h9, -, h11⟩ := rd_sys t.rd hz
 injection e2 with e3 e4 e5
 subst e3 e4 e5
 obtain ⟨b, off, l, r, x, e, hb, ex, cl, -, hx⟩ := rd_at h9 (Below.refl wr.heap.size wr) h6 hk
 have hzx : sz sRule x ≤ 1048576 := by rw [← ex.out]; exact h11 k hk
 obtain ⟨L, ln, lc, L', ln', lc', rfl, rfl, s1, q1, -, -, -, -⟩ := rd_rule hx hzx
 exact ⟨b, off, L, ln, lc, e, hb, cl, by rw [ex.out]; exact s1, q1⟩
theorem ansR_from {w1 : World} {L : Nat} {e : Ending} (hg : w.grownBy w1 (some p)) (h : AnsR w1 p A n c L e w') : AnsR w p A n c L e w' := by
 obtain ⟨O, on, oc, xs, he, h1, h2, h3, h4, h5, h6, h7⟩ := h
 exact ⟨O, on, oc, xs, he, h1, h2, h3, h4, h5, h6, hg.trans h7⟩
theorem gives_each60 {ss : List (List Int)} (h : ∀ j, (ss.getD j []).length ≤ 60) (i : Nat) : (givesL ss i).length ≤ 60 := by
 unfold givesL
 split
 ·simp [Go.Proofs.YtmoidijngeijkaaGreat.fillMath.vt]
 ·exact h i
theorem ansR_at {L base on oc : Nat} {O : Option Addr} {xs : List Int} (t : Dy w p A n c S sn sc R rn rc d wr) (h : Own wr base (.slice O on oc) xs) (hb : w.heap.size ≤ base) (hL : on ≤ L) : AnsR w p A n c L (.returned (.slice O on oc)) wr :=
 ansR_own h (Nat.lt_of_lt_of_le t.hp hb) hL t.di t.g
theorem fit_len {ss : List (List Int)} {t : List Int} (h : Go.Proofs.YtmoidijngeijkaaGreat.filled.fitsB ss t = true) : (Go.Proofs.YtmoidijngeijkaaGreat.filled.fitL ss t).length ≤ 60 := by
 unfold Go.Proofs.YtmoidijngeijkaaGreat.filled.fitL
 rw [if_pos h]
 exact of_decide_eq_true h
theorem sys_rule2 {sg : List Int} {rs : List Rl} (h : sysOkB sg rs = true) {r : Nat} (hr : r < rs.length) : ruleOkB sg (rs.getD r ([], [])) = true := by
 have := Go.Proofs.YtmoidijngeijkaaGreat.walkMath.rl_ok (r := (r : Int)) h (by omega)
 unfold Go.Proofs.YtmoidijngeijkaaGreat.walkMath.rl at this
 simpa using this
theorem put_len {sg t u : List Int} {a : Nat} (h : Go.Proofs.YtmoidijngeijkaaGreat.put.fitB sg t u a = true) : (Go.Proofs.YtmoidijngeijkaaGreat.put.fitL sg t u a).length ≤ 60 := by
 unfold Go.Proofs.YtmoidijngeijkaaGreat.put.fitL
 rw [if_pos h]
 exact of_decide_eq_true h
end
set_option maxHeartbeats 8000000 in
theorem l7DrawTerm (p : Nat) (A : Option Addr) (n c : Nat) (S : Option Addr) (sn sc : Nat) (R : Option Addr) (rn rc : Nat) (d : Dat sSystem) (w : World) (hd : Dice w p A n c) (hs : RdQ w (Out w p) sSystem [.slice S sn sc, .slice R rn rc] d) (hz : sz sSystem d ≤ 2000) :
  Calls Tryz.prog 106 #[.pointer (some ⟨p, 0, none⟩), .agg #[.slice S sn sc, .slice R rn rc]] w (AnsR w p A n c 65) := by
 obtain ⟨W, hW, rA, bel⟩ := box1 w 29 #[.slice S sn sc, .slice R rn rc]
 have T : Dy w p A n c S sn sc R rn rc d W := ⟨hd.next bel, rA, out_below hs bel, grown_of_below bel _, hd.lt⟩
 have hz1 : sz sSystem d ≤ 1048576 := by omega
 have hlr := T.len hz1
 have hsn : sn ≤ 1048576 := by
  have h1 := (sys_szs hz1).1
  rw [sz_ints] at h1
  have := T.sg.1
  omega
 have LS := hid (specSystemOk _ _ d W T.rd hz1)
 have HW := hid hW
 have HT := hid T
 have K0 : W.cell? ⟨w.heap.size, 0, none⟩ = some (.slice S sn sc) := T.r.cell 0
 have K1 : W.cell? ⟨w.heap.size, 1, none⟩ = some (.slice R rn rc) := T.r.cell 1
 have HLR := hid hlr.1
 have hrc := hlr.2
 clear hW hd hs bel rA T hlr
 have LA := hid (fun (w1 : World) (T : Dy w p A n c S sn sc R rn rc d w1) => (drawAny p A n c S sn sc d.1 w1 T.di T.sg hsn).mono fun _ _ h => ansR_from T.g h)
 cases ok : sysOkB d.1 d.2 with
 | false =>
  have HO := hid ok
  clear ok
  go_enter Tryz.func106, Tryz.ntmps106
  go_wp2_with fail
  rw [← HW.out]
  go_wp2_with fail
  refine LS.out.mono ?_
  rintro e w1 ⟨he, bb⟩
  rw [HO.out] at he
  subst he
  have HT1 := hid (HT.out.next bb)
  have k0 : w1.cell? ⟨w.heap.size, 0, none⟩ = some (.slice S sn sc) := HT1.out.r.cell 0
  clear bb K0 K1 HT LS HW
  have LAX := hid (LA.out w1 HT1.out)
  go_wp2_with fail
  refine LAX.out.mono ?_
  rintro e w9 ⟨O9, on9, oc9, xs9, rfl, z1, z2, z3, z4, z5, z6, z7⟩
  have F := hid (show AnsR w p A n c 65 (.returned (.slice O9 on9 oc9)) w9 from ⟨O9, on9, oc9, xs9, rfl, z1, z2, z3, z4, z5, z6, z7⟩)
  clear z1 z2 z3 z4 z5 z6 z7 LAX HT1
  go_wp2
  go_ret
  exact F.out
 | true =>
  have HO := hid ok
  have hsp := sys_parts ok
  have hars := hid (sig_arities hsp.1).1
  have hsl : 1 ≤ sn ∧ sn ≤ 8 := by have h1 := (sig_arities hsp.1).2; have h2 := HT.out.sg.1; omega
  have hrn : rn ≤ 12 := by have h1 := hsp.2.1; have h2 := HLR.out; omega
  clear ok hsp
  by_cases h0 : rn = 0
  ·have h0' : ¬ (0 : Int) < (rn : Int) := by omega
   have h0d : decide ((0 : Int) < (rn : Int)) = false := decide_eq_false h0'
   clear h0
   go_enter Tryz.func106, Tryz.ntmps106
   go_wp2_with fail
   rw [← HW.out]
   go_wp2_with fail
   refine LS.out.mono ?_
   rintro e w1 ⟨he, bb⟩
   rw [HO.out] at he
   subst he
   have HT1 := hid (HT.out.next bb)
   have k0 : w1.cell? ⟨w.heap.size, 0, none⟩ = some (.slice S sn sc) := HT1.out.r.cell 0
   have k1 : w1.cell? ⟨w.heap.size, 1, none⟩ = some (.slice R rn rc) := HT1.out.r.cell 1
   clear bb K0 K1 HT LS HW
   have LAX := hid (LA.out w1 HT1.out)
   go_wp2_with fail
   refine LAX.out.mono ?_
   rintro e w9 ⟨O9, on9, oc9, xs9, rfl, z1, z2, z3, z4, z5, z6, z7⟩
   have F := hid (show AnsR w p A n c 65 (.returned (.slice O9 on9 oc9)) w9 from ⟨O9, on9, oc9, xs9, rfl, z1, z2, z3, z4, z5, z6, z7⟩)
   clear z1 z2 z3 z4 z5 z6 z7 LAX HT1
   go_wp2
   go_ret
   exact F.out
  ·have h0' : (0 : Int) < (rn : Int) := by omega
   have h0d : decide ((0 : Int) < (rn : Int)) = true := decide_eq_true h0'
   have h0n : 0 < rn := by omega
   clear h0
   go_enter Tryz.func106, Tryz.ntmps106
   go_wp2_with fail
   rw [← HW.out]
   go_wp2_with fail
   refine LS.out.mono ?_
   rintro e w1 ⟨he, bb⟩
   rw [HO.out] at he
   subst he
   have HT1 := hid (HT.out.next bb)
   have k0 : w1.cell? ⟨w.heap.size, 0, none⟩ = some (.slice S sn sc) := HT1.out.r.cell 0
   have k1 : w1.cell? ⟨w.heap.size, 1, none⟩ = some (.slice R rn rc) := HT1.out.r.cell 1
   have LO := hid (once p A n c 2 w1 HT1.out.di (by omega) (by omega))
   clear bb K0 K1 HT LS HW
   go_wp2_with fail
   refine LO.out.mono ?_
   rintro e w2 ⟨b1, rfl, d2, g2⟩
   have HT2 := hid (HT1.out.dice d2 g2)
   clear d2 g2 k0 k1 HT1 LO
   cases b1 with
   | false =>
    have k0 : w2.cell? ⟨w.heap.size, 0, none⟩ = some (.slice S sn sc) := HT2.out.r.cell 0
    have LAX := hid (LA.out w2 HT2.out)
    go_wp2_with fail
    refine LAX.out.mono ?_
    rintro e w9 ⟨O9, on9, oc9, xs9, rfl, z1, z2, z3, z4, z5, z6, z7⟩
    have F := hid (show AnsR w p A n c 65 (.returned (.slice O9 on9 oc9)) w9 from ⟨O9, on9, oc9, xs9, rfl, z1, z2, z3, z4, z5, z6, z7⟩)
    clear z1 z2 z3 z4 z5 z6 z7 LAX HT2
    go_wp2
    go_ret
    exact F.out
   | true =>
    have T := HT2.out.next (drew_below w2)
    have c0 : w2.drew.cell? ⟨w.heap.size, 0, none⟩ = some (.slice S sn sc) := T.r.cell 0
    have c1 : w2.drew.cell? ⟨w.heap.size, 1, none⟩ = some (.slice R rn rc) := T.r.cell 1
    have hpw : p < w.heap.size := T.hp
    clear HT2
    go_wp2_with fail
    have hpw2 : p < w2.drew.heap.size := Nat.lt_of_lt_of_le hpw T.g.size
    refine AnyT.start (S := (fun w' => w'.cell? ⟨w.heap.size, 0, none⟩ = some (.slice S sn sc) ∧ w'.cell? ⟨w.heap.size, 1, none⟩ = some (.slice R rn rc))) (fun _ => false) (by kernel_rfl) ⟨c0, c1⟩ (fun hHeld => ?_)
    refine AnyT.takeA (i := 0) (v := ?_) rfl (by kernel_rfl) (by kernel_rfl) (by kernel_rfl) (fun _ _ _ h => h) (Or.inl ⟨by rfl, ?_⟩) ?_
    rotate_left 1
    ·(intro w0 _; go_simp; try with_reducible rfl)
    try simp only [Act.put, setIfInBounds_toArray, set_cons_zero, set_cons_succ, getElem_toArray, getElem_cons_zero, getElem_cons_succ]
    refine AnyT.takeA (i := 1) (v := ?_) rfl (by kernel_rfl) (by kernel_rfl) (by kernel_rfl) (fun _ _ _ h => h) (Or.inl ⟨by rfl, ?_⟩) ?_
    rotate_left 1
    ·(intro w0 _; go_simp; try with_reducible rfl)
    try simp only [Act.put, setIfInBounds_toArray, set_cons_zero, set_cons_succ, getElem_toArray, getElem_cons_zero, getElem_cons_succ]
    refine AnyT.take (i := 2) (v := ?_) rfl (by kernel_rfl) (by kernel_rfl) (by kernel_rfl) (by kernel_rfl) (fun _ _ _ h => h) (Or.inl ⟨by rfl, ?_⟩) (by assumption) ?_
    rotate_left 1
    ·(intro w0 hSw; (try dsimp only at hSw); go_simp; try with_reducible rfl)
    try simp only [Act.put, setIfInBounds_toArray, set_cons_zero, set_cons_succ, getElem_toArray, getElem_cons_zero, getElem_cons_succ]
    refine AnyT.takeA (i := 4) (v := ?_) rfl (by kernel_rfl) (by kernel_rfl) (by kernel_rfl) (fun _ _ _ h => h) (Or.inl ⟨by rfl, ?_⟩) ?_
    rotate_left 1
    ·(intro w0 _; go_simp; try with_reducible rfl)
    try simp only [Act.put, setIfInBounds_toArray, set_cons_zero, set_cons_succ, getElem_toArray, getElem_cons_zero, getElem_cons_succ]
    refine AnyT.take (i := 5) (v := ?_) rfl (by kernel_rfl) (by kernel_rfl) (by kernel_rfl) (by kernel_rfl) (fun _ _ _ h => h) (Or.inl ⟨by rfl, ?_⟩) (by assumption) ?_
    rotate_left 1
    ·(intro w0 hSw; (try dsimp only at hSw); go_simp; try with_reducible rfl)
    try simp only [Act.put, setIfInBounds_toArray, set_cons_zero, set_cons_succ, getElem_toArray, getElem_cons_zero, getElem_cons_succ]
    refine AnyT.takeA (i := 6) (v := ?_) rfl (by kernel_rfl) (by kernel_rfl) (by kernel_rfl) (fun _ _ _ h => h) (Or.inl ⟨by rfl, ?_⟩) ?_
    rotate_left 1
    ·(intro w0 _; go_simp; try with_reducible rfl)
    try simp only [Act.put, setIfInBounds_toArray, set_cons_zero, set_cons_succ, getElem_toArray, getElem_cons_zero, getElem_cons_succ]
    refine AnyT.takeA (i := 7) (v := ?_) rfl (by kernel_rfl) (by kernel_rfl) (by kernel_rfl) (fun _ _ _ h => h) (Or.inl ⟨by rfl, ?_⟩) ?_
    rotate_left 1
    ·(intro w0 _; go_simp; try with_reducible rfl)
    try simp only [Act.put, setIfInBounds_toArray, set_cons_zero, set_cons_succ, getElem_toArray, getElem_cons_zero, getElem_cons_succ]
    refine AnyT.take (i := 8) (v := ?_) rfl (by kernel_rfl) (by kernel_rfl) (by kernel_rfl) (by kernel_rfl) (fun _ _ _ h => h) (Or.inl ⟨by rfl, ?_⟩) (by assumption) ?_
    rotate_left 1
    ·(intro w0 hSw; (try dsimp only at hSw); go_simp; try with_reducible rfl)
    try simp only [Act.put, setIfInBounds_toArray, set_cons_zero, set_cons_succ, getElem_toArray, getElem_cons_zero, getElem_cons_succ]
    refine AnyT.takeA (i := 9) (v := ?_) rfl (by kernel_rfl) (by kernel_rfl) (by kernel_rfl) (fun _ _ _ h => h) (Or.inl ⟨by rfl, ?_⟩) ?_
    rotate_left 1
    ·(intro w0 _; go_simp; try with_reducible rfl)
    try simp only [Act.put, setIfInBounds_toArray, set_cons_zero, set_cons_succ, getElem_toArray, getElem_cons_zero, getElem_cons_succ]
    refine AnyT.call (i := 3) (by kernel_rfl) rfl (fun K hK => ?_)
    try simp only [Act.put, setIfInBounds_toArray, set_cons_zero, set_cons_succ, getElem_toArray, getElem_cons_zero, getElem_cons_succ]
    rw [if_pos (by rfl)]
    go_simp
    (go_at_call 117; refine (Go.Proofs.YtmoidijngeijkaaGreat.drawS.draw p A n c S sn sc d.1 _ T.di T.sg hars.out (by omega) (by omega)).mono ?_; rintro e u1 ⟨B, m, cB, xss, rfl, oB, hB, d1, g1⟩; replace T := T.dice d1 g1; have e0u1 : u1.cell? ⟨w.heap.size, 0, none⟩ = some (.slice S sn sc) := T.r.cell 0; have e1u1 : u1.cell? ⟨w.heap.size, 1, none⟩ = some (.slice R rn rc) := T.r.cell 1; go_wp2_with fail)
    refine hK.out _ _ (fun _ _ => ?_) (fun hKeep => ?_)
    ·exact ⟨e0u1, e1u1⟩
    replace hHeld := hKeep (by first | rfl | trivial) hHeld
    clear hK K hKeep
    try simp only [Act.put, setIfInBounds_toArray, set_cons_zero, set_cons_succ, getElem_toArray, getElem_cons_zero, getElem_cons_succ]
    refine AnyT.call (i := 10) (by kernel_rfl) rfl (fun K hK => ?_)
    try simp only [Act.put, setIfInBounds_toArray, set_cons_zero, set_cons_succ, getElem_toArray, getElem_cons_zero, getElem_cons_succ]
    rw [if_pos (by rfl)]
    go_simp
    (go_at_call 104; refine (below p A n c (rn : Int) _ T.di (by omega) (by omega)).mono ?_; rintro e u2 ⟨x, rfl, hx0, hx1, d2, g2⟩; replace T := T.dice d2 g2; obtain ⟨k, rfl⟩ := Int.eq_ofNat_of_zero_le hx0; have hk : k < rn := (by omega); have oB2 := oB.dice g2 hpw2; have e0u2 : u2.cell? ⟨w.heap.size, 0, none⟩ = some (.slice S sn sc) := T.r.cell 0; have e1u2 : u2.cell? ⟨w.heap.size, 1, none⟩ = some (.slice R rn rc) := T.r.cell 1; go_wp2_with fail)
    refine hK.out _ _ (fun _ _ => ?_) (fun hKeep => ?_)
    ·exact ⟨e0u2, e1u2⟩
    replace hHeld := hKeep (by first | rfl | trivial) hHeld
    clear hK K hKeep
    try simp only [Act.put, setIfInBounds_toArray, set_cons_zero, set_cons_succ, getElem_toArray, getElem_cons_zero, getElem_cons_succ]
    obtain ⟨rb, roff, lA, ln, lc, hR, hrb, cl, sL, qL⟩ := T.rule hz1 hk
    subst hR
    have hl60 : ln ≤ 60 := by have h1 := (rule_parts (sys_rule2 HO.out (show k < d.2.length by rw [HLR.out]; exact hk))).1; have h2 := (term_len h1).2; have h3 := sL.1; omega
    have hvars := hid (fun (x : Int) hx => (term_mem (rule_parts (sys_rule2 HO.out (show k < d.2.length by rw [HLR.out]; exact hk))).1 (x := x) hx).1)
    obtain ⟨ls, hls⟩ : ∃ l, (d.2.getD k ([], [])).1 = l := ⟨_, rfl⟩
    rw [hls] at sL hvars
    clear hls
    have i0 : (0 : Int) ≤ (k : Int) := by omega
    have i1 : (k : Int) < (rn : Int) := by omega
    have HSL := hid sL
    have HSB := hid (Go.Proofs.YtmoidijngeijkaaGreat.drawSS.OwnR.segs oB2)
    have hT1 := hid (small_tot hB oB2.1 (by omega))
    have hG1 := hid (gives_each60 (fun j => Nat.le_trans (hB.2 j) (by omega)))
    clear sL d1 g1 d2 g2 oB hx0 hx1
    refine AnyT.call (i := 11) (by kernel_rfl) rfl (fun K hK => ?_)
    try simp only [Act.put, setIfInBounds_toArray, set_cons_zero, set_cons_succ, getElem_toArray, getElem_cons_zero, getElem_cons_succ]
    rw [if_pos (by rfl)]
    go_simp
    refine hK.out _ _ (fun _ _ => ?_) (fun hKeep => ?_)
    ·exact ⟨e0u2, e1u2⟩
    replace hHeld := hKeep (by first | rfl | trivial) hHeld
    clear hK K hKeep
    try simp only [Act.put, setIfInBounds_toArray, set_cons_zero, set_cons_succ, getElem_toArray, getElem_cons_zero, getElem_cons_succ]
    refine AnyT.call (i := 12) (by kernel_rfl) rfl (fun K hK => ?_)
    try simp only [Act.put, setIfInBounds_toArray, set_cons_zero, set_cons_succ, getElem_toArray, getElem_cons_zero, getElem_cons_succ]
    rw [if_pos (by rfl)]
    go_simp
    refine hK.out _ _ (fun _ _ => ?_) (fun hKeep => ?_)
    ·exact ⟨e0u2, e1u2⟩
    replace hHeld := hKeep (by first | rfl | trivial) hHeld
    clear hK K hKeep
    try simp only [Act.put, setIfInBounds_toArray, set_cons_zero, set_cons_succ, getElem_toArray, getElem_cons_zero, getElem_cons_succ]
    refine AnyT.call (i := 13) (by kernel_rfl) rfl (fun K hK => ?_)
    try simp only [Act.put, setIfInBounds_toArray, set_cons_zero, set_cons_succ, getElem_toArray, getElem_cons_zero, getElem_cons_succ]
    rw [if_pos (by rfl)]
    go_simp
    refine hK.out _ _ (fun _ _ => ?_) (fun hKeep => ?_)
    ·exact ⟨e0u2, e1u2⟩
    replace hHeld := hKeep (by first | rfl | trivial) hHeld
    clear hK K hKeep
    try simp only [Act.put, setIfInBounds_toArray, set_cons_zero, set_cons_succ, getElem_toArray, getElem_cons_zero, getElem_cons_succ]
    refine AnyT.call (i := 14) (by kernel_rfl) rfl (fun K hK => ?_)
    try simp only [Act.put, setIfInBounds_toArray, set_cons_zero, set_cons_succ, getElem_toArray, getElem_cons_zero, getElem_cons_succ]
    rw [if_pos (by rfl)]
    go_simp
    (go_at_call 73; refine (Go.Proofs.YtmoidijngeijkaaGreat.filled.l2Filled B lA m cB ln lc xss ls u2 HSB.out HSL.out hT1.out hl60 hvars.out hG1.out).mono ?_; rintro e u3 ⟨O, on, oc, rfl, oO, b3⟩; have zu2 : w.heap.size ≤ u2.heap.size := T.g.size; replace T := T.next b3; have zu3 := b3.size; have e0u3 : u3.cell? ⟨w.heap.size, 0, none⟩ = some (.slice S sn sc) := T.r.cell 0; have e1u3 : u3.cell? ⟨w.heap.size, 1, none⟩ = some (.slice (some ⟨rb, roff, none⟩) rn rc) := T.r.cell 1; go_wp2_with fail)
    refine hK.out _ _ (fun _ _ => ?_) (fun hKeep => ?_)
    ·exact ⟨e0u3, e1u3⟩
    replace hHeld := hKeep (by first | rfl | trivial) hHeld
    clear hK K hKeep
    try simp only [Act.put, setIfInBounds_toArray, set_cons_zero, set_cons_succ, getElem_toArray, getElem_cons_zero, getElem_cons_succ]
    refine AnyT.takeA (i := 15) (v := ?_) rfl (by kernel_rfl) (by kernel_rfl) (by kernel_rfl) (fun _ _ _ h => h) (Or.inl ⟨by rfl, ?_⟩) ?_
    rotate_left 1
    ·(intro w0 _; go_simp; try with_reducible rfl)
    try simp only [Act.put, setIfInBounds_toArray, set_cons_zero, set_cons_succ, getElem_toArray, getElem_cons_zero, getElem_cons_succ]
    refine AnyT.takeA (i := 16) (v := ?_) rfl (by kernel_rfl) (by kernel_rfl) (by kernel_rfl) (fun _ _ _ h => h) (Or.inl ⟨by rfl, ?_⟩) ?_
    rotate_left 1
    ·(intro w0 _; go_simp; try with_reducible rfl)
    try simp only [Act.put, setIfInBounds_toArray, set_cons_zero, set_cons_succ, getElem_toArray, getElem_cons_zero, getElem_cons_succ]
    refine AnyT.takeA (i := 17) (v := ?_) rfl (by kernel_rfl) (by kernel_rfl) (by kernel_rfl) (fun _ _ _ h => h) (Or.inl ⟨by rfl, ?_⟩) ?_
    rotate_left 1
    ·(intro w0 _; go_simp; try with_reducible rfl)
    try simp only [Act.put, setIfInBounds_toArray, set_cons_zero, set_cons_succ, getElem_toArray, getElem_cons_zero, getElem_cons_succ]
    refine AnyT.takeA (i := 18) (v := ?_) rfl (by kernel_rfl) (by kernel_rfl) (by kernel_rfl) (fun _ _ _ h => h) (Or.inl ⟨by rfl, ?_⟩) ?_
    rotate_left 1
    ·(intro w0 _; go_simp; try with_reducible rfl)
    try simp only [Act.put, setIfInBounds_toArray, set_cons_zero, set_cons_succ, getElem_toArray, getElem_cons_zero, getElem_cons_succ]
    refine AnyT.takeA (i := 19) (v := ?_) rfl (by kernel_rfl) (by kernel_rfl) (by kernel_rfl) (fun _ _ _ h => h) (Or.inl ⟨by rfl, ?_⟩) ?_
    rotate_left 1
    ·(intro w0 _; go_simp; try with_reducible rfl)
    try simp only [Act.put, setIfInBounds_toArray, set_cons_zero, set_cons_succ, getElem_toArray, getElem_cons_zero, getElem_cons_succ]
    refine AnyT.done (by kernel_rfl) ?_ _
    clear e0u1 e1u1 e0u2 e1u2 e0u3 e1u3 cl
    have HT5 := hid T
    have HOO := hid oO
    clear T oO b3
    obtain ⟨bf, hbf⟩ : ∃ b, Go.Proofs.YtmoidijngeijkaaGreat.filled.fitsB xss ls = b := ⟨_, rfl⟩
    obtain ⟨ys, hys⟩ : ∃ y, Go.Proofs.YtmoidijngeijkaaGreat.filled.fitL xss ls = y := ⟨_, rfl⟩
    rw [hys] at HOO
    rw [hbf]
    have HYS := hid (show bf = true → ys.length ≤ 60 from fun e => by rw [← hys]; exact fit_len (hbf.trans e))
    clear hbf hys c0 c1
    cases bf with
    | false =>
     have k0 : u3.cell? ⟨w.heap.size, 0, none⟩ = some (.slice S sn sc) := HT5.out.r.cell 0
     have LAX := hid (LA.out u3 HT5.out)
     go_wp2_with fail
     refine LAX.out.mono ?_
     rintro e w9 ⟨O9, on9, oc9, xs9, rfl, z1, z2, z3, z4, z5, z6, z7⟩
     have F := hid (show AnsR w p A n c 65 (.returned (.slice O9 on9 oc9)) w9 from ⟨O9, on9, oc9, xs9, rfl, z1, z2, z3, z4, z5, z6, z7⟩)
     clear z1 z2 z3 z4 z5 z6 z7 LAX HT5
     go_wp2
     go_ret
     exact F.out
    | true =>
     have hon60 : on ≤ 60 := by have h1 := HYS.out rfl; have h2 := Own.len HOO.out; omega
     have LO := hid (once p A n c 2 u3 HT5.out.di (by omega) (by omega))
     go_wp2_with fail
     refine LO.out.mono ?_
     rintro e w6 ⟨b2, rfl, d6, g6⟩
     have HT6 := hid (HT5.out.dice d6 g6)
     have HO6 := hid (Go.Proofs.YtmoidijngeijkaaGreat.drawSig.Own.away HOO.out g6 (fun k e => by injection e with e; omega))
     clear d6 g6 HT5 HOO LO
     cases b2 with
     | true =>
      have F := hid (ansR_at (L := 65) HT6.out HO6.out (by omega) (by omega))
      clear HT6 HO6
      go_wp2
      go_ret
      exact F.out
     | false =>
      have k0 : w6.cell? ⟨w.heap.size, 0, none⟩ = some (.slice S sn sc) := HT6.out.r.cell 0
      have LU := hid (drawTermW p A n c S sn sc d.1 2 hars.out (by omega) (by omega) (by omega) (by omega) 2 3 w6 HT6.out.di HT6.out.sg (by omega) (by omega) (by omega))
      go_wp2_with fail
      refine LU.out.mono ?_
      rintro e w7 ⟨U, un, uc, us, rfl, oU, hu1, hu2, husc, d7, g7⟩
      have hw67 : w6.heap.size ≤ w7.heap.size := g7.size
      have HT7 := hid (HT6.out.dice d7 g7)
      have HO7 := hid (Go.Proofs.YtmoidijngeijkaaGreat.drawSig.Own.away HO6.out g7 (fun k e => by injection e with e; omega))
      have hu16 : un ≤ 16 := by have : (4 : Nat) ^ 2 = 16 := rfl; omega
      have HUT := hid (show termOkB d.1 us = true from term_mk (sys_parts HO.out).1 (by have := Own.len oU; omega) husc)
      have hpw7 : p < w7.heap.size := Nat.lt_of_lt_of_le hpw HT7.out.g.size
      have hw6 : w.heap.size ≤ w6.heap.size := HT6.out.g.size
      have T := HT7.out.next (drew_below w7)
      have oU1 := oU.next (drew_below w7)
      have oY1 := HO7.out.next (drew_below w7)
      have c0 : w7.drew.cell? ⟨w.heap.size, 0, none⟩ = some (.slice S sn sc) := T.r.cell 0
      clear k0 d7 g7 HT6 HO6 LU husc oU HT7 HO7
      go_wp2_with fail
      refine AnyT.start (S := (fun w' => w'.cell? ⟨w.heap.size, 0, none⟩ = some (.slice S sn sc))) (fun _ => false) (by kernel_rfl) c0 (fun hHeld => ?_)
      refine AnyT.takeA (i := 0) (v := ?_) rfl (by kernel_rfl) (by kernel_rfl) (by kernel_rfl) (fun _ _ _ h => h) (Or.inl ⟨by rfl, ?_⟩) ?_
      rotate_left 1
      ·(intro w0 _; go_simp; try with_reducible rfl)
      try simp only [Act.put, setIfInBounds_toArray, set_cons_zero, set_cons_succ, getElem_toArray, getElem_cons_zero, getElem_cons_succ]
      refine AnyT.take (i := 1) (v := ?_) rfl (by kernel_rfl) (by kernel_rfl) (by kernel_rfl) (by kernel_rfl) (fun _ _ _ h => h) (Or.inl ⟨by rfl, ?_⟩) (by assumption) ?_
      rotate_left 1
      ·(intro w0 hSw; (try dsimp only at hSw); go_simp; try with_reducible rfl)
      try simp only [Act.put, setIfInBounds_toArray, set_cons_zero, set_cons_succ, getElem_toArray, getElem_cons_zero, getElem_cons_succ]
      refine AnyT.takeA (i := 2) (v := ?_) rfl (by kernel_rfl) (by kernel_rfl) (by kernel_rfl) (fun _ _ _ h => h) (Or.inl ⟨by rfl, ?_⟩) ?_
      rotate_left 1
      ·(intro w0 _; go_simp; try with_reducible rfl)
      try simp only [Act.put, setIfInBounds_toArray, set_cons_zero, set_cons_succ, getElem_toArray, getElem_cons_zero, getElem_cons_succ]
      refine AnyT.takeA (i := 3) (v := ?_) rfl (by kernel_rfl) (by kernel_rfl) (by kernel_rfl) (fun _ _ _ h => h) (Or.inl ⟨by rfl, ?_⟩) ?_
      rotate_left 1
      ·(intro w0 _; go_simp; try with_reducible rfl)
      try simp only [Act.put, setIfInBounds_toArray, set_cons_zero, set_cons_succ, getElem_toArray, getElem_cons_zero, getElem_cons_succ]
      refine AnyT.takeA (i := 4) (v := ?_) rfl (by kernel_rfl) (by kernel_rfl) (by kernel_rfl) (fun _ _ _ h => h) (Or.inl ⟨by rfl, ?_⟩) ?_
      rotate_left 1
      ·(intro w0 _; go_simp; try with_reducible rfl)
      try simp only [Act.put, setIfInBounds_toArray, set_cons_zero, set_cons_succ, getElem_toArray, getElem_cons_zero, getElem_cons_succ]
      refine AnyT.takeA (i := 5) (v := ?_) rfl (by kernel_rfl) (by kernel_rfl) (by kernel_rfl) (fun _ _ _ h => h) (Or.inl ⟨by rfl, ?_⟩) ?_
      rotate_left 1
      ·(intro w0 _; go_simp; try with_reducible rfl)
      try simp only [Act.put, setIfInBounds_toArray, set_cons_zero, set_cons_succ, getElem_toArray, getElem_cons_zero, getElem_cons_succ]
      refine AnyT.takeA (i := 7) (v := ?_) rfl (by kernel_rfl) (by kernel_rfl) (by kernel_rfl) (fun _ _ _ h => h) (Or.inl ⟨by rfl, ?_⟩) ?_
      rotate_left 1
      ·(intro w0 _; go_simp; try with_reducible rfl)
      try simp only [Act.put, setIfInBounds_toArray, set_cons_zero, set_cons_succ, getElem_toArray, getElem_cons_zero, getElem_cons_succ]
      refine AnyT.call (i := 6) (by kernel_rfl) rfl (fun K hK => ?_)
      try simp only [Act.put, setIfInBounds_toArray, set_cons_zero, set_cons_succ, getElem_toArray, getElem_cons_zero, getElem_cons_succ]
      rw [if_pos (by rfl)]
      go_simp
      (go_at_call 104; refine (below p A n c (un : Int) _ T.di (by omega) (by omega)).mono ?_; rintro e u9 ⟨x, rfl, hx0, hx1, d9, g9⟩; replace T := T.dice d9 g9; obtain ⟨a, rfl⟩ := Int.eq_ofNat_of_zero_le hx0; have ha : a < un := (by omega); have oU2 := Go.Proofs.YtmoidijngeijkaaGreat.drawSig.Own.away oU1 g9 (fun k e => by injection e with e; omega); have oY2 := Go.Proofs.YtmoidijngeijkaaGreat.drawSig.Own.away oY1 g9 (fun k e => by injection e with e; omega); have e0u9 : u9.cell? ⟨w.heap.size, 0, none⟩ = some (.slice S sn sc) := T.r.cell 0; go_wp2_with fail)
      refine hK.out _ _ (fun _ _ => ?_) (fun hKeep => ?_)
      ·exact e0u9
      replace hHeld := hKeep (by first | rfl | trivial) hHeld
      clear hK K hKeep
      try simp only [Act.put, setIfInBounds_toArray, set_cons_zero, set_cons_succ, getElem_toArray, getElem_cons_zero, getElem_cons_succ]
      have haU : a < us.length := by have := Own.len oU2; omega
      have LP := hid (Go.Proofs.YtmoidijngeijkaaGreat.put.l3Put S U O sn sc un uc on oc d.1 us ys a u9 T.sg.seg (Own.seg oU2) (Own.seg oY2) (look.own_cap oY2).2.2 (by omega) (by omega) hon60 (look.own_cap oU2).1 (look.own_cap oU2).2.1 HUT.out haU)
      clear d9 g9 oU1 oY1 oU2 oY2 hx0 hx1 haU
      refine AnyT.call (i := 8) (by kernel_rfl) rfl (fun K hK => ?_)
      try simp only [Act.put, setIfInBounds_toArray, set_cons_zero, set_cons_succ, getElem_toArray, getElem_cons_zero, getElem_cons_succ]
      rw [if_pos (by rfl)]
      go_simp
      (go_at_call 61; refine LP.out.mono ?_; rintro e u10 ⟨X, xn, xc, rfl, oX, b10⟩; have zu9 : w.heap.size ≤ u9.heap.size := T.g.size; replace T := T.next b10; have e0u10 : u10.cell? ⟨w.heap.size, 0, none⟩ = some (.slice S sn sc) := T.r.cell 0; go_wp2_with fail)
      refine hK.out _ _ (fun _ _ => ?_) (fun hKeep => ?_)
      ·exact e0u10
      replace hHeld := hKeep (by first | rfl | trivial) hHeld
      clear hK K hKeep
      try simp only [Act.put, setIfInBounds_toArray, set_cons_zero, set_cons_succ, getElem_toArray, getElem_cons_zero, getElem_cons_succ]
      refine AnyT.takeA (i := 9) (v := ?_) rfl (by kernel_rfl) (by kernel_rfl) (by kernel_rfl) (fun _ _ _ h => h) (Or.inl ⟨by rfl, ?_⟩) ?_
      rotate_left 1
      ·(intro w0 _; go_simp; try with_reducible rfl)
      try simp only [Act.put, setIfInBounds_toArray, set_cons_zero, set_cons_succ, getElem_toArray, getElem_cons_zero, getElem_cons_succ]
      refine AnyT.takeA (i := 10) (v := ?_) rfl (by kernel_rfl) (by kernel_rfl) (by kernel_rfl) (fun _ _ _ h => h) (Or.inl ⟨by rfl, ?_⟩) ?_
      rotate_left 1
      ·(intro w0 _; go_simp; try with_reducible rfl)
      try simp only [Act.put, setIfInBounds_toArray, set_cons_zero, set_cons_succ, getElem_toArray, getElem_cons_zero, getElem_cons_succ]
      refine AnyT.takeA (i := 11) (v := ?_) rfl (by kernel_rfl) (by kernel_rfl) (by kernel_rfl) (fun _ _ _ h => h) (Or.inl ⟨by rfl, ?_⟩) ?_
      rotate_left 1
      ·(intro w0 _; go_simp; try with_reducible rfl)
      try simp only [Act.put, setIfInBounds_toArray, set_cons_zero, set_cons_succ, getElem_toArray, getElem_cons_zero, getElem_cons_succ]
      refine AnyT.takeA (i := 12) (v := ?_) rfl (by kernel_rfl) (by kernel_rfl) (by kernel_rfl) (fun _ _ _ h => h) (Or.inl ⟨by rfl, ?_⟩) ?_
      rotate_left 1
      ·(intro w0 _; go_simp; try with_reducible rfl)
      try simp only [Act.put, setIfInBounds_toArray, set_cons_zero, set_cons_succ, getElem_toArray, getElem_cons_zero, getElem_cons_succ]
      refine AnyT.takeA (i := 13) (v := ?_) rfl (by kernel_rfl) (by kernel_rfl) (by kernel_rfl) (fun _ _ _ h => h) (Or.inl ⟨by rfl, ?_⟩) ?_
      rotate_left 1
      ·(intro w0 _; go_simp; try with_reducible rfl)
      try simp only [Act.put, setIfInBounds_toArray, set_cons_zero, set_cons_succ, getElem_toArray, getElem_cons_zero, getElem_cons_succ]
      refine AnyT.done (by kernel_rfl) ?_ _
      clear e0u9 e0u10
      have HT10 := hid T
      have HOX := hid oX
      clear T oX b10 c0
      obtain ⟨bf, hbf⟩ : ∃ b, Go.Proofs.YtmoidijngeijkaaGreat.put.fitB d.1 us ys a = b := ⟨_, rfl⟩
      obtain ⟨zs, hzs⟩ : ∃ y, Go.Proofs.YtmoidijngeijkaaGreat.put.fitL d.1 us ys a = y := ⟨_, rfl⟩
      rw [hzs] at HOX
      rw [hbf]
      have HZ := hid (show bf = true → zs.length ≤ 60 from fun e => by rw [← hzs]; exact put_len (hbf.trans e))
      clear hbf hzs
      cases bf with
      | true =>
       have hxn : xn ≤ 65 := by have h1 := HZ.out rfl; have h2 := Own.len HOX.out; omega
       have F := hid (ansR_at (L := 65) HT10.out HOX.out (by have := HT10.out.g.size; omega) hxn)
       clear HT10 HOX
       go_wp2
       go_ret
       exact F.out
      | false =>
       have k0 : u10.cell? ⟨w.heap.size, 0, none⟩ = some (.slice S sn sc) := HT10.out.r.cell 0
       have LAX := hid (LA.out u10 HT10.out)
       go_wp2_with fail
       refine LAX.out.mono ?_
       rintro e w9 ⟨O9, on9, oc9, xs9, rfl, z1, z2, z3, z4, z5, z6, z7⟩
       have F := hid (show AnsR w p A n c 65 (.returned (.slice O9 on9 oc9)) w9 from ⟨O9, on9, oc9, xs9, rfl, z1, z2, z3, z4, z5, z6, z7⟩)
       clear z1 z2 z3 z4 z5 z6 z7 LAX HT10
       go_wp2
       go_ret
       exact F.out
end drawL7
end
section
open Go.Lib (hid)
open List (setIfInBounds_toArray set_cons_zero set_cons_succ getElem_toArray getElem_cons_zero getElem_cons_succ)
namespace drawL7
open Go.RowKit base ints sig term termOk termFacts cursor marks app appAt sym segs segsHelp kinds dice drawTerm drawAny drawSub drawTwo drawTermW drawX drawRule drawKnown drawSys drawSysAny drawSysD ruleMath ruleSpec gives heldT
open shape (Sh Dat nc dft sI sz sz_ints rd_ints)
open kindsR (sRule sSystem sRuleS sSig)
set_option maxRecDepth 100000
structure St (w : World) (p lo : Nat) (A : Option Addr) (n c : Nat) (S : Option Addr) (sn sc : Nat) (sg : List Int) (R : Option Addr) (rn rc : Nat) (D : List (Dat sRule)) (O : Option Addr) (on oc : Nat) (t : List Int) (wr : World) : Prop where
 s : RdQ wr (OutR wr p (blk R)) sI [.slice S sn sc] sg
 h9 : sg.length ≤ 9
 own : OwnQ wr p lo 126 sRule R rn rc D
 hM : SmallD 13 D
 t : Go.Proofs.YtmoidijngeijkaaGreat.drawTerm.Rd wr p wr.heap.size O on t
 ct : Cap O on oc
 h65 : on ≤ 65
 di : Dice wr p A n c
 g : w.grownBy wr (some p)
section
variable {w : World} {p lo : Nat} {A : Option Addr} {n c : Nat} {S : Option Addr} {sn sc : Nat} {sg : List Int} {R : Option Addr} {rn rc : Nat} {D : List (Dat sRule)} {O : Option Addr} {on oc : Nat} {t : List Int} {wr w' : World}
theorem rdT_put {N i : Nat} {T : TypeId} {a1 a2 : Option Addr} {l1 k1 l2 k2 : Nat} {u : Value} (h : Go.Proofs.YtmoidijngeijkaaGreat.drawTerm.Rd wr p wr.heap.size O on t) (hN : Row wr N T #[.slice a1 l1 k1, .slice a2 l2 k2]) : Go.Proofs.YtmoidijngeijkaaGreat.drawTerm.Rd (wr.setCell ⟨N, i, none⟩ u) p (wr.setCell ⟨N, i, none⟩ u).heap.size O on t := by
 refine ⟨h.1, fun hn => ?_⟩
 obtain ⟨b, off, e, hb, hne, hc⟩ := h.2 hn
 refine ⟨b, off, e, by simpa using hb, hne, fun j hj => ?_⟩
 have hbN : b ≠ N := fun e => by
  subst e
  have h1 := hc j hj
  rw [hN.cell] at h1
  have hlt : off + j = 0 ∨ off + j = 1 ∨ 2 ≤ off + j := by omega
  rcases hlt with e2 | e2 | e2
  ·rw [e2] at h1; cases h1
  ·rw [e2] at h1; cases h1
  ·rw [Array.getElem?_eq_none (by simpa using e2)] at h1; cases h1
 exact (World.cell?_of_block (Below.heap_setCell wr _ u b (by show b ≠ N; exact hbN))).trans (hc j hj)
theorem St.put {N i : Nat} {T : TypeId} {a1 a2 : Option Addr} {l1 k1 l2 k2 : Nat} {u : Value} (h : St w p lo A n c S sn sc sg R rn rc D O on oc t wr) (hN : Row wr N T #[.slice a1 l1 k1, .slice a2 l2 k2]) (hNlo : N < lo) (hNp : N ≠ p) (hw : w.heap.size ≤ N) :
  St w p lo A n c S sn sc sg R rn rc D O on oc t (wr.setCell ⟨N, i, none⟩ u) := by
 have hne : blk R ≠ some N := fun e => by have := (h.own.ge _ e).1; omega
 refine ⟨ints_put h.s hN i u, h.h9, ownQ_put h.own hN hne i u, h.hM, rdT_put h.t hN, h.ct, h.h65, ?_, ?_⟩
 ·obtain ⟨j, hh, dd⟩ := h.di
  refine ⟨j, hh, dd.row.far (fun e => hNp e.symm) _, dd.le, fun hp => ?_, dd.hn⟩
  obtain ⟨b, off, e, hb, hc⟩ := dd.s hp
  refine ⟨b, off, e, hb, fun q hq => ?_⟩
  obtain ⟨x, x0, x1, hx⟩ := hc q hq
  have hbN : b ≠ N := fun e => by
   subst e
   rw [hN.cell] at hx
   have hlt : off + q = 0 ∨ off + q = 1 ∨ 2 ≤ off + q := by omega
   rcases hlt with e2 | e2 | e2
   ·rw [e2] at hx; cases hx
   ·rw [e2] at hx; cases hx
   ·rw [Array.getElem?_eq_none (by simpa using e2)] at hx; cases hx
  exact ⟨x, x0, x1, (World.cell?_of_block (Below.heap_setCell wr _ u b (by show b ≠ N; exact hbN))).trans hx⟩
 ·exact ⟨h.g.os, h.g.tape, h.g.output, by simpa using h.g.size, fun k hk hne => (Below.heap_setCell wr _ u k (by show k ≠ N; omega)).trans (h.g.block k hk hne)⟩
theorem St.from {w0 : World} (h : St w p lo A n c S sn sc sg R rn rc D O on oc t wr) (hg : w0.grownBy w (some p)) : St w0 p lo A n c S sn sc sg R rn rc D O on oc t wr := ⟨h.s, h.h9, h.own, h.hM, h.t, h.ct, h.h65, h.di, hg.trans h.g⟩
theorem St.dice (h : St w p lo A n c S sn sc sg R rn rc D O on oc t wr) (hd : Dice w' p A n c) (hg : wr.grownBy w' (some p)) (hp : p < lo) : St w p lo A n c S sn sc sg R rn rc D O on oc t w' :=
 ⟨outR_dice h.s hg, h.h9, h.own.dice hg hp, h.hM, by
  refine ⟨h.t.1, fun hn => ?_⟩
  obtain ⟨b, off, e, hb, hne, hc⟩ := h.t.2 hn
  exact ⟨b, off, e, Nat.lt_of_lt_of_le hb hg.size, hne, fun j hj => (World.cell?_of_block (hg.block b hb (fun e => by injection e with e; exact hne e))).trans (hc j hj)⟩, h.ct, h.h65, hd, h.g.trans hg⟩
theorem St.next (h : St w p lo A n c S sn sc sg R rn rc D O on oc t wr) (hb : Below wr.heap.size wr w') : St w p lo A n c S sn sc sg R rn rc D O on oc t w' :=
 ⟨outR_below h.s hb, h.h9, h.own.below hb, h.hM, by
  refine ⟨h.t.1, fun hn => ?_⟩
  obtain ⟨b, off, e, hb2, hne, hc⟩ := h.t.2 hn
  exact ⟨b, off, e, Nat.lt_of_lt_of_le hb2 hb.size, hne, fun j hj => (hb.cell (p := ⟨b, off + j, none⟩) hb2).trans (hc j hj)⟩, h.ct, h.h65, h.di.next hb, h.g.trans (grown_of_below hb _)⟩
theorem St.sz (h : St w p lo A n c S sn sc sg R rn rc D O on oc t wr) : sz sSystem ((sg, D) : List Int × List (Dat sRule)) ≤ 2000 := by
 have h1 := sz_small h.hM
 have h2 := h.h9
 show Go.Proofs.YtmoidijngeijkaaGreat.shape.sz sI sg + Go.Proofs.YtmoidijngeijkaaGreat.shape.sz sRuleS D ≤ 2000
 rw [Go.Proofs.YtmoidijngeijkaaGreat.shape.sz_ints]
 omega
end
def AnsSysT (w : World) (p : Nat) (A : Option Addr) (n c : Nat) (e : Ending) (w' : World) : Prop :=
 ∃ S sn sc sg R rn rc D O on oc t, e = .returned (.tuple #[.agg #[.slice S sn sc, .slice R rn rc], .slice O on oc]) ∧ St w p w.heap.size A n c S sn sc sg R rn rc D O on oc t w'
set_option maxHeartbeats 4000000 in
theorem l7Draw (p : Nat) (A : Option Addr) (n c : Nat) (w : World) (hd : Dice w p A n c) :
  Calls Tryz.prog 76 #[.pointer (some ⟨p, 0, none⟩)] w (AnsSysT w p A n c) := by
 obtain ⟨W, hW, rN, bel⟩ := box1 w 29 #[.slice none 0 0, .slice none 0 0]
 have hpw := hd.lt
 have L1 := hid (drawSysAny p A n c W (hd.next bel))
 have HW := hid hW
 have g0 := grown_of_below bel (some p)
 have zN : w.heap.size < W.heap.size := rN.lt
 clear hW hd
 go_enter Tryz.func76, Tryz.ntmps76
 go_wp2_with fail
 rw [← HW.out]
 refine L1.out.mono ?_
 rintro e w1 ⟨S, sn, sc, sg, R, rn, rc, D, rfl, s1, h9, o1, hM, d1, g1⟩
 have rN1 := Row.away rN g1 (fun e => by injection e with e; omega)
 obtain ⟨W2, hW2, r2, b2⟩ := box1 w1 29 #[.slice S sn sc, .slice R rn rc]
 have s2 := outR_below s1 b2
 have o2 := o1.below b2
 have d2 := d1.next b2
 have g2 := (g0.trans g1).trans (grown_of_below b2 (some p))
 have rN2 := rN1.next b2
 have zW1 : W.heap.size ≤ w1.heap.size := g1.size
 have BD := drew_below W2
 have LT := hid (l7DrawTerm p A n c S sn sc R rn rc ((sg, D) : List Int × List (Dat sRule)) W2.drew (d2.next BD) (RdQ.cat (ca := [_]) (cb := [_]) ((outR_below s2 BD).mono fun b hb => ⟨hb.1, hb.2.1⟩) ((o2.below BD).rdq (by omega))) (by
  have h1 := sz_small hM
  show Go.Proofs.YtmoidijngeijkaaGreat.shape.sz sI sg + Go.Proofs.YtmoidijngeijkaaGreat.shape.sz sRuleS D ≤ 2000
  rw [Go.Proofs.YtmoidijngeijkaaGreat.shape.sz_ints]
  omega))
 have rD := r2.next BD
 have HN2 := hid (rN2.next BD)
 have HR2 := hid rD
 have HS := hid (show RdQ W2.drew (OutR W2.drew p (blk R)) sI [.slice S sn sc] sg ∧ OwnQ W2.drew p W.heap.size 126 sRule R rn rc D ∧ w.grownBy W2.drew (some p) from ⟨outR_below s2 BD, o2.below BD, g2.trans (grown_of_below BD _)⟩)
 have HMM := hid (And.intro h9 hM)
 have c0 : W2.drew.cell? ⟨w1.heap.size, 0, none⟩ = some (.slice S sn sc) := rD.cell 0
 have c1 : W2.drew.cell? ⟨w1.heap.size, 1, none⟩ = some (.slice R rn rc) := rD.cell 1
 have HW2 := hid hW2
 have zo : w1.heap.size < W2.heap.size := r2.lt
 clear s1 o1 d1 g1 rN1 rN bel g0 s2 o2 d2 g2 rN2 BD rD r2 b2 hW2 L1 HW h9 hM
 go_upto_region 2 with fail
 rw [← HW2.out]
 clear HW2
 generalize w1.heap.size = o at *
 refine AnyT.start (S := (fun w' => w'.cell? ⟨o, 0, none⟩ = some (.slice S sn sc) ∧ w'.cell? ⟨o, 1, none⟩ = some (.slice R rn rc))) (fun _ => false) (by kernel_rfl) ⟨c0, c1⟩ (fun hHeld => ?_)
 refine AnyT.take (i := 0) (v := ?_) rfl (by kernel_rfl) (by kernel_rfl) (by kernel_rfl) (by kernel_rfl) (fun _ _ _ h => h) (Or.inl ⟨by rfl, ?_⟩) (by assumption) ?_
 rotate_left 1
 ·(intro w0 hSw; (try dsimp only at hSw); go_simp; try with_reducible rfl)
 try simp only [Act.put, setIfInBounds_toArray, set_cons_zero, set_cons_succ, getElem_toArray, getElem_cons_zero, getElem_cons_succ]
 refine AnyT.takeA (i := 1) (v := ?_) rfl (by kernel_rfl) (by kernel_rfl) (by kernel_rfl) (fun _ _ _ h => h) (Or.inl ⟨by rfl, ?_⟩) ?_
 rotate_left 1
 ·(intro w0 _; go_simp; try with_reducible rfl)
 try simp only [Act.put, setIfInBounds_toArray, set_cons_zero, set_cons_succ, getElem_toArray, getElem_cons_zero, getElem_cons_succ]
 refine AnyT.take (i := 2) (v := ?_) rfl (by kernel_rfl) (by kernel_rfl) (by kernel_rfl) (by kernel_rfl) (fun _ _ _ h => h) (Or.inl ⟨by rfl, ?_⟩) (by assumption) ?_
 rotate_left 1
 ·(intro w0 hSw; (try dsimp only at hSw); go_simp; try with_reducible rfl)
 try simp only [Act.put, setIfInBounds_toArray, set_cons_zero, set_cons_succ, getElem_toArray, getElem_cons_zero, getElem_cons_succ]
 refine AnyT.call (i := 3) (by kernel_rfl) rfl (fun K hK => ?_)
 try simp only [Act.put, setIfInBounds_toArray, set_cons_zero, set_cons_succ, getElem_toArray, getElem_cons_zero, getElem_cons_succ]
 rw [if_pos (by rfl)]
 go_simp
 (go_at_call 106; refine LT.out.mono ?_; rintro e w3 ⟨O, on, oc, t, rfl, tR, tc1, tc2, tc3, t65, d3, g3⟩; have rM := Row.away HN2.out g3 (fun e => by injection e with e; omega); have rO := Row.away HR2.out g3 (fun e => by injection e with e; omega); have e0 : w3.cell? ⟨o, 0, none⟩ = some (.slice S sn sc) := rO.cell 0; have e1 : w3.cell? ⟨o, 1, none⟩ = some (.slice R rn rc) := rO.cell 1; go_wp2_with fail)
 refine hK.out _ _ (fun _ _ => ?_) (fun hKeep => ?_)
 ·exact ⟨e0, e1⟩
 replace hHeld := hKeep (by first | rfl | trivial) hHeld
 clear hK K hKeep
 try simp only [Act.put, setIfInBounds_toArray, set_cons_zero, set_cons_succ, getElem_toArray, getElem_cons_zero, getElem_cons_succ]
 have y0 : w3.cell? ⟨w.heap.size, 0, none⟩ = some (.slice none 0 0) := rM.cell 0
 have y1 : w3.cell? ⟨w.heap.size, 1, none⟩ = some (.slice none 0 0) := rM.cell 1
 have g0 := rM.free 0
 have g1 := rM.free 1
 have ra := rM.put 0 (.slice S sn sc)
 have y2 : (w3.setCell ⟨w.heap.size, 0, none⟩ (.slice S sn sc)).cell? ⟨w.heap.size, 1, none⟩ = some (.slice none 0 0) := ra.cell 1
 have g2 := ra.free 1
 have rb := ra.put 1 (.slice R rn rc)
 have u0 : ((w3.setCell ⟨w.heap.size, 0, none⟩ (.slice S sn sc)).setCell ⟨w.heap.size, 1, none⟩ (.slice R rn rc)).cell? ⟨w.heap.size, 0, none⟩ = some (.slice S sn sc) := rb.cell 0
 have u1 : ((w3.setCell ⟨w.heap.size, 0, none⟩ (.slice S sn sc)).setCell ⟨w.heap.size, 1, none⟩ (.slice R rn rc)).cell? ⟨w.heap.size, 1, none⟩ = some (.slice R rn rc) := rb.cell 1
 have T3 : St w p W.heap.size A n c S sn sc sg R rn rc D O on oc t w3 := ⟨outR_dice HS.out.1 g3, HMM.out.1, HS.out.2.1.dice g3 (by omega), HMM.out.2, tR, ⟨tc1, tc2, tc3⟩, t65, d3, HS.out.2.2.trans g3⟩
 have T4 := (T3.put (i := 0) (u := .slice S sn sc) rM zN (by omega) (Nat.le_refl _)).put (i := 1) (u := .slice R rn rc) ra zN (by omega) (Nat.le_refl _)
 have T5 : St w p w.heap.size A n c S sn sc sg R rn rc D O on oc t _ := ⟨T4.s, T4.h9, T4.own.lower (Nat.le_of_lt zN), T4.hM, T4.t, T4.ct, T4.h65, T4.di, T4.g⟩
 have F := hid (show AnsSysT w p A n c (.returned (.tuple #[.agg #[.slice S sn sc, .slice R rn rc], .slice O on oc])) ((w3.setCell ⟨w.heap.size, 0, none⟩ (.slice S sn sc)).setCell ⟨w.heap.size, 1, none⟩ (.slice R rn rc)) from ⟨_, _, _, _, _, _, _, _, _, _, _, _, rfl, T5⟩)
 have a0 := (rO.far (show o ≠ w.heap.size by omega) (p := ⟨w.heap.size, 0, none⟩) (.slice S sn sc)).far (show o ≠ w.heap.size by omega) (p := ⟨w.heap.size, 1, none⟩) (.slice R rn rc)
 have HA0 := hid a0
 clear T3 T4 T5 ra rb rM rO a0 tR tc1 tc2 tc3 d3 g3 HS HN2 HR2
 refine AnyT.call (i := 4) (by kernel_rfl) rfl (fun K hK => ?_)
 try simp only [Act.put, setIfInBounds_toArray, set_cons_zero, set_cons_succ, getElem_toArray, getElem_cons_zero, getElem_cons_succ]
 rw [if_pos (by rfl)]
 go_simp
 refine hK.out _ _ (fun _ _ => ?_) (fun hKeep => ?_)
 ·exact ⟨HA0.out.cell 0, HA0.out.cell 1⟩
 replace hHeld := hKeep (by first | rfl | trivial) hHeld
 clear hK K hKeep
 try simp only [Act.put, setIfInBounds_toArray, set_cons_zero, set_cons_succ, getElem_toArray, getElem_cons_zero, getElem_cons_succ]
 refine AnyT.takeA (i := 5) (v := ?_) rfl (by kernel_rfl) (by kernel_rfl) (by kernel_rfl) (fun _ _ _ h => h) (Or.inl ⟨by rfl, ?_⟩) ?_
 rotate_left 1
 ·(intro w0 _; go_simp; try with_reducible rfl)
 try simp only [Act.put, setIfInBounds_toArray, set_cons_zero, set_cons_succ, getElem_toArray, getElem_cons_zero, getElem_cons_succ]
 refine AnyT.done (by kernel_rfl) ?_ _
 clear e0 e1 c0 c1
 go_wp2
 exact bodyPost_ret (v := .tuple #[.agg #[.slice S sn sc, .slice R rn rc], .slice O on oc]) (by simp [results, Tryz.results76, go_sem, u0, u1]) rfl F.out
end drawL7
end
section
namespace lawS
open Go.RowKit base ints sig term marks app sym segs kinds shape kindsR same ruleSpec
set_option maxRecDepth 100000
structure Sy (w : World) (o : Nat) (S : Option Addr) (sn sc : Nat) (R : Option Addr) (rn rc : Nat) (d : Dat sSystem) (u : Value) (t : List Int) (wr : World) : Prop where
 s : Rd wr wr.heap.size sSystem [.slice S sn sc, .slice R rn rc] d
 t : Rd wr wr.heap.size sI [u] t
 r : Row wr o 29 #[.slice S sn sc, .slice R rn rc]
 b : Below w.heap.size w wr
section
variable {w : World} {o : Nat} {S : Option Addr} {sn sc : Nat} {R : Option Addr} {rn rc : Nat} {d : Dat sSystem} {u : Value} {t : List Int} {wr w' : World}
theorem Sy.next (h : Sy w o S sn sc R rn rc d u t wr) (hb : Below wr.heap.size wr w') : Sy w o S sn sc R rn rc d u t w' := ⟨h.s.next hb, h.t.next hb, h.r.next hb, next_trans h.b hb⟩
theorem Sy.drew (h : Sy w o S sn sc R rn rc d u t wr) : Sy w o S sn sc R rn rc d u t wr.drew := h.next (drew_below wr)
theorem Sy.c0 (h : Sy w o S sn sc R rn rc d u t wr) : wr.cell? ⟨o, 0, none⟩ = some (.slice S sn sc) := h.r.cell 0
theorem Sy.c1 (h : Sy w o S sn sc R rn rc d u t wr) : wr.cell? ⟨o, 1, none⟩ = some (.slice R rn rc) := h.r.cell 1
end
end lawS
end
section
open Go.Lib (hid)
open List (setIfInBounds_toArray set_cons_zero set_cons_succ getElem_toArray getElem_cons_zero getElem_cons_succ)
namespace drawL8
open Go.RowKit base ruleMath ruleSpec ints sig term termOk termFacts cursor marks app appAt sym segs segsHelp kinds dice drawTerm drawAny drawSub drawTwo drawX drawRule drawKnown drawSys drawSysD drawL7 heldT
open shape (Sh Dat nc dft sI sz sz_ints rd_ints)
open kindsR (sRule sSystem sRuleS sSig)
set_option maxRecDepth 100000
theorem min60 (w : World) : Calls Tryz.prog 150 #[.int .i64 60, .int .i64 4] w fun e w' => w = w' ∧ e = .returned (.int .i64 4) := by
 go_enter Tryz.func150, Tryz.ntmps150
 go_wp2
 go_ret
 exact ⟨rfl, rfl⟩
set_option maxHeartbeats 1000000 in
theorem num60 (p : Nat) (A : Option Addr) (n c : Nat) (w : World) (hd : Dice w p A n c) :
  Calls Tryz.prog 123 #[.pointer (some ⟨p, 0, none⟩), .int .i64 60] w (AnsAny w p A n c) := by
 have L := hid (once p A n c 10 w hd (by omega) (by omega))
 go_enter Tryz.func123, Tryz.ntmps123
 go_wp2_with fail
 refine L.out.mono ?_
 rintro e w1 ⟨b, rfl, d1, g1⟩
 have HG := hid g1
 clear L g1
 cases b with
 | true =>
  go_wp2_with fail
  refine (odd p A n c w1 d1).mono ?_
  rintro e w2 ⟨y, rfl, d2, g2⟩
  have HG2 := hid (HG.out.trans g2)
  obtain ⟨W, hW⟩ : ∃ W, W = w2.alloc (.cells #[.int .i64 (-1), .int .i64 60, .int .i64 61, .int .i64 y] 2) := ⟨_, rfl⟩
  have r3 : Row W w2.heap.size 2 #[.int .i64 (-1), .int .i64 60, .int .i64 61, .int .i64 y] := by rw [hW]; exact Row.new _ _ _
  have b3 : Below w2.heap.size w2 W := by rw [hW]; exact (Below.refl _ _).alloc (Nat.le_refl _) _
  have d3 := d2.next b3
  have hp2 := d2.lt
  have HW := hid hW
  clear g2 HG d1 d2 hW
  have L4 := hid (below p A n c 4 W d3 (by omega) (by omega))
  go_wp2_with fail
  rw [← HW.out]
  refine L4.out.mono ?_
  rintro e w4 ⟨x, rfl, x0, x1, d4, g4⟩
  have r4 := Row.away r3 g4 (fun e => by injection e with e; omega)
  have HG4 := hid ((HG2.out.trans (grown_of_below b3 (some p))).trans g4)
  have HD4 := hid d4
  have q0 : w4.cell? ⟨w2.heap.size, 0, none⟩ = some (.int .i64 (-1)) := r4.cell 0
  have q1 : w4.cell? ⟨w2.heap.size, 1, none⟩ = some (.int .i64 60) := r4.cell 1
  have q2 : w4.cell? ⟨w2.heap.size, 2, none⟩ = some (.int .i64 61) := r4.cell 2
  have q3 : w4.cell? ⟨w2.heap.size, 3, none⟩ = some (.int .i64 y) := r4.cell 3
  have hx : x = 0 ∨ x = 1 ∨ x = 2 ∨ x = 3 := by omega
  clear x0 x1 d4 g4 r4 r3 b3 d3 HW L4 HG2
  rcases hx with rfl | rfl | rfl | rfl <;> (go_wp2; go_ret; exact ⟨_, rfl, HD4.out, HG4.out⟩)
 | false =>
  go_wp2_with fail
  refine (once p A n c 2 w1 d1 (by omega) (by omega)).mono ?_
  rintro e w2 ⟨b2, rfl, d2, g2⟩
  have HG2 := hid (HG.out.trans g2)
  clear g2 d1 HG
  cases b2 with
  | true =>
   go_wp2_with fail
   refine (min60 w2).mono ?_
   rintro e w3 ⟨rfl, rfl⟩
   go_wp2_with fail
   refine (below p A n c 5 w2 d2 (by omega) (by omega)).mono ?_
   rintro e w4 ⟨x, rfl, -, -, d4, g4⟩
   have F := hid (show AnsAny w p A n c (.returned (.int .i64 x)) w4 from ⟨x, rfl, d4, HG2.out.trans g4⟩)
   clear d4 g4 HG2 d2
   go_wp2
   go_ret
   exact F.out
  | false =>
   go_wp2_with fail
   refine (below p A n c 61 w2 d2 (by omega) (by omega)).mono ?_
   rintro e w4 ⟨x, rfl, -, -, d4, g4⟩
   have F := hid (show AnsAny w p A n c (.returned (.int .i64 x)) w4 from ⟨x, rfl, d4, HG2.out.trans g4⟩)
   clear d4 g4 HG2 d2
   go_wp2
   go_ret
   exact F.out
set_option maxHeartbeats 1000000 in
theorem drawStrategy (p : Nat) (A : Option Addr) (n c : Nat) (w : World) (hd : Dice w p A n c) :
  Calls Tryz.prog 86 #[.pointer (some ⟨p, 0, none⟩)] w (AnsDraw w p A n c 0 4) := by
 have L := hid (once p A n c 15 w hd (by omega) (by omega))
 go_enter Tryz.func86, Tryz.ntmps86
 go_wp2_with fail
 refine L.out.mono ?_
 rintro e w1 ⟨b, rfl, d1, g1⟩
 have HG := hid g1
 clear L g1
 cases b with
 | true =>
  go_wp2_with fail
  refine (fromTo p A n c 0 4 w1 d1 (by omega) (by omega) (by omega) (by omega)).mono ?_
  rintro e w2 ⟨x, rfl, x0, x1, d2, g2⟩
  have F := hid (show AnsDraw w p A n c 0 4 (.returned (.int .i64 x)) w2 from ⟨x, rfl, x0, x1, d2, HG.out.trans g2⟩)
  clear x0 x1 d2 g2 HG d1
  go_wp2
  go_ret
  exact F.out
 | false =>
  go_wp2_with fail
  refine (below p A n c 3 w1 d1 (by omega) (by omega)).mono ?_
  rintro e w2 ⟨x, rfl, x0, x1, d2, g2⟩
  have F := hid (show AnsDraw w p A n c 0 4 (.returned (.int .i64 (1 + x))) w2 from ⟨1 + x, rfl, by omega, by omega, d2, HG.out.trans g2⟩)
  clear d2 g2 HG d1
  go_wp2
  go_ret
  exact F.out
set_option maxHeartbeats 1000000 in
theorem drawFuel (p : Nat) (A : Option Addr) (n c : Nat) (w : World) (hd : Dice w p A n c) :
  Calls Tryz.prog 87 #[.pointer (some ⟨p, 0, none⟩)] w (AnsAny w p A n c) := by
 have L := hid (once p A n c 8 w hd (by omega) (by omega))
 go_enter Tryz.func87, Tryz.ntmps87
 go_wp2_with fail
 refine L.out.mono ?_
 rintro e w1 ⟨b, rfl, d1, g1⟩
 have HG := hid g1
 clear L g1
 cases b with
 | true =>
  go_wp2_with fail
  refine (num60 p A n c w1 d1).mono ?_
  rintro e w2 ⟨x, rfl, d2, g2⟩
  have F := hid (show AnsAny w p A n c (.returned (.int .i64 x)) w2 from ⟨x, rfl, d2, HG.out.trans g2⟩)
  clear d2 g2 HG d1
  go_wp2
  go_ret
  exact F.out
 | false =>
  go_wp2_with fail
  refine (below p A n c 12 w1 d1 (by omega) (by omega)).mono ?_
  rintro e w2 ⟨x, rfl, x0, x1, d2, g2⟩
  have F := hid (show AnsAny w p A n c (.returned (.int .i64 x)) w2 from ⟨x, rfl, d2, HG.out.trans g2⟩)
  clear x0 x1 d2 g2 HG d1
  go_wp2
  go_ret
  exact F.out
def AnsS4 (w : World) (p : Nat) (A : Option Addr) (n c : Nat) (e : Ending) (w' : World) : Prop :=
 ∃ S sn sc sg R rn rc D O on oc t s f, e = .returned (.tuple #[.agg #[.slice S sn sc, .slice R rn rc], .slice O on oc, .int .i64 s, .int .i64 f]) ∧ 0 ≤ s ∧ s ≤ 4 ∧ St w p w.heap.size A n c S sn sc sg R rn rc D O on oc t w'
set_option maxHeartbeats 4000000 in
theorem l8Draw (p : Nat) (A : Option Addr) (n c : Nat) (w : World) (hd : Dice w p A n c) :
  Calls Tryz.prog 34 #[.pointer (some ⟨p, 0, none⟩)] w (AnsS4 w p A n c) := by
 obtain ⟨W, hW, rN, bel⟩ := box1 w 29 #[.slice none 0 0, .slice none 0 0]
 have hpw := hd.lt
 have L1 := hid (l7Draw p A n c W (hd.next bel))
 have HW := hid hW
 have g0 := grown_of_below bel (some p)
 have zN : w.heap.size < W.heap.size := rN.lt
 clear hW hd
 go_enter Tryz.func34, Tryz.ntmps34
 go_wp2_with fail
 rw [← HW.out]
 refine L1.out.mono ?_
 rintro e w1 ⟨S, sn, sc, sg, R, rn, rc, D, O, on, oc, t, rfl, T⟩
 have rN1 := Row.away rN T.g (fun e => by injection e with e; omega)
 have zW1 : W.heap.size ≤ w1.heap.size := T.g.size
 obtain ⟨W2, hW2, r2, b2⟩ := box1 w1 29 #[.slice S sn sc, .slice R rn rc]
 have T2 := T.next b2
 have rN2 := rN1.next b2
 have zo : w1.heap.size < W2.heap.size := r2.lt
 have HW2 := hid hW2
 have LS := hid (drawStrategy p A n c W2 T2.di)
 have HP := hid (show St W p W.heap.size A n c S sn sc sg R rn rc D O on oc t W2 ∧ Row W2 w.heap.size 29 #[.slice none 0 0, .slice none 0 0] ∧ Row W2 w1.heap.size 29 #[.slice S sn sc, .slice R rn rc] ∧ w.grownBy W (some p) from ⟨T2, rN2, r2, g0⟩)
 clear T T2 rN1 rN2 rN b2 r2 hW2 L1 HW bel g0
 go_wp2_with fail
 rw [← HW2.out]
 refine LS.out.mono ?_
 rintro e w4 ⟨s, rfl, s0, s4, d4, g4⟩
 have BD := drew_below w4
 have HQ := hid (show St W p W.heap.size A n c S sn sc sg R rn rc D O on oc t w4.drew ∧ Row w4.drew w.heap.size 29 #[.slice none 0 0, .slice none 0 0] ∧ Row w4.drew w1.heap.size 29 #[.slice S sn sc, .slice R rn rc] ∧ w.grownBy W (some p) from
  ⟨(HP.out.1.dice d4 g4 (by omega)).next BD, (Row.away HP.out.2.1 g4 (fun e => by injection e with e; omega)).next BD, (Row.away HP.out.2.2.1 g4 (fun e => by injection e with e; omega)).next BD, HP.out.2.2.2⟩)
 have LF := hid (drawFuel p A n c w4.drew HQ.out.1.di)
 have c0 : w4.drew.cell? ⟨w1.heap.size, 0, none⟩ = some (.slice S sn sc) := HQ.out.2.2.1.cell 0
 have c1 : w4.drew.cell? ⟨w1.heap.size, 1, none⟩ = some (.slice R rn rc) := HQ.out.2.2.1.cell 1
 have HS := hid (And.intro s0 s4)
 clear s0 s4 d4 g4 BD HP HW2 LS
 go_upto_region 3 with fail
 generalize w1.heap.size = o at *
 refine AnyT.start (S := (fun w' => w'.cell? ⟨o, 0, none⟩ = some (.slice S sn sc) ∧ w'.cell? ⟨o, 1, none⟩ = some (.slice R rn rc))) (fun _ => false) (by kernel_rfl) ⟨c0, c1⟩ (fun hHeld => ?_)
 refine AnyT.take (i := 0) (v := ?_) rfl (by kernel_rfl) (by kernel_rfl) (by kernel_rfl) (by kernel_rfl) (fun _ _ _ h => h) (Or.inl ⟨by rfl, ?_⟩) (by assumption) ?_
 rotate_left 1
 ·(intro w0 hSw; (try dsimp only at hSw); go_simp; try with_reducible rfl)
 try simp only [Act.put, setIfInBounds_toArray, set_cons_zero, set_cons_succ, getElem_toArray, getElem_cons_zero, getElem_cons_succ]
 refine AnyT.takeA (i := 1) (v := ?_) rfl (by kernel_rfl) (by kernel_rfl) (by kernel_rfl) (fun _ _ _ h => h) (Or.inl ⟨by rfl, ?_⟩) ?_
 rotate_left 1
 ·(intro w0 _; go_simp; try with_reducible rfl)
 try simp only [Act.put, setIfInBounds_toArray, set_cons_zero, set_cons_succ, getElem_toArray, getElem_cons_zero, getElem_cons_succ]
 refine AnyT.takeA (i := 2) (v := ?_) rfl (by kernel_rfl) (by kernel_rfl) (by kernel_rfl) (fun _ _ _ h => h) (Or.inl ⟨by rfl, ?_⟩) ?_
 rotate_left 1
 ·(intro w0 _; go_simp; try with_reducible rfl)
 try simp only [Act.put, setIfInBounds_toArray, set_cons_zero, set_cons_succ, getElem_toArray, getElem_cons_zero, getElem_cons_succ]
 refine AnyT.takeA (i := 3) (v := ?_) rfl (by kernel_rfl) (by kernel_rfl) (by kernel_rfl) (fun _ _ _ h => h) (Or.inl ⟨by rfl, ?_⟩) ?_
 rotate_left 1
 ·(intro w0 _; go_simp; try with_reducible rfl)
 try simp only [Act.put, setIfInBounds_toArray, set_cons_zero, set_cons_succ, getElem_toArray, getElem_cons_zero, getElem_cons_succ]
 refine AnyT.call (i := 4) (by kernel_rfl) rfl (fun K hK => ?_)
 try simp only [Act.put, setIfInBounds_toArray, set_cons_zero, set_cons_succ, getElem_toArray, getElem_cons_zero, getElem_cons_succ]
 rw [if_pos (by rfl)]
 go_simp
 (go_at_call 87; refine LF.out.mono ?_; rintro e w3 ⟨f, rfl, d3, g3⟩; have rM := Row.away HQ.out.2.1 g3 (fun e => by injection e with e; omega); have rO := Row.away HQ.out.2.2.1 g3 (fun e => by injection e with e; omega); have e0 : w3.cell? ⟨o, 0, none⟩ = some (.slice S sn sc) := rO.cell 0; have e1 : w3.cell? ⟨o, 1, none⟩ = some (.slice R rn rc) := rO.cell 1; go_wp2_with fail)
 refine hK.out _ _ (fun _ _ => ?_) (fun hKeep => ?_)
 ·exact ⟨e0, e1⟩
 replace hHeld := hKeep (by first | rfl | trivial) hHeld
 clear hK K hKeep
 try simp only [Act.put, setIfInBounds_toArray, set_cons_zero, set_cons_succ, getElem_toArray, getElem_cons_zero, getElem_cons_succ]
 have y0 : w3.cell? ⟨w.heap.size, 0, none⟩ = some (.slice none 0 0) := rM.cell 0
 have y1 : w3.cell? ⟨w.heap.size, 1, none⟩ = some (.slice none 0 0) := rM.cell 1
 have g0 := rM.free 0
 have g1 := rM.free 1
 have ra := rM.put 0 (.slice S sn sc)
 have y2 : (w3.setCell ⟨w.heap.size, 0, none⟩ (.slice S sn sc)).cell? ⟨w.heap.size, 1, none⟩ = some (.slice none 0 0) := ra.cell 1
 have g2 := ra.free 1
 have rb := ra.put 1 (.slice R rn rc)
 have u0 : ((w3.setCell ⟨w.heap.size, 0, none⟩ (.slice S sn sc)).setCell ⟨w.heap.size, 1, none⟩ (.slice R rn rc)).cell? ⟨w.heap.size, 0, none⟩ = some (.slice S sn sc) := rb.cell 0
 have u1 : ((w3.setCell ⟨w.heap.size, 0, none⟩ (.slice S sn sc)).setCell ⟨w.heap.size, 1, none⟩ (.slice R rn rc)).cell? ⟨w.heap.size, 1, none⟩ = some (.slice R rn rc) := rb.cell 1
 have T3 : St W p W.heap.size A n c S sn sc sg R rn rc D O on oc t w3 := HQ.out.1.dice d3 g3 (by omega)
 have T3' : St w p W.heap.size A n c S sn sc sg R rn rc D O on oc t w3 := T3.from HQ.out.2.2.2
 have T4 := (T3'.put (i := 0) (u := .slice S sn sc) rM zN (by omega) (Nat.le_refl _)).put (i := 1) (u := .slice R rn rc) ra zN (by omega) (Nat.le_refl _)
 have T5 : St w p w.heap.size A n c S sn sc sg R rn rc D O on oc t _ := ⟨T4.s, T4.h9, T4.own.lower (Nat.le_of_lt zN), T4.hM, T4.t, T4.ct, T4.h65, T4.di, T4.g⟩
 have F := hid (show AnsS4 w p A n c (.returned (.tuple #[.agg #[.slice S sn sc, .slice R rn rc], .slice O on oc, .int .i64 s, .int .i64 f])) ((w3.setCell ⟨w.heap.size, 0, none⟩ (.slice S sn sc)).setCell ⟨w.heap.size, 1, none⟩ (.slice R rn rc)) from ⟨_, _, _, _, _, _, _, _, _, _, _, _, _, _, rfl, HS.out.1, HS.out.2, T5⟩)
 have a0 := (rO.far (show o ≠ w.heap.size by omega) (p := ⟨w.heap.size, 0, none⟩) (.slice S sn sc)).far (show o ≠ w.heap.size by omega) (p := ⟨w.heap.size, 1, none⟩) (.slice R rn rc)
 have HA0 := hid a0
 clear T3 T3' T4 T5 ra rb rM rO a0 d3 g3 HQ
 refine AnyT.call (i := 5) (by kernel_rfl) rfl (fun K hK => ?_)
 try simp only [Act.put, setIfInBounds_toArray, set_cons_zero, set_cons_succ, getElem_toArray, getElem_cons_zero, getElem_cons_succ]
 rw [if_pos (by rfl)]
 go_simp
 refine hK.out _ _ (fun _ _ => ?_) (fun hKeep => ?_)
 ·exact ⟨HA0.out.cell 0, HA0.out.cell 1⟩
 replace hHeld := hKeep (by first | rfl | trivial) hHeld
 clear hK K hKeep
 try simp only [Act.put, setIfInBounds_toArray, set_cons_zero, set_cons_succ, getElem_toArray, getElem_cons_zero, getElem_cons_succ]
 refine AnyT.takeA (i := 6) (v := ?_) rfl (by kernel_rfl) (by kernel_rfl) (by kernel_rfl) (fun _ _ _ h => h) (Or.inl ⟨by rfl, ?_⟩) ?_
 rotate_left 1
 ·(intro w0 _; go_simp; try with_reducible rfl)
 try simp only [Act.put, setIfInBounds_toArray, set_cons_zero, set_cons_succ, getElem_toArray, getElem_cons_zero, getElem_cons_succ]
 refine AnyT.takeA (i := 7) (v := ?_) rfl (by kernel_rfl) (by kernel_rfl) (by kernel_rfl) (fun _ _ _ h => h) (Or.inl ⟨by rfl, ?_⟩) ?_
 rotate_left 1
 ·(intro w0 _; go_simp; try with_reducible rfl)
 try simp only [Act.put, setIfInBounds_toArray, set_cons_zero, set_cons_succ, getElem_toArray, getElem_cons_zero, getElem_cons_succ]
 refine AnyT.takeA (i := 8) (v := ?_) rfl (by kernel_rfl) (by kernel_rfl) (by kernel_rfl) (fun _ _ _ h => h) (Or.inl ⟨by rfl, ?_⟩) ?_
 rotate_left 1
 ·(intro w0 _; go_simp; try with_reducible rfl)
 try simp only [Act.put, setIfInBounds_toArray, set_cons_zero, set_cons_succ, getElem_toArray, getElem_cons_zero, getElem_cons_succ]
 refine AnyT.done (by kernel_rfl) ?_ _
 clear e0 e1 c0 c1
 go_wp2
 exact bodyPost_ret (v := .tuple #[.agg #[.slice S sn sc, .slice R rn rc], .slice O on oc, .int .i64 s, .int .i64 f]) (by simp [results, Tryz.results34, go_sem, u0, u1]) rfl F.out
def AnsST4 (w : World) (e : Ending) (w' : World) : Prop :=
 ∃ S sn sc R rn rc d O on oc t s f, e = .returned (.tuple #[.agg #[.slice S sn sc, .slice R rn rc], .slice O on oc, .int .i64 s, .int .i64 f]) ∧ 0 ≤ s ∧ s ≤ 4 ∧ Go.Proofs.YtmoidijngeijkaaGreat.shape.Rd w' w'.heap.size sSystem [.slice S sn sc, .slice R rn rc] d ∧ Go.Proofs.YtmoidijngeijkaaGreat.shape.sz sSystem d ≤ 2000 ∧ Go.Proofs.YtmoidijngeijkaaGreat.shape.Rd w' w'.heap.size sI [.slice O on oc] t ∧ List.length t ≤ 65 ∧ Below w.heap.size w w'
set_option maxHeartbeats 2000000 in
theorem drawWalkBy (A : Option Addr) (n c : Nat) (w : World) (h : SegB w w.heap.size A n) (hn : n ≤ 4096) :
  Calls Tryz.prog 7 #[.slice A n c] w (AnsST4 w) := by
 obtain ⟨W, hW, rN, b0⟩ := box1 w 29 #[.slice none 0 0, .slice none 0 0]
 have h0 : SegB W W.heap.size A n := fun hp => by
  obtain ⟨b, off, e, hb, hc⟩ := h hp
  refine ⟨b, off, e, Nat.lt_of_lt_of_le hb b0.size, fun j hj => ?_⟩
  obtain ⟨x, x0, x1, hx⟩ := hc j hj
  exact ⟨x, x0, x1, (b0.cell (p := ⟨b, off + j, none⟩) hb).trans hx⟩
 have L := hid (new_ A n c W h0 hn)
 have HW := hid hW
 clear h h0 hW
 go_enter Tryz.func7, Tryz.ntmps7
 go_wp2_with fail
 rw [← HW.out]
 refine L.out.mono ?_
 rintro e w1 ⟨p, rfl, hp, d1, bb⟩
 have hNp : w.heap.size < p := Nat.lt_of_lt_of_le rN.lt hp
 replace rN := rN.next bb
 have bel := next_trans b0 bb
 have L2 := hid (l8Draw p A n c w1 d1)
 have hp1 := d1.lt
 clear d1 bb b0 L HW
 go_wp2_with fail
 refine L2.out.mono ?_
 rintro e w2 ⟨S, sn, sc, sg, R, rn, rc, D, O, on, oc, t, s, f, rfl, s0, s4, T⟩
 have hz := rN.lt
 have rM := Row.away rN T.g (fun e => by injection e with e; omega)
 have bel2 : Below w.heap.size w w2 := bel.grown T.g bel.size (fun k hk => by injection hk with hk; omega)
 have y0 : w2.cell? ⟨w.heap.size, 0, none⟩ = some (.slice none 0 0) := rM.cell 0
 have y1 : w2.cell? ⟨w.heap.size, 1, none⟩ = some (.slice none 0 0) := rM.cell 1
 have g0 := rM.free 0
 have g1 := rM.free 1
 have ra := rM.put 0 (.slice S sn sc)
 have y2 : (w2.setCell ⟨w.heap.size, 0, none⟩ (.slice S sn sc)).cell? ⟨w.heap.size, 1, none⟩ = some (.slice none 0 0) := ra.cell 1
 have g2 := ra.free 1
 have rb := ra.put 1 (.slice R rn rc)
 have u0 : ((w2.setCell ⟨w.heap.size, 0, none⟩ (.slice S sn sc)).setCell ⟨w.heap.size, 1, none⟩ (.slice R rn rc)).cell? ⟨w.heap.size, 0, none⟩ = some (.slice S sn sc) := rb.cell 0
 have u1 : ((w2.setCell ⟨w.heap.size, 0, none⟩ (.slice S sn sc)).setCell ⟨w.heap.size, 1, none⟩ (.slice R rn rc)).cell? ⟨w.heap.size, 1, none⟩ = some (.slice R rn rc) := rb.cell 1
 have T1 : St w1 p w1.heap.size A n c S sn sc sg R rn rc D O on oc t w2 := T
 have s2 := ints_put (ints_put T1.s rM 0 (.slice S sn sc)) ra 1 (.slice R rn rc)
 have hne : blk R ≠ some w.heap.size := fun e => by have := (T1.own.ge _ e).1; omega
 have o2 := ownQ_put (ownQ_put T1.own rM hne 0 (.slice S sn sc)) ra hne 1 (.slice R rn rc)
 have t2 := rdT_put (i := 1) (u := .slice R rn rc) (rdT_put (i := 0) (u := .slice S sn sc) T1.t rM) ra
 have F := hid (show AnsST4 w (.returned (.tuple #[.agg #[.slice S sn sc, .slice R rn rc], .slice O on oc, .int .i64 s, .int .i64 f])) ((w2.setCell ⟨w.heap.size, 0, none⟩ (.slice S sn sc)).setCell ⟨w.heap.size, 1, none⟩ (.slice R rn rc)) from
  ⟨_, _, _, _, _, _, ((sg, D) : List Int × List (Dat sRule)), _, _, _, t, s, f, rfl, s0, s4, RdQ.rd (Q := Out _ p) (fun b hb => hb.1) (RdQ.cat (ca := [_]) (cb := [_]) (s2.mono fun b hb => ⟨hb.1, hb.2.1⟩) (o2.rdq hp1)), T1.sz, rd_ints.2 ⟨O, on, oc, rfl, t2.seg, T1.ct⟩, by have := T1.t.1; have := T1.h65; omega, (bel2.setCell (p := ⟨w.heap.size, 0, none⟩) (Nat.le_refl _) _).setCell (p := ⟨w.heap.size, 1, none⟩) (Nat.le_refl _) _⟩)
 clear s0 s4 T T1 s2 o2 t2 ra rb rM rN bel bel2 L2
 go_wp2
 exact bodyPost_ret (v := .tuple #[.agg #[.slice S sn sc, .slice R rn rc], .slice O on oc, .int .i64 s, .int .i64 f]) (by simp [results, Tryz.results7, go_sem, u0, u1]) rfl F.out
end drawL8
end
section
namespace shape
open Go.RowKit base ints sig cursor marks app sym appAt segs segsHelp segsMark kinds
theorem Owned.num (w : World) (lo hi : Nat) (x : Int) : Owned w lo hi .num [.int .i64 x] x := ⟨[], ⟨rfl, rfl⟩, List.nodup_nil, fun k hk => by cases hk⟩
theorem Ow.num {w w' : World} {cs : List Value} {x : Int} {F : List Nat} (h : Ow w .num cs x F) (y : Int) : Ow w' .num [.int .i64 y] y F := ⟨rfl, h.2⟩
end shape
end
section
namespace kindsW
open Go.RowKit base ints sig cursor marks app sym appAt segs segsHelp segsMark kinds shape
set_option maxRecDepth 100000
abbrev sStep : Sh := .cat .num (.cat .num sI)
theorem parts_Step {w : World} {B : Nat} {v0 : Value} {d : Dat sStep} (h : Rd w B sStep [.int .i64 d.1, .int .i64 d.2.1, v0] d) : Rd w B .num [.int .i64 d.1] d.1 ∧ Rd w B .num [.int .i64 d.2.1] d.2.1 ∧ Rd w B sI [v0] d.2.2 := by
 obtain ⟨p0, q0⟩ := Rd.split (ca := [.int .i64 d.1]) (cb := [.int .i64 d.2.1, v0]) h rfl
 obtain ⟨p1, q1⟩ := Rd.split (ca := [.int .i64 d.2.1]) (cb := [v0]) q0 rfl
 exact ⟨p0, p1, q1⟩
theorem cells_Step {w : World} {B : Nat} {es : List Value} {d : Dat sStep} (h : Rd w B sStep es d) : ∃ (v0 : Value), es = [.int .i64 d.1, .int .i64 d.2.1, v0] := by
 obtain ⟨ca0, cb0, e0, p0, q0⟩ := h
 obtain ⟨ca1, cb1, e1, p1, q1⟩ := q0
 obtain ⟨A2, n2, c2, z2, -⟩ := q1
 exact ⟨.slice A2 n2 c2, by rw [e0, (show _ = _ from p0), e1, (show _ = _ from p1), z2] <;> rfl⟩
abbrev sStepS : Sh := .row 75 sStep
theorem info_StepS : (Tryz.prog.info? 75).map (fun i => (i.zero, i.size, i.bytes)) = some (some (.agg #[.int .i64 0, .int .i64 0, .slice none 0 0]), 3, 40) := by kernel_rfl
abbrev sWalk : Sh := .cat sI sStepS
theorem parts_Walk {w : World} {B : Nat} {v0 v1 : Value} {d : Dat sWalk} (h : Rd w B sWalk [v0, v1] d) : Rd w B sI [v0] d.1 ∧ Rd w B sStepS [v1] d.2 := by
 obtain ⟨p0, q0⟩ := Rd.split (ca := [v0]) (cb := [v1]) h rfl
 exact ⟨p0, q0⟩
end kindsW
end
section
namespace lawT
open Go.RowKit base ints segs
set_option maxRecDepth 100000
structure T1 (w : World) (v3 : Nat) (S : Option Addr) (sn sc : Nat) (sg : List Int) (O : Option Addr) (on : Nat) (p : List Int) (Q : Option Addr) (qn : Nat) (t : List Int) (wr : World) : Prop where
 s : Seg wr wr.heap.size S sn sg
 o : Seg wr wr.heap.size O on p
 q : Seg wr wr.heap.size Q qn t
 r3 : Row wr v3 26 #[.slice S sn sc]
 bel : Below w.heap.size w wr
section
variable {w : World} {v3 : Nat} {S : Option Addr} {sn sc : Nat} {sg : List Int} {O : Option Addr} {on : Nat} {p : List Int} {Q : Option Addr} {qn : Nat} {t : List Int} {wr w' : World}
theorem T1.next (f : T1 w v3 S sn sc sg O on p Q qn t wr) (hb : Below wr.heap.size wr w') : T1 w v3 S sn sc sg O on p Q qn t w' :=
 ⟨f.s.next hb, f.o.next hb, f.q.next hb, f.r3.next hb, next_trans f.bel hb⟩
end
structure Sv (wr : World) (v : Nat) (D : Option Addr) (dn dc : Nat) (xss : List (List Int)) : Prop where
 r : Row wr v 51 #[.slice D dn dc]
 s : Segs wr wr.heap.size D dn xss
section
variable {v : Nat} {D : Option Addr} {dn dc : Nat} {xss : List (List Int)} {wr w' : World}
theorem Sv.next (f : Sv wr v D dn dc xss) (hb : Below wr.heap.size wr w') : Sv w' v D dn dc xss := ⟨f.r.next hb, f.s.next hb⟩
end
theorem below_drewN (w : World) (d : Nat) : Below w.heap.size w (w.drewN d) := ⟨rfl, rfl, rfl, Nat.le_refl _, fun _ _ => rfl⟩
theorem like (A A' : Option Addr) (n c c' : Nat) (xs : List Int) (w : World) (h : Seg w w.heap.size A n xs) (h' : Seg w w.heap.size A' n xs) (hn : n ≤ 1048576) :
  Calls Tryz.prog 43 #[.slice A n c, .slice A' n c'] w fun e w' => e = .returned (.bool true) ∧ ∃ d, w' = w.drewN d := by
 go_enter Tryz.func43, Tryz.ntmps43
 go_wp2
 go_loopw [5] (fun i wr => ∃ k d : Nat, k ≤ n ∧ i = .int .i64 k ∧ wr = w.drewN d) (fun i _ => n - (intOf i).toNat)
 case atStart => exact ⟨0, 0, Nat.zero_le _, rfl, rfl⟩
 case round =>
  obtain ⟨k, d, hk, rfl, rfl⟩ := hrel
  by_cases hlt : k < n
  ·obtain ⟨b, off, x, rfl, -, hx, ex⟩ := h.spot hlt
   obtain ⟨b', off', y, rfl, -, hy, ey⟩ := h'.spot hlt
   obtain rfl : x = y := by rw [← ex.out, ← ey.out]
   clear h h' ex ey
   go_wp2
   go_quiet (fail)
   go_wp2
   go_roundw
   case rel => exact ⟨k + 1, _, hlt, by simp, rfl⟩
   case measure => simp [intOf]; omega
  ·clear h h'
   go_wp2
   go_ret
   exact ⟨rfl, _, rfl⟩
end lawT
end
section
open Go.Lib (hid)
namespace w5
open Go.RowKit base ints sig cursor marks app sym appAt segs segsHelp segsMark kinds shape kindsW lawT
set_option maxRecDepth 100000
theorem likeYes (A A' : Option Addr) (n n' c c' : Nat) (xs : List Int) (w : World) (h : Seg w w.heap.size A n xs) (h' : Seg w w.heap.size A' n' xs) (hn : n ≤ 1048576) :
  Calls Tryz.prog 43 #[.slice A n c, .slice A' n' c'] w fun e w' => e = .returned (.bool true) ∧ Below w.heap.size w w' := by
 obtain rfl : n = n' := by rw [← h.1, ← h'.1]
 exact (like A A' n c c' xs w h h' hn).mono fun _ _ ⟨e, d, hw⟩ => ⟨e, by rw [hw]; exact drewN_below w d⟩
set_option maxHeartbeats 2000000 in
theorem w5Yes (v u : Value) (D : List (Dat sStep)) (w : World) (h : Rd w w.heap.size sStepS [v] D) (h' : Rd w w.heap.size sStepS [u] D) (hz : sz sStepS D ≤ 1048576) :
  Calls Tryz.prog 10 #[v, u] w (Yes w) := by
 obtain ⟨A, c, rfl, hcap⟩ := h.slice
 obtain ⟨A', c', rfl, hcap'⟩ := h'.slice
 obtain ⟨n, hn⟩ : ∃ n, D.length = n := ⟨_, rfl⟩
 have hn1 : n ≤ 1048576 := by rw [← hn]; exact sz_len hz
 rw [hn] at h h' hcap hcap' ⊢
 have HN := hid hn
 have H := hid h
 have H' := hid h'
 have HZ := hid hz
 clear hcap hcap' hn h h' hz
 go_enter Tryz.func10, Tryz.ntmps10
 go_wp2
 go_loopw [5] (fun i wr => ∃ k : Nat, k ≤ n ∧ i = .int .i64 k ∧ Below w.heap.size w wr) (fun i _ => n - (intOf i).toNat)
 case atStart => exact ⟨0, Nat.zero_le _, rfl, Below.refl _ _⟩
 case round =>
  obtain ⟨k, hk, rfl, hb⟩ := hrel
  by_cases hlt : k < n
  ·have hkD : k < D.length := by rw [HN.out]; exact hlt
   obtain ⟨b, off, n2, c2, es, ev, -, -, hbB, hel, hp, hrd⟩ := H.out.elem hkD
   injection ev with e1 e2 e3
   subst e1 e2 e3
   obtain ⟨b', off', n2, c2, es', ev, -, -, hbB', hel', hp', hrd'⟩ := H'.out.elem hkD
   injection ev with e1 e2 e3
   subst e1 e2 e3
   obtain ⟨y, hy⟩ : ∃ y, D.getD k (dft sStep) = y := ⟨_, rfl⟩
   rw [hy] at hrd hrd'
   obtain ⟨v0, rfl⟩ := cells_Step hrd
   obtain ⟨u0, rfl⟩ := cells_Step hrd'
   obtain ⟨-, -, p2⟩ := parts_Step hrd
   obtain ⟨-, -, p2'⟩ := parts_Step hrd'
   obtain ⟨U, un, uc, rfl, hU, hcU⟩ := rd_ints.1 p2
   obtain ⟨U', un', uc', rfl, hU', hcU'⟩ := rd_ints.1 p2'
   have hun : un ≤ 1048576 := by
    have h1 := sz_each HZ.out hkD
    rw [hy] at h1
    have h2 : sz sStep y = 0 + (0 + sz sI y.2.2) := rfl
    rw [h2, sz_ints] at h1
    have := hU.1
    omega
   replace hb := hb.drew
   have hpw := hp.keep (w' := wr.drew) (fun p hp => hb.cell (p := p) (by rw [hp]; exact hbB))
   have hpw' := hp'.keep (w' := wr.drew) (fun p hp => hb.cell (p := p) (by rw [hp]; exact hbB'))
   have c0 : wr.drew.cell? ⟨b, off + k * 3, none⟩ = some (.int .i64 y.1) := hpw 0 (by simp)
   have c0' : wr.drew.cell? ⟨b', off' + k * 3, none⟩ = some (.int .i64 y.1) := hpw' 0 (by simp)
   have c1 : wr.drew.cell? ⟨b, off + k * 3 + 1, none⟩ = some (.int .i64 y.2.1) := hpw 1 (by simp)
   have c1' : wr.drew.cell? ⟨b', off' + k * 3 + 1, none⟩ = some (.int .i64 y.2.1) := hpw' 1 (by simp)
   have c2 : wr.drew.cell? ⟨b, off + k * 3 + 2, none⟩ = some (.slice U un uc) := hpw 2 (by simp)
   have c2' : wr.drew.cell? ⟨b', off' + k * 3 + 2, none⟩ = some (.slice U' un' uc') := hpw' 2 (by simp)
   have L := hid (likeYes U U' un un' uc uc' y.2.2 wr.drew ((hU.below hb).more hb.size) ((hU'.below hb).more hb.size) hun)
   have HB := hid hb
   have hlb : b < wr.drew.heap.size := Nat.lt_of_lt_of_le hbB hb.size
   have hlb' : b' < wr.drew.heap.size := Nat.lt_of_lt_of_le hbB' hb.size
   have i0 : (0 : Int) ≤ (k : Int) := by omega
   have i1 : (k : Int) < (n : Int) := by omega
   clear hrd hrd' hel hel' hp hp' hpw hpw' hb p2 p2' hU hU' hcU hcU' hy
   go_wp2_with fail
   go_region_held3 (fun w' => w'.cell? ⟨b, off + k * 3, none⟩ = some (.int .i64 y.1) ∧ w'.cell? ⟨b', off' + k * 3, none⟩ = some (.int .i64 y.1) ∧ w'.cell? ⟨b, off + k * 3 + 1, none⟩ = some (.int .i64 y.2.1) ∧ w'.cell? ⟨b', off' + k * 3 + 1, none⟩ = some (.int .i64 y.2.1) ∧ w'.cell? ⟨b, off + k * 3 + 2, none⟩ = some (.slice U un uc) ∧ w'.cell? ⟨b', off' + k * 3 + 2, none⟩ = some (.slice U' un' uc'))
    (go_keep)
    (first | (go_at_call 43; refine L.out.mono ?_; rintro e w1 ⟨rfl, bb⟩; have m0 := (bb.cell (p := ⟨b, off + k * 3, none⟩) hlb).trans c0; have m1 := (bb.cell (p := ⟨b', off' + k * 3, none⟩) hlb').trans c0'; have m2 := (bb.cell (p := ⟨b, off + k * 3 + 1, none⟩) hlb).trans c1; have m3 := (bb.cell (p := ⟨b', off' + k * 3 + 1, none⟩) hlb').trans c1'; have m4 := (bb.cell (p := ⟨b, off + k * 3 + 2, none⟩) hlb).trans c2; have m5 := (bb.cell (p := ⟨b', off' + k * 3 + 2, none⟩) hlb').trans c2'))
   have HB1 := hid (next_trans HB.out bb)
   clear bb L c0 c0' c1 c1' c2 c2' m0 m1 m2 m3 m4 m5
   go_wp2
   go_roundw
   case rel => exact ⟨k + 1, hlt, by simp, HB1.out⟩
   case measure => simp [intOf]; omega
  ·have HB := hid hb
   clear hb
   go_wp2
   go_ret
   exact ⟨rfl, HB.out⟩
end w5
end
section
open Go.Lib (hid)
namespace matchSpec
open Go.RowKit base ints sig same term termOk endAt inside marks app sym sub segs segsHelp termFacts termMath posMath plainMath plain plainOf gives cursor matchMath
set_option maxRecDepth 100000
structure Tab (w : World) (T : Nat) (s : List (List Int)) : Prop where
 len : s.length = 24
 row : ∃ cs, Row w T 24 cs ∧ cs.size = 24 ∧ ∀ j, j < 24 → ∃ A n c, cs[j]? = some (.slice A n c) ∧ Own w (T + 1) (.slice A n c) (s.getD j [])
section
variable {w w' : World} {T : Nat} {s : List (List Int)}
theorem Tab.next (h : Tab w T s) (hb : Below w.heap.size w w') : Tab w' T s := by
 obtain ⟨cs, hr, hs, hc⟩ := h.row
 exact ⟨h.len, cs, hr.next hb, hs, fun j hj => by obtain ⟨A, n, c, e, ho⟩ := hc j hj; exact ⟨A, n, c, e, Own.next ho hb⟩⟩
theorem Tab.at (h : Tab w T s) {j : Nat} (hj : j < 24) : ∃ A n c, w.cell? ⟨T, j, none⟩ = some (.slice A n c) ∧ Own w (T + 1) (.slice A n c) (s.getD j []) := by
 obtain ⟨cs, hr, hs, hc⟩ := h.row
 obtain ⟨A, n, c, e, ho⟩ := hc j hj
 exact ⟨A, n, c, by rw [hr.cell j, e], ho⟩
theorem Tab.free (h : Tab w T s) (j : Nat) : w.frozen? ⟨T, j, none⟩ = false := by obtain ⟨cs, hr, _⟩ := h.row; exact hr.free j
theorem Tab.put (h : Tab w T s) {j : Nat} (hj : j < 24) {A : Option Addr} {n c : Nat} {ys : List Int} (ho : Own w (T + 1) (.slice A n c) ys) : Tab (w.setCell ⟨T, j, none⟩ (.slice A n c)) T (s.set j ys) := by
 obtain ⟨cs, hr, hs, hc⟩ := h.row
 have hg : w.grownBy (w.setCell ⟨T, j, none⟩ (.slice A n c)) (some T) := grown_put (World.grownBy.refl _ _) _ _
 have far : ∀ {A' : Option Addr} {n' c' : Nat} {zs : List Int}, Own w (T + 1) (.slice A' n' c') zs → Own (w.setCell ⟨T, j, none⟩ (.slice A n c)) (T + 1) (.slice A' n' c') zs := fun h => Own.far h hg (fun k hk => by injection hk; omega)
 refine ⟨by rw [List.length_set]; exact h.len, cs.setIfInBounds j (.slice A n c), hr.put j _, by rw [Array.size_setIfInBounds]; exact hs, fun i hi => ?_⟩
 by_cases e : j = i
 ·subst e
  exact ⟨A, n, c, by rw [Array.getElem?_setIfInBounds_self_of_lt (by omega)], by rw [set_get, if_pos ⟨rfl, by rw [h.len]; exact hj⟩]; exact far ho⟩
 ·obtain ⟨A', n', c', e', ho'⟩ := hc i hi
  exact ⟨A', n', c', by rw [Array.getElem?_setIfInBounds_ne e]; exact e', by rw [set_get, if_neg (fun hh => e hh.1)]; exact far ho'⟩
theorem Tab.segs (h : Tab w T s) : Segs w w.heap.size (some ⟨T, 0, none⟩) 24 s := by
 obtain ⟨cs, hr, hs, hc⟩ := h.row
 refine ⟨h.len, fun _ => ⟨T, 0, rfl, hr.lt, fun j hj => ?_⟩⟩
 obtain ⟨A, n, c, e, ho⟩ := hc j hj
 refine ⟨A, n, c, by rw [Nat.zero_add, hr.cell j, e], ?_, ?_⟩
 ·have := Own.len ho; exact Own.seg ho
 ·rcases ho.form with ⟨e1, _⟩ | ⟨g, c', cur, e1, _, _, _, _⟩
  ·injection e1 with e1 e2 e3; subst e1 e2 e3; exact ⟨Nat.le_refl _, by omega, fun _ => rfl⟩
  ·exact look.own_cap ho
end
theorem Tab.new (w : World) : Tab (w.alloc (.cells (madeCells #[.slice none 0 0] 24) 24)) w.heap.size s0 := by
 refine ⟨rfl, _, Row.new _ _ _, size_madeCells _ _, fun j hj => ⟨none, 0, 0, ?_, by rw [s0_get]; exact Own.nil _ _⟩⟩
 simp [madeCells, hj, Nat.mod_one]
def resL (R : Option (List (List Int))) : List (List Int) := match R with
 | some s => plainL (givesL s) 24
 | none => []
def AnsM (w : World) (xss : List (List Int)) (b : Bool) (e : Ending) (w' : World) : Prop := ∃ A n c, e = .returned (.tuple #[.agg #[.slice A n c], .bool b]) ∧ Owns w' w.heap.size w'.heap.size A n c xss ∧ Below w.heap.size w w'
theorem ansM_no {w w' : World} {R : Option (List (List Int))} (h : R = none) (hb : Below w.heap.size w w') : AnsM w (resL R) R.isSome (.returned (.tuple #[.agg #[.slice none 0 0], .bool false])) w' :=
 ⟨none, 0, 0, by rw [h]; rfl, by rw [h]; exact Owns.nil _ _ _, hb⟩
structure Mt (w wr : World) (A : Option Addr) (n c : Nat) (sg : List Int) (P : Option Addr) (pn : Nat) (p : List Int) (Q : Option Addr) (m : Nat) (t : List Int) (s : List (List Int)) : Prop where
 r0 : Row wr w.heap.size 26 #[.slice A n c]
 r1 : Row wr (w.heap.size + 1) 51 #[.slice none 0 0]
 r3 : Row wr (w.heap.size + 1 + 1 + 1) 51 #[.slice (some ⟨w.heap.size + 1 + 1, 0, none⟩) 24 24]
 tb : Tab wr (w.heap.size + 1 + 1) s
 ss : Seg wr w.heap.size A n sg
 sp : Seg wr w.heap.size P pn p
 st : Seg wr w.heap.size Q m t
 b : Below w.heap.size w wr
section
variable {w wr w' : World} {A : Option Addr} {n c : Nat} {sg : List Int} {P : Option Addr} {pn : Nat} {p : List Int} {Q : Option Addr} {m : Nat} {t : List Int} {s : List (List Int)}
theorem Mt.next (h : Mt w wr A n c sg P pn p Q m t s) (hb : Below wr.heap.size wr w') : Mt w w' A n c sg P pn p Q m t s :=
 have b : Below w.heap.size wr w' := hb.mono h.b.size
 ⟨h.r0.next hb, h.r1.next hb, h.r3.next hb, h.tb.next hb, h.ss.below b, h.sp.below b, h.st.below b, h.b.trans b⟩
theorem Mt.put (h : Mt w wr A n c sg P pn p Q m t s) {j : Nat} (hj : j < 24) {D : Option Addr} {dn dc : Nat} {ys : List Int} (ho : Own wr (w.heap.size + 1 + 1 + 1) (.slice D dn dc) ys) : Mt w (wr.setCell ⟨w.heap.size + 1 + 1, j, none⟩ (.slice D dn dc)) A n c sg P pn p Q m t (s.set j ys) :=
 ⟨h.r0.far (show w.heap.size ≠ w.heap.size + 1 + 1 by omega) _, h.r1.far (show w.heap.size + 1 ≠ w.heap.size + 1 + 1 by omega) _, h.r3.far (show w.heap.size + 1 + 1 + 1 ≠ w.heap.size + 1 + 1 by omega) _, h.tb.put hj ho, h.ss.put (show w.heap.size ≤ w.heap.size + 1 + 1 by omega) _, h.sp.put (show w.heap.size ≤ w.heap.size + 1 + 1 by omega) _, h.st.put (show w.heap.size ≤ w.heap.size + 1 + 1 by omega) _, h.b.setCell (show w.heap.size ≤ w.heap.size + 1 + 1 by omega) _⟩
end
set_option maxHeartbeats 1000000 in
theorem l4Match (A P Q : Option Addr) (n c pn pc m mc : Nat) (sg p t : List Int) (w : World) (h : Seg w w.heap.size A n sg) (hp : Seg w w.heap.size P pn p) (ht : Seg w w.heap.size Q m t) (hn : n ≤ 1048576) (hpn : pn ≤ 60) (hm : m ≤ 60) (hmc : m ≤ mc) (hmc2 : mc ≤ 9223372036854775807)
  (hokp : termOkB sg p = true) (hokt : termOkB sg t = true) :
  Calls Tryz.prog 93 #[.agg #[.slice A n c], .slice P pn pc, .slice Q m mc] w (AnsM w (resL (mst sg t p 0 s0)) (mst sg t p 0 s0).isSome) := by
 obtain ⟨W0, hW0⟩ : ∃ W, W = (w.alloc (.cells #[.slice A n c] 26)).alloc (.cells #[.slice none 0 0] 51) := ⟨_, rfl⟩
 have z0 : W0.heap.size = w.heap.size + 1 + 1 := by rw [hW0]; simp
 obtain ⟨W, hW⟩ : ∃ W, W = (W0.alloc (.cells (madeCells #[.slice none 0 0] 24) 24)).alloc (.cells #[.slice (some ⟨w.heap.size + 1 + 1, 0, none⟩) 24 24] 51) := ⟨_, rfl⟩
 have b0 : Below w.heap.size w W0 := by rw [hW0]; exact ((Below.refl _ _).alloc (Nat.le_refl _) _).alloc (by simp) _
 have b1 : Below w.heap.size w W := by rw [hW]; exact (b0.alloc b0.size _).alloc (by simp; omega) _
 have hmk : ∀ W : World, (Instr.makeSlice 49 (.int .i64 24) (.int .i64 24)).run Tryz.prog W = .ok (.slice (some ⟨W.heap.size, 0, none⟩) 24 24) (W.alloc (.cells (madeCells #[.slice none 0 0] 24) 24)) := fun W => run_make_lists 24 (by omega) W
 have M0 : Mt w W A n c sg P pn p Q m t s0 := by
  refine ⟨?_, ?_, ?_, ?_, h.below b1, hp.below b1, ht.below b1, b1⟩
  ·rw [hW, hW0]; exact (((Row.new w _ _).alloc _).alloc _).alloc _
  ·rw [hW, hW0]
   have := (((Row.new (w.alloc (.cells #[.slice A n c] 26)) 51 #[.slice none 0 0]).alloc (.cells (madeCells #[.slice none 0 0] 24) 24)).alloc (.cells #[.slice (some ⟨w.heap.size + 1 + 1, 0, none⟩) 24 24] 51))
   simpa using this
  ·rw [hW]
   have := Row.new (W0.alloc (.cells (madeCells #[.slice none 0 0] 24) 24)) 51 #[.slice (some ⟨w.heap.size + 1 + 1, 0, none⟩) 24 24]
   have e : (W0.alloc (.cells (madeCells #[.slice none 0 0] 24) 24)).heap.size = w.heap.size + 1 + 1 + 1 := by simp; omega
   rwa [e] at this
  ·rw [hW]
   have := (Tab.new W0).next ((Below.refl _ _).alloc (Nat.le_refl _) (.cells #[.slice (some ⟨w.heap.size + 1 + 1, 0, none⟩) 24 24] 51))
   rwa [z0] at this
 have HW := hid hW
 have HW0 := hid hW0
 have HLP := hid hp.1
 have HLT := hid ht.1
 have HT := hid hokt
 have HPM : Hid (∀ i, i < pn → -24 ≤ p.getD i 0) := hid (fun i hi => (term_num hokp (by rw [hp.1]; exact hi)).1)
 have hars := (sig_arities (termOk_parts hokt).1).1
 obtain ⟨R, hR⟩ : ∃ R, mst sg t p 0 s0 = R := ⟨_, rfl⟩
 rw [hR]
 have HR := hid hR
 have HM0 := hid M0
 clear hW hW0 h hp ht b0 b1 M0 hokp hokt hR z0
 go_enter Tryz.func93, Tryz.ntmps93
 go_wp2_with fail
 clear hmk
 go_loopg [9, 10] pn (fun g k i wr => ∃ (k' i' : Nat) (s : List (List Int)), k = .int .i64 k' ∧ i = .int .i64 i' ∧ i' + g = pn ∧ k' ≤ m ∧ mst sg t (p.drop i') k' s = R ∧ (∀ j, (s.getD j []).length ≤ 60) ∧ Mt w wr A n c sg P pn p Q m t s)
 case atStart =>
  have hM := HM0.out
  rw [HW.out, HW0.out] at hM
  exact ⟨0, 0, s0, rfl, rfl, by omega, Nat.zero_le _, HR.out, fun j => by rw [s0_get]; simp, hM⟩
 case round =>
  obtain ⟨k, i, s, rfl, rfl, hi, hk, hmst, hs60, M⟩ := hrel
  clear HM0 HW HW0
  have HI := hid hi
  have HMS := hid hmst
  have HS60 := hid hs60
  clear hi hmst hs60
  by_cases hip : i < pn
  ·have hgk := hid (show gk - 1 < gk ∧ i + 1 + (gk - 1) = pn by have := HI.out; omega)
   obtain ⟨bp, op, x, rfl, hbp, hx, ex⟩ := M.sp.spot hip
   have hx24 := HPM.out i hip
   rw [ex.out] at hx24
   have HD := hid (show p.drop i = x :: p.drop (i + 1) by rw [drop_cons (by rw [HLP.out]; exact hip), ex.out])
   have cR : wr.cell? ⟨w.heap.size + 1, 0, none⟩ = some (.slice none 0 0) := M.r1.cell 0
   have fR : wr.frozen? ⟨w.heap.size + 1, 0, none⟩ = false := M.r1.free 0
   by_cases hkm : k < m
   ·obtain ⟨bt, ot, y, rfl, hbt, hy, ey⟩ := M.st.spot hkm
    have hkl : ¬ t.length ≤ k := by rw [HLT.out]; omega
    by_cases hx0 : 0 ≤ x
    ·by_cases hxy : x = y
     ·subst hxy
      have S := hid (show mst sg t (p.drop (i + 1)) (k + 1) s = R by rw [← HMS.out, HD.out, mst_sym hkl hx0 ey.out.symm])
      have HM := hid (fun d => M.next (below_drewN (Below.refl _ _) d))
      have hd : (x != x) = false := by simp
      clear M ex ey HD
      go_wp2
      go_quiet (fail)
      go_wp2
      go_roundg (gk - 1)
      case measure => exact hgk.out.1
      case rel => exact ⟨k + 1, i + 1, s, by simp, by simp, hgk.out.2, by omega, S.out, HS60.out, HM.out _⟩
     ·have HN := hid (show R = none by rw [← HMS.out, HD.out, mst_symNo hkl hx0 (by rw [ey.out]; exact hxy)])
      have HM := hid (fun d => M.next (below_drewN (Below.refl _ _) d))
      have hd : (x != y) = true := by simp [hxy]
      have F1 := hid (fun d => ansM_no (w := w) HN.out (below_drewN M.b d))
      have F2 := hid (fun d => ansM_no (w := w) HN.out ((below_drewN M.b d).setCell (p := ⟨w.heap.size + 1, 0, none⟩) (show w.heap.size ≤ w.heap.size + 1 by omega) (.slice none 0 0)))
      clear M ex ey HD HM
      go_wp2
      go_quiet (fail)
      go_wp2
      first
       | exact bodyPost_ret (v := .tuple #[.agg #[.slice none 0 0], .bool false]) (by simp [results, Tryz.results93, go_sem, cR]) rfl (F1.out _)
       | exact bodyPost_ret (v := .tuple #[.agg #[.slice none 0 0], .bool false]) (by simp [results, Tryz.results93, go_sem, cR]) rfl (F2.out _)
    ·obtain ⟨v, hv⟩ : ∃ v : Nat, x = -1 - (v : Int) := ⟨(-1 - x).toNat, by omega⟩
     subst hv
     have hv24 : v < 24 := by omega
     have hvr : vr (-1 - (v : Int)) = v := by unfold vr; omega
     obtain ⟨t1, t2, t3⟩ := term_at HT.out (show k < t.length by rw [HLT.out]; exact hkm)
     rw [HLT.out] at t3
     have hsl := (sub_len1 HT.out (show k < t.length by rw [HLT.out]; exact hkm)).1
     have cA : wr.cell? ⟨w.heap.size, 0, none⟩ = some (.slice A n c) := M.r0.cell 0
     have LS := hid (l1Sub A (some ⟨bt, ot, none⟩) n c m mc sg t k (len1 sg t k) wr (M.ss.more M.b.size) (M.st.more M.b.size) hn (by omega) hmc hmc2 hars hkm t1 t2 t3)
     obtain ⟨ys, hys⟩ : ∃ ys, subL sg t k = ys := ⟨_, rfl⟩
     rw [hys] at LS hsl
     have HYS := hid hys
     have hyl : k + ys.length ≤ m := by rw [hsl]; exact t3
     have hyl60 : ys.length ≤ 60 := by omega
     have hwr := M.b.size
     have hw3 := M.r3.lt
     clear hys t1 t2 t3 hsl hy ey cR fR
     go_wp2_with fail
     refine LS.out.mono ?_
     rintro e w1 ⟨D, dn, dc, rfl, od, bb⟩
     replace M := M.next bb
     have hx1 : w1.cell? ⟨bp, op + i, none⟩ = some (.int .i64 (-1 - (v : Int))) := (bb.cell (p := ⟨bp, op + i, none⟩) (show bp < wr.heap.size by omega)).trans hx
     obtain rfl : dn = ys.length := Own.len od
     replace od := Own.lower (base' := w.heap.size + 1 + 1 + 1) od (by omega)
     obtain ⟨Ao, no, co, hc, oo⟩ := M.tb.at hv24
     obtain ⟨os, hos⟩ : ∃ os, s.getD v [] = os := ⟨_, rfl⟩
     rw [hos] at oo
     have HOS := hid hos
     have HNO := hid (Own.len oo)
     have hno60 : no ≤ 60 := by rw [HNO.out, ← hos]; exact HS60.out v
     have c3 : w1.cell? ⟨w.heap.size + 1 + 1 + 1, 0, none⟩ = some (.slice (some ⟨w.heap.size + 1 + 1, 0, none⟩) 24 24) := M.r3.cell 0
     have hw1 : IntKind.i64.wrap (-1 - (-1 - (v : Int))) = (v : Int) := by rw [IntKind.wrap_i64]; omega
     have hw2 : IntKind.i64.wrap (v : Int) = (v : Int) := by rw [IntKind.wrap_i64]; omega
     have j0 : (0 : Int) ≤ (v : Int) := by omega
     have j1 : (v : Int) < 24 := by omega
     have HMD := hid (fun d => M.next (below_drewN (Below.refl _ _) d))
     have HOD := hid (fun d => Own.drewN od d)
     have HOO := hid (fun d => Own.drewN oo d)
     have HC := hid hc
     have HX1 := hid hx1
     have HVR := hid hvr
     clear bb hx LS M od oo hos hvr
     go_wp2
     go_quiet (fail)
     generalize hd1 : w1.drewN _ = w2
     have M : Mt w w2 A n c sg (some ⟨bp, op, none⟩) pn p (some ⟨bt, ot, none⟩) m t s := by rw [← hd1]; exact HMD.out _
     have od : Own w2 (w.heap.size + 1 + 1 + 1) (.slice D ys.length dc) ys := by rw [← hd1]; exact HOD.out _
     have oo : Own w2 (w.heap.size + 1 + 1 + 1) (.slice Ao no co) os := by rw [← hd1]; exact HOO.out _
     clear hd1 HMD HOD HOO hx1 c3 hc
     have cR : w2.cell? ⟨w.heap.size + 1, 0, none⟩ = some (.slice none 0 0) := M.r1.cell 0
     have fR : w2.frozen? ⟨w.heap.size + 1, 0, none⟩ = false := M.r1.free 0
     by_cases hn0 : no = 0
     ·have hno2 : ¬ ((s.getD (vr (-1 - (v : Int))) []).length ≠ 0 ∧ s.getD (vr (-1 - (v : Int))) [] ≠ subL sg t k) := by
       rw [HVR.out, HOS.out]
       intro h
       exact h.1 (by rw [← HNO.out]; exact hn0)
      subst hn0
      have S := hid (show mst sg t (p.drop (i + 1)) (k + ys.length) (s.set v ys) = R by rw [← HMS.out, HD.out, mst_var hkl (show ¬ 0 ≤ -1 - (v : Int) by omega) hno2, HVR.out, HYS.out])
      have hs2 := hid (show ∀ j, ((s.set v ys).getD j []).length ≤ 60 from fun j => by rw [set_get]; split; exact hyl60; exact HS60.out j)
      have hxq : w2.cell? ⟨bp, op + i, none⟩ = some (.int .i64 (-1 - (v : Int))) := by
       obtain ⟨b', o', x', e', -, hq, ex'⟩ := M.sp.spot hip
       injection e' with e'
       injection e' with e1 e2
       subst e1 e2
       rw [hq, ← ex'.out, ex.out]
      have c3q : w2.cell? ⟨w.heap.size + 1 + 1 + 1, 0, none⟩ = some (.slice (some ⟨w.heap.size + 1 + 1, 0, none⟩) 24 24) := M.r3.cell 0
      have fT : w2.frozen? ⟨w.heap.size + 1 + 1, v, none⟩ = false := M.tb.free v
      obtain ⟨A9, n9, c9, hcq, -⟩ := M.tb.at hv24
      have HM2 := hid (fun d => (M.next (below_drewN (Below.refl _ _) d)).put hv24 (Own.drewN od d))
      clear M od
      go_wp2
      go_region
      go_wp2
      go_roundg (gk - 1)
      case measure => exact hgk.out.1
      case rel => exact ⟨k + ys.length, i + 1, s.set v ys, by simp, by simp, hgk.out.2, hyl, S.out, hs2.out, HM2.out _⟩
     ·have hpos : (0 : Int) < (no : Int) := by omega
      go_wp2_with fail
      refine (specSame Ao D no ys.length co dc os ys w2 (Own.seg oo) (Own.seg od) (by omega) (by omega)).mono ?_
      rintro e w3 ⟨he, d3, rfl⟩
      replace M := M.next (below_drewN (Below.refl _ _) d3)
      replace od := Own.drewN od d3
      clear oo cR fR
      generalize w2.drewN d3 = w3 at *
      have cR : w3.cell? ⟨w.heap.size + 1, 0, none⟩ = some (.slice none 0 0) := M.r1.cell 0
      have fR : w3.frozen? ⟨w.heap.size + 1, 0, none⟩ = false := M.r1.free 0
      by_cases hoy : os = ys
      ·rw [decide_eq_true hoy] at he
       subst he
       have hno2 : ¬ ((s.getD (vr (-1 - (v : Int))) []).length ≠ 0 ∧ s.getD (vr (-1 - (v : Int))) [] ≠ subL sg t k) := by
        rw [HVR.out, HOS.out, HYS.out]
        intro h
        exact h.2 hoy
       have S := hid (show mst sg t (p.drop (i + 1)) (k + ys.length) (s.set v ys) = R by rw [← HMS.out, HD.out, mst_var hkl (show ¬ 0 ≤ -1 - (v : Int) by omega) hno2, HVR.out, HYS.out])
       have hs2 := hid (show ∀ j, ((s.set v ys).getD j []).length ≤ 60 from fun j => by rw [set_get]; split; exact hyl60; exact HS60.out j)
       have hxq : w3.cell? ⟨bp, op + i, none⟩ = some (.int .i64 (-1 - (v : Int))) := by
        obtain ⟨b', o', x', e', -, hq, ex'⟩ := M.sp.spot hip
        injection e' with e'
        injection e' with e1 e2
        subst e1 e2
        rw [hq, ← ex'.out, ex.out]
       have c3q : w3.cell? ⟨w.heap.size + 1 + 1 + 1, 0, none⟩ = some (.slice (some ⟨w.heap.size + 1 + 1, 0, none⟩) 24 24) := M.r3.cell 0
       have fT : w3.frozen? ⟨w.heap.size + 1 + 1, v, none⟩ = false := M.tb.free v
       obtain ⟨A9, n9, c9, hcq, -⟩ := M.tb.at hv24
       have HM2 := hid (fun d => (M.next (below_drewN (Below.refl _ _) d)).put hv24 (Own.drewN od d))
       clear M od
       go_wp2
       go_region
       go_wp2
       go_roundg (gk - 1)
       case measure => exact hgk.out.1
       case rel => exact ⟨k + ys.length, i + 1, s.set v ys, by simp, by simp, hgk.out.2, hyl, S.out, hs2.out, HM2.out _⟩
      ·rw [decide_eq_false hoy] at he
       subst he
       have HN := hid (show R = none by
        rw [← HMS.out, HD.out, mst_varNo hkl (show ¬ 0 ≤ -1 - (v : Int) by omega) (by
         rw [HVR.out, HOS.out, HYS.out]
         exact ⟨by rw [← HNO.out]; exact hn0, hoy⟩)])
       have F1 := hid (ansM_no (w := w) HN.out M.b)
       have F2 := hid (ansM_no (w := w) HN.out ((M.b).setCell (p := ⟨w.heap.size + 1, 0, none⟩) (show w.heap.size ≤ w.heap.size + 1 by omega) (.slice none 0 0)))
       clear M od ex HD
       go_wp2
       first
        | exact bodyPost_ret (v := .tuple #[.agg #[.slice none 0 0], .bool false]) (by simp [results, Tryz.results93, go_sem, cR]) rfl F1.out
        | exact bodyPost_ret (v := .tuple #[.agg #[.slice none 0 0], .bool false]) (by simp [results, Tryz.results93, go_sem, cR]) rfl F2.out
   ·have HN := hid (show R = none by rw [← HMS.out, HD.out, mst_out (by rw [HLT.out]; omega)])
    have hge : (m : Int) ≤ (k : Int) := by omega
    have F1 := hid (ansM_no (w := w) HN.out M.b)
    have F2 := hid (ansM_no (w := w) HN.out ((M.b).setCell (p := ⟨w.heap.size + 1, 0, none⟩) (show w.heap.size ≤ w.heap.size + 1 by omega) (.slice none 0 0)))
    clear M ex HD
    go_wp2
    first
     | exact bodyPost_ret (v := .tuple #[.agg #[.slice none 0 0], .bool false]) (by simp [results, Tryz.results93, go_sem, cR]) rfl F1.out
     | exact bodyPost_ret (v := .tuple #[.agg #[.slice none 0 0], .bool false]) (by simp [results, Tryz.results93, go_sem, cR]) rfl F2.out
  ·have hipn : i = pn := by have := HI.out; omega
   have hRs : R = some s := by rw [← HMS.out, hipn, List.drop_eq_nil_of_le (by rw [HLP.out]; exact Nat.le_refl _)]; rfl
   have HRS := hid hRs
   have hlen := M.tb.len
   have htot : tot s ≤ 1048576 := by have := tot_le (M := 60) HS60.out; rw [hlen] at this; omega
   have LP := hid (l2Plain _ 24 24 s _ M.tb.segs htot)
   have c3 : wr.cell? ⟨w.heap.size + 1 + 1 + 1, 0, none⟩ = some (.slice (some ⟨w.heap.size + 1 + 1, 0, none⟩) 24 24) := M.r3.cell 0
   have z1 := M.b.size
   have r1 := M.r1
   have hb := M.b
   have zr := M.r3.lt
   clear hRs hlen htot M hipn
   go_wp2_with fail
   refine LP.out.mono ?_
   rintro e w2 ⟨D, dn, dc, rfl, od, bb⟩
   replace r1 := r1.next bb
   replace hb := next_trans hb bb
   have cR : w2.cell? ⟨w.heap.size + 1, 0, none⟩ = some (.slice none 0 0) := r1.cell 0
   have fR : w2.frozen? ⟨w.heap.size + 1, 0, none⟩ = false := r1.free 0
   have F : AnsM w (resL R) R.isSome (.returned (.tuple #[.agg #[.slice D dn dc], .bool true])) (w2.setCell ⟨w.heap.size + 1, 0, none⟩ (.slice D dn dc)) := by
    have hbt : Btw (w.heap.size + 1) (w.heap.size + 2) w2 (w2.setCell ⟨w.heap.size + 1, 0, none⟩ (.slice D dn dc)) := Btw.of_grown (grown_put (World.grownBy.refl _ _) _ _) (fun k hk => by injection hk; omega)
    have o2 := od.btw hbt (.inr (by omega))
    refine ⟨D, dn, dc, by rw [HRS.out]; rfl, ?_, hb.setCell (p := ⟨w.heap.size + 1, 0, none⟩) (show w.heap.size ≤ w.heap.size + 1 by omega) _⟩
    rw [HRS.out]
    exact o2.wider z1 (by simp)
   have HF := hid F
   clear F od bb hb r1 LP
   go_wp2
   exact bodyPost_ret (v := .tuple #[.agg #[.slice D dn dc], .bool true]) (by simp [results, Tryz.results93, go_sem, cR]) rfl HF.out
structure Mr (w wr : World) (A : Option Addr) (n c : Nat) (sg : List Int) (P : Option Addr) (pn : Nat) (p : List Int) (Q : Option Addr) (m : Nat) (t : List Int) : Prop where
 r0 : Row wr w.heap.size 26 #[.slice A n c]
 r1 : Row wr (w.heap.size + 1) 51 #[.slice none 0 0]
 ss : Seg wr wr.heap.size A n sg
 sp : Seg wr wr.heap.size P pn p
 st : Seg wr wr.heap.size Q m t
 b : Below w.heap.size w wr
section
variable {w wr w' : World} {A : Option Addr} {n c : Nat} {sg : List Int} {P : Option Addr} {pn : Nat} {p : List Int} {Q : Option Addr} {m : Nat} {t : List Int}
theorem Mr.next (h : Mr w wr A n c sg P pn p Q m t) (hb : Below wr.heap.size wr w') : Mr w w' A n c sg P pn p Q m t :=
 ⟨h.r0.next hb, h.r1.next hb, h.ss.next hb, h.sp.next hb, h.st.next hb, next_trans h.b hb⟩
end
end matchSpec
end
section
namespace sameSubst
open Go.RowKit base ints sig same marks sym segs segsHelp kinds varsOf fillMath Go.Proofs.YtmoidijngeijkaaGreat.look substOk gives
set_option maxRecDepth 100000
end sameSubst
end
section
namespace plainFacts
open Go.RowKit base ints sig term termOk termFacts fillMath plainMath plainOf substOk gives sameSubst compMath filled
theorem gives_plain {L : Nat → List Int} {m i : Nat} (hpos : ∀ i, 1 ≤ (L i).length) (hout : ∀ i, m ≤ i → L i = vt i) : givesL (plainL L m) i = L i := by
 have e := plain_get L m i
 by_cases h : i < m
 ·rw [rows_get h] at e
  unfold bare at e
  by_cases h2 : L i = vt i
  ·rw [if_pos h2] at e
   rw [gives_var (by rw [e]; rfl), h2]
  ·rw [if_neg h2] at e
   rw [gives_term (by rw [e]; have := hpos i; omega), e]
 ·have e0 : (rowsL L m).getD i [] = [] := by simp [List.getD, rows_len, h]
  rw [e0] at e
  rw [gives_var (by rw [e]; rfl), hout i (by omega)]
end plainFacts
end
section
namespace matchTot
open Go.RowKit base ints sig term termOk app sym sub segs segsHelp plainMath gives plainOf fillMath termFacts matchMath matchSpec
theorem mst_short {sg t : List Int} : ∀ {p : List Int} {k : Nat} {s s' : List (List Int)}, mst sg t p k s = some s' → (∀ i, (s.getD i []).length ≤ t.length) → ∀ i, (s'.getD i []).length ≤ t.length := by
 intro p
 induction p with
 | nil => intro k s s' h hs; injection h with h; subst h; exact hs
 | cons x r ih =>
  intro k s s' h hs
  by_cases h1 : t.length ≤ k
  ·rw [mst_out h1] at h; cases h
  ·by_cases h2 : 0 ≤ x
   ·by_cases h3 : x = t.getD k 0
    ·rw [mst_sym h1 h2 h3] at h; exact ih h hs
    ·rw [mst_symNo h1 h2 h3] at h; cases h
   ·by_cases h3 : (s.getD (vr x) []).length ≠ 0 ∧ s.getD (vr x) [] ≠ subL sg t k
    ·rw [mst_varNo h1 h2 h3] at h; cases h
    ·rw [mst_var h1 h2 h3] at h
     refine ih h (fun i => ?_)
     rw [set_get]
     split
     ·unfold subL; rw [List.length_take, List.length_drop]; omega
     ·exact hs i
theorem match_tot {sg p t : List Int} : tot (resL (matchO sg p t)) ≤ 1048576 := by
 cases h1 : termOkB sg t with
 | false => rw [match_no (.inr h1)]; simp [resL, tot, sumL]
 | true =>
  cases h : matchO sg p t with
  | none => simp [resL, tot, sumL]
  | some s =>
   have ht := (term_len h1).2
   have hs : ∀ i, (s.getD i []).length ≤ t.length := by
    unfold matchO at h
    split at h
    ·exact mst_short h (fun i => by rw [s0_get]; simp)
    ·cases h
   have hg : ∀ i, (givesL s i).length ≤ 60 := fun i => by
    by_cases e : (s.getD i []).length = 0
    ·rw [gives_var e]; simp [vt]
    ·rw [gives_term e]; have := hs i; omega
   have h3 := tot_le (plain_each (L := givesL s) (m := 24) hg)
   have h4 := plain_len (givesL s) 24
   have h5 : (plainL (givesL s) 24).length * 60 ≤ 24 * 60 := Nat.mul_le_mul_right _ h4
   show tot (plainL (givesL s) 24) ≤ 1048576
   omega
end matchTot
end
section
namespace matchFacts
open sig term termOk termFacts endAt sub termMath fillMath posMath segsHelp substOk gives plainMath plainFacts filled sameSubst matchMath matchSpec
theorem mst_terms {sg t : List Int} (hok : termOkB sg t = true) : ∀ {p : List Int} {k : Nat} {s s' : List (List Int)}, mst sg t p k s = some s' → (∀ i, (s.getD i []).length = 0 ∨ termOkB sg (s.getD i []) = true) → ∀ i, (s'.getD i []).length = 0 ∨ termOkB sg (s'.getD i []) = true := by
 intro p
 induction p with
 | nil => intro k s s' h hs; injection h with h; subst h; exact hs
 | cons x r ih =>
  intro k s s' h hs
  by_cases h1 : t.length ≤ k
  ·rw [mst_out h1] at h; cases h
  ·by_cases h2 : 0 ≤ x
   ·by_cases h3 : x = t.getD k 0
    ·rw [mst_sym h1 h2 h3] at h; exact ih h hs
    ·rw [mst_symNo h1 h2 h3] at h; cases h
   ·by_cases h3 : (s.getD (vr x) []).length ≠ 0 ∧ s.getD (vr x) [] ≠ subL sg t k
    ·rw [mst_varNo h1 h2 h3] at h; cases h
    ·rw [mst_var h1 h2 h3] at h
     refine ih h (fun i => ?_)
     rw [set_get]
     split
     ·exact .inr (sub_term hok (by omega)).1
     ·exact hs i
theorem match_terms {sg p t : List Int} {s : List (List Int)} (h : matchO sg p t = some s) : termOkB sg p = true ∧ termOkB sg t = true ∧ s.length = 24 ∧ ∀ i, (s.getD i []).length = 0 ∨ termOkB sg (s.getD i []) = true := by
 obtain ⟨h1, h2⟩ := inst_ok (show instB sg p t = true by unfold instB; rw [h]; rfl)
 refine ⟨h1, h2, (match_turns h).1, ?_⟩
 rw [match_yes h1 h2] at h
 exact mst_terms h2 h (fun i => .inl (by rw [s0_get]; rfl))
theorem res_gives {s : List (List Int)} (h : s.length = 24) (i : Nat) : givesL (resL (some s)) i = givesL s i :=
 gives_plain (gives_pos s) (fun j hj => gives_out (by omega))
end matchFacts
end
end Go.Proofs.YtmoidijngeijkaaGreat
