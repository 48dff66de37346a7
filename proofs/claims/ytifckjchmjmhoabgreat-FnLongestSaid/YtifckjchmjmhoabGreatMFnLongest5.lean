/-
  MERGED: my texts StepMath, WalkMath, DrawL7, DrawL7B, LawS, DrawL9, Shape3, OwnL, KindsW, StepsMath, OrderMath, ByMath, one behind the other, as they are. By an AI agent.
-/
import Derived.Test.YtifckjchmjmhoabGreatMFnLongest4
import Derived.Deep.RegionHeld3
namespace Go.Proofs.YtifckjchmjmhoabGreat
section
namespace stepMath
open sig term termOk termFacts fillMath gives endAt sub matchMath termMath posMath putMath ruleMath
def putAt (sg t u : List Int) (a : Nat) : List Int := putL t a (len1 sg t a) u
def stepO (sg : List Int) (x : Rl) (t : List Int) (a : Nat) : Option (List Int) :=
 match mst sg (subL sg t a) x.1 0 s0 with
 | none => none
 | some ss => if (fillL (givesL ss) x.2).length ≤ 60 ∧ (putAt sg t (fillL (givesL ss) x.2) a).length ≤ 60 then some (putAt sg t (fillL (givesL ss) x.2) a) else none
def redB (sg : List Int) (x : Rl) (t : List Int) (a : Nat) : Bool := (mst sg (subL sg t a) x.1 0 s0).isSome
theorem sub_ok {sg t : List Int} (h : termOkB sg t = true) {a : Nat} (ha : a < t.length) : termOkB sg (subL sg t a) = true := by
 obtain ⟨h1, h2, h3⟩ := term_parts h
 obtain ⟨e1, e2, e3⟩ := sub_len1 h ha
 have h4 := term_at h ha
 exact term_mk h1 (by omega) e3
theorem gives_of {sg l s : List Int} {ss : List (List Int)} (h1 : termOkB sg l = true) (h2 : termOkB sg s = true) (h : mst sg s l 0 s0 = some ss) : Turns sg l s (givesL ss) ∧ ∀ x ∈ l, x < 0 → givesL ss (vr x) = ss.getD (vr x) [] := by
 have hm : matchO sg l s = some ss := by rw [match_yes h1 h2]; exact h
 obtain ⟨e, t1, t2⟩ := match_turns hm
 have hg : ∀ x ∈ l, x < 0 → givesL ss (vr x) = ss.getD (vr x) [] := fun x hx h0 => by
   have this : scan sg 1 (ss.getD (vr x) []) = some (ss.getD (vr x) []).length := t2 x hx h0
   unfold givesL
   rw [if_neg ?_]
   intro e0
   have e1 : ss.getD (vr x) [] = [] := List.length_eq_zero_iff.1 e0
   rw [e1] at this
   exact absurd this (by simp [scan])
 refine ⟨⟨?_, fun x hx h0 => by rw [hg x hx h0]; exact t2 x hx h0⟩, hg⟩
 rw [fill_ext (L' := fun i => ss.getD i []) (fun x hx h0 => hg x hx h0)]
 exact t1
theorem step_iff {sg : List Int} {x : Rl} {t v : List Int} {a : Nat} (hx : ruleOkB sg x = true) (ht : termOkB sg t = true) (ha : a < t.length) :
   stepO sg x t a = some v ↔ ∃ L, Turns sg x.1 (subL sg t a) L ∧ v = putAt sg t (fillL L x.2) a ∧ (fillL L x.2).length ≤ 60 ∧ v.length ≤ 60 := by
 obtain ⟨h1, h2, h3, h4⟩ := rule_parts hx
 have hs := sub_ok ht ha
 constructor
 · intro h
   unfold stepO at h
   cases hm : mst sg (subL sg t a) x.1 0 s0 with
   | none => rw [hm] at h; cases h
   | some ss =>
     rw [hm] at h
     dsimp only at h
     split at h
     · rename_i hf
       injection h with h
       subst h
       exact ⟨_, (gives_of h1 hs hm).1, rfl, hf.1, hf.2⟩
     · cases h
 · rintro ⟨L, hL, rfl, hf, hv⟩
   obtain ⟨ss, hm, hg⟩ := turns_match h1 hs hL
   rw [match_yes h1 hs] at hm
   have g := gives_of h1 hs hm
   have e : fillL (givesL ss) x.2 = fillL L x.2 := fill_ext (fun y hy h0 => by
     have hy1 := h4 y hy h0
     show givesL ss (vr y) = L (vr y)
     rw [g.2 y hy1 h0]
     exact hg y hy1 h0)
   unfold stepO
   rw [hm]
   dsimp only
   rw [e, if_pos ⟨hf, hv⟩]
theorem step_ok {sg : List Int} {x : Rl} {t v : List Int} {a : Nat} (hx : ruleOkB sg x = true) (ht : termOkB sg t = true) (ha : a < t.length) (h : stepO sg x t a = some v) : termOkB sg v = true := by
 obtain ⟨L, hL, rfl, hf, hv⟩ := (step_iff hx ht ha).1 h
 obtain ⟨h1, h2, h3, h4⟩ := rule_parts hx
 obtain ⟨s1, s2, s3⟩ := term_parts ht
 exact put_term ht (term_mk s1 hf (scan_fill (term_parts h2).2.2 (fun y hy h0 => hL.2 y (h4 y hy h0) h0))) ha hv
end stepMath
end
section
namespace walkMath
open sig term termOk termFacts fillMath gives sub matchMath putMath ruleMath stepMath
abbrev St := Int × Int × List Int
abbrev Wk := List Int × List St
def inB (x : Int) (n : Nat) : Bool := decide (0 ≤ x ∧ x < n)
def rightB (sg : List Int) (rs : List Rl) (t : List Int) : Bool := sysOkB sg rs && termOkB sg t
def thereR (sg : List Int) (rs : List Rl) (t : List Int) (a r : Int) : Bool := rightB sg rs t && (inB a t.length && inB r rs.length)
def rl (rs : List Rl) (r : Int) : Rl := rs.getD r.toNat ([], [])
def redexB (sg : List Int) (rs : List Rl) (t : List Int) (a r : Int) : Bool := thereR sg rs t a r && redB sg (rl rs r) t a.toNat
def stepAtO (sg : List Int) (rs : List Rl) (t : List Int) (a r : Int) : Option (List Int) := if thereR sg rs t a r = true then stepO sg (rl rs r) t a.toNat else none
def stepsL (sg : List Int) (rs : List Rl) (t : List Int) : List St := (List.range t.length).flatMap fun a => (List.range rs.length).filterMap fun r => (stepO sg (rs.getD r ([], [])) t a).map fun v => ((a : Int), (r : Int), v)
def normalB (sg : List Int) (rs : List Rl) (t : List Int) : Bool := rightB sg rs t && (List.range t.length).all fun a => rs.all fun x => !redB sg x t a
def goOn (sg : List Int) (rs : List Rl) : List Int → List St → Option (List Int)
 | t, [] => some t
 | t, s :: ss => match stepAtO sg rs t s.1 s.2.1 with
   | some v => if v = s.2.2 then goOn sg rs v ss else none
   | none => none
def endL (w : Wk) : List Int := match w.2.getLast? with
 | some s => s.2.2
 | none => w.1
theorem there_parts {sg : List Int} {rs : List Rl} {t : List Int} {a r : Int} (h : thereR sg rs t a r = true) : sysOkB sg rs = true ∧ termOkB sg t = true ∧ (0 ≤ a ∧ a < t.length) ∧ (0 ≤ r ∧ r < rs.length) := by
 unfold thereR rightB inB at h
 simp only [Bool.and_eq_true, decide_eq_true_eq] at h
 exact ⟨h.1.1, h.1.2, h.2.1, h.2.2⟩
theorem there_mk {sg : List Int} {rs : List Rl} {t : List Int} {a r : Int} (h1 : sysOkB sg rs = true) (h2 : termOkB sg t = true) (h3 : 0 ≤ a ∧ a < t.length) (h4 : 0 ≤ r ∧ r < rs.length) : thereR sg rs t a r = true := by
 unfold thereR rightB inB
 rw [h1, h2, decide_eq_true h3, decide_eq_true h4]
 rfl
theorem rl_ok {sg : List Int} {rs : List Rl} {r : Int} (h : sysOkB sg rs = true) (hr : 0 ≤ r ∧ r < rs.length) : ruleOkB sg (rl rs r) = true := (sys_parts h).2.2 _ (rl_mem (by omega))
theorem stepAt_parts {sg : List Int} {rs : List Rl} {t v : List Int} {a r : Int} (h : stepAtO sg rs t a r = some v) : thereR sg rs t a r = true ∧ stepO sg (rl rs r) t a.toNat = some v := by
 unfold stepAtO at h
 split at h
 · exact ⟨by assumption, h⟩
 · cases h
theorem stepAt_ok {sg : List Int} {rs : List Rl} {t v : List Int} {a r : Int} (h : stepAtO sg rs t a r = some v) : termOkB sg v = true := by
 obtain ⟨h1, h2⟩ := stepAt_parts h
 obtain ⟨q1, q2, q3, q4⟩ := there_parts h1
 exact step_ok (rl_ok q1 q4) q2 (by omega) h2
theorem go_cons {sg : List Int} {rs : List Rl} {t v : List Int} {s : St} {ss : List St} : goOn sg rs t (s :: ss) = some v ↔ stepAtO sg rs t s.1 s.2.1 = some s.2.2 ∧ goOn sg rs s.2.2 ss = some v := by
 rw [goOn]
 cases h : stepAtO sg rs t s.1 s.2.1 with
 | none => simp
 | some u =>
   dsimp only
   split
   · rename_i e
     subst e
     simp
   · rename_i e
     constructor
     · intro h; cases h
     · rintro ⟨h, _⟩
       injection h with h
       exact absurd h e
theorem go_append {sg : List Int} {rs : List Rl} : ∀ {a b : List St} {t : List Int}, goOn sg rs t (a ++ b) = (goOn sg rs t a).bind fun v => goOn sg rs v b
 | [], b, t => rfl
 | s :: a, b, t => by
   show goOn sg rs t (s :: (a ++ b)) = _
   rw [goOn, goOn]
   cases h : stepAtO sg rs t s.1 s.2.1 with
   | none => rfl
   | some u =>
     dsimp only
     split
     · exact go_append
     · rfl
theorem end_cons (t : List Int) (s : St) (ss : List St) : endL (t, s :: ss) = endL (s.2.2, ss) := by
 unfold endL
 cases ss with
 | nil => rfl
 | cons u r =>
   rw [List.getLast?_cons_cons]
   cases h : (u :: r).getLast? with
   | none => simp at h
   | some z => rfl
theorem go_ok {sg : List Int} {rs : List Rl} : ∀ {ss : List St} {t v : List Int}, termOkB sg t = true → goOn sg rs t ss = some v → termOkB sg v = true ∧ ∀ s ∈ ss, termOkB sg s.2.2 = true
 | [], t, v, ht, h => by injection h with h; subst h; exact ⟨ht, fun s hs => by cases hs⟩
 | s :: ss, t, v, _, h => by
   obtain ⟨h1, h2⟩ := go_cons.1 h
   have h3 := stepAt_ok h1
   obtain ⟨h4, h5⟩ := go_ok h3 h2
   refine ⟨h4, fun u hu => ?_⟩
   rcases List.mem_cons.1 hu with rfl | hu
   · exact h3
   · exact h5 u hu
theorem steps_mem {sg : List Int} {rs : List Rl} {t : List Int} {s : St} : s ∈ stepsL sg rs t ↔ ∃ a r : Nat, a < t.length ∧ r < rs.length ∧ s.1 = (a : Int) ∧ s.2.1 = (r : Int) ∧ stepO sg (rs.getD r ([], [])) t a = some s.2.2 := by
 unfold stepsL
 rw [List.mem_flatMap]
 constructor
 · rintro ⟨a, ha, h⟩
   obtain ⟨r, hr, h⟩ := List.mem_filterMap.1 h
   obtain ⟨v, hv, rfl⟩ := Option.map_eq_some_iff.1 h
   exact ⟨a, r, List.mem_range.1 ha, List.mem_range.1 hr, rfl, rfl, hv⟩
 · rintro ⟨a, r, ha, hr, e1, e2, h⟩
   refine ⟨a, List.mem_range.2 ha, List.mem_filterMap.2 ⟨r, List.mem_range.2 hr, ?_⟩⟩
   rw [h, Option.map_some, ← e1, ← e2]
theorem steps_at {sg : List Int} {rs : List Rl} {t : List Int} {s : St} (h1 : sysOkB sg rs = true) (h2 : termOkB sg t = true) (h : s ∈ stepsL sg rs t) : stepAtO sg rs t s.1 s.2.1 = some s.2.2 := by
 obtain ⟨a, r, ha, hr, e1, e2, e3⟩ := steps_mem.1 h
 unfold stepAtO
 rw [if_pos (there_mk h1 h2 (by omega) (by omega)), e1, e2, Int.toNat_natCast]
 unfold rl
 rw [Int.toNat_natCast]
 exact e3
end walkMath
end
section
namespace drawL7
open Go.RowKit base ints sig term termOk termFacts cursor marks app appAt sym segs segsHelp kinds dice drawTerm drawAny drawSub drawTermW drawX drawKnown drawSys drawSysAny drawSysD ruleMath ruleSpec gives heldT
open shape (Sh Dat nc dft sI sz sz_ints rd_ints)
open kindsR (sRule sSystem sRuleS sSig)
set_option maxRecDepth 100000
structure Dy (w : World) (p : Nat) (A : Option Addr) (n c : Nat) (S : Option Addr) (sn sc : Nat) (R : Option Addr) (rn rc : Nat) (d : Dat sSystem) (wr : World) : Prop where
 di : Dice wr p A n c
 r : Row wr w.heap.size 29 #[.slice S sn sc, .slice R rn rc]
 s : RdQ wr (Out wr p) sSystem [.slice S sn sc, .slice R rn rc] d
 g : w.grownBy wr (some p)
 hp : p < w.heap.size
section
variable {w : World} {p : Nat} {A : Option Addr} {n c : Nat} {S : Option Addr} {sn sc : Nat} {R : Option Addr} {rn rc : Nat} {d : Dat sSystem} {wr w' : World}
theorem Dy.dice (t : Dy w p A n c S sn sc R rn rc d wr) (h : Dice w' p A n c) (hg : wr.grownBy w' (some p)) : Dy w p A n c S sn sc R rn rc d w' :=
 ⟨h, Row.away t.r hg (fun e => by injection e with e; have := t.hp; omega), out_dice t.s hg, t.g.trans hg, t.hp⟩
theorem grown_of_below (hb : Below w.heap.size w w') (r : Option Nat) : w.grownBy w' r := ⟨hb.os, hb.tape, hb.output, hb.size, fun k hk _ => hb.block k hk⟩
theorem Dy.next (t : Dy w p A n c S sn sc R rn rc d wr) (hb : Below wr.heap.size wr w') : Dy w p A n c S sn sc R rn rc d w' :=
 ⟨t.di.next hb, t.r.next hb, out_below t.s hb, t.g.trans (grown_of_below hb _), t.hp⟩
theorem rdq_sig (h : RdQ wr (Out wr p) sSystem [.slice S sn sc, .slice R rn rc] d) : Go.Proofs.YtifckjchmjmhoabGreat.drawTerm.Rd wr p wr.heap.size S sn d.1 := by
 obtain ⟨ca, cb, e, h1, h2⟩ := h
 have l1 := h1.len
 have l1 : ca.length = 1 := l1
 obtain ⟨x, rfl⟩ : ∃ x, ca = [x] := by
   cases ca with
   | nil => cases l1
   | cons x r => cases r with
     | nil => exact ⟨x, rfl⟩
     | cons y z => simp at l1
 rw [List.singleton_append, List.cons.injEq] at e
 obtain ⟨rfl, -⟩ := e
 obtain ⟨A, n, c, e, hc, hl, h1⟩ := h1
 injection e with e _
 injection e with e1 e2 e3
 subst e1 e2 e3
 refine ⟨hl, fun hn => ?_⟩
 obtain ⟨b, off, e2, hb, h2⟩ := h1 hn
 refine ⟨b, off, e2, hb.1, hb.2, fun j hj => ?_⟩
 obtain ⟨es, hel, hp, hr⟩ := h2 j hj
 have hr : es = [.int .i64 (d.1.getD j 0)] := hr
 subst hr
 have := hp 0 (by simp)
 simpa [nc] using this
theorem Dy.sg (t : Dy w p A n c S sn sc R rn rc d wr) : Go.Proofs.YtifckjchmjmhoabGreat.drawTerm.Rd wr p wr.heap.size S sn d.1 := rdq_sig t.s
theorem Dy.rd (t : Dy w p A n c S sn sc R rn rc d wr) : Go.Proofs.YtifckjchmjmhoabGreat.shape.Rd wr wr.heap.size sSystem [.slice S sn sc, .slice R rn rc] d := out_rd t.s
theorem Dy.len (t : Dy w p A n c S sn sc R rn rc d wr) (hz : sz sSystem d ≤ 1048576) : List.length d.2 = rn ∧ rn ≤ rc ∧ rc ≤ 9223372036854775807 := by
 obtain ⟨A1, n1, c1, A2, n2, c2, e1, e2, -, -, h5, h6, -⟩ := rd_sys t.rd hz
 injection e2 with e3 e4 e5
 subst e3 e4 e5
 exact ⟨h6, h5.1, h5.2.1⟩
theorem Dy.rule (t : Dy w p A n c S sn sc R rn rc d wr) (hz : sz sSystem d ≤ 1048576) {k : Nat} (hk : k < rn) : ∃ b off l ln lc, R = some ⟨b, off, none⟩ ∧ b < wr.heap.size ∧ wr.cell? ⟨b, off + k * 2, none⟩ = some (.slice l ln lc) ∧ Seg wr wr.heap.size l ln (d.2.getD k ([], [])).1 ∧ Cap l ln lc := by
 obtain ⟨A1, n1, c1, A2, n2, c2, e1, e2, -, -, -, h6, -, -, h9, -, h11⟩ := rd_sys t.rd hz
 injection e2 with e3 e4 e5
 subst e3 e4 e5
 obtain ⟨b, off, l, r, x, e, hb, ex, cl, -, hx⟩ := rd_at h9 (Below.refl wr.heap.size wr) h6 hk
 have hzx : sz sRule x ≤ 1048576 := by rw [← ex.out]; exact h11 k hk
 obtain ⟨L, ln, lc, L', ln', lc', rfl, rfl, s1, q1, -, -, -, -⟩ := rd_rule hx hzx
 exact ⟨b, off, L, ln, lc, e, hb, cl, by rw [ex.out]; exact s1, q1⟩
theorem ansR_from {w1 : World} {L : Nat} {e : Ending} (hg : w.grownBy w1 (some p)) (h : AnsR w1 p A n c L e w') : AnsR w p A n c L e w' := by
 obtain ⟨O, on, oc, xs, he, h1, h2, h3, h4, h5, h6, h7⟩ := h
 exact ⟨O, on, oc, xs, he, h1, h2, h3, h4, h5, h6, hg.trans h7⟩
theorem gives_each60 {ss : List (List Int)} (h : ∀ j, (ss.getD j []).length ≤ 60) (i : Nat) : (givesL ss i).length ≤ 60 := by
 unfold givesL
 split
 · simp [Go.Proofs.YtifckjchmjmhoabGreat.fillMath.vt]
 · exact h i
theorem ansR_at {L base on oc : Nat} {O : Option Addr} {xs : List Int} (t : Dy w p A n c S sn sc R rn rc d wr) (h : Own wr base (.slice O on oc) xs) (hb : w.heap.size ≤ base) (hL : on ≤ L) : AnsR w p A n c L (.returned (.slice O on oc)) wr :=
 ansR_own h (Nat.lt_of_lt_of_le t.hp hb) hL t.di t.g
theorem fit_len {ss : List (List Int)} {t : List Int} (h : Go.Proofs.YtifckjchmjmhoabGreat.filled.fitsB ss t = true) : (Go.Proofs.YtifckjchmjmhoabGreat.filled.fitL ss t).length ≤ 60 := by
 unfold Go.Proofs.YtifckjchmjmhoabGreat.filled.fitL
 rw [if_pos h]
 exact of_decide_eq_true h
theorem sys_rule2 {sg : List Int} {rs : List Rl} (h : sysOkB sg rs = true) {r : Nat} (hr : r < rs.length) : ruleOkB sg (rs.getD r ([], [])) = true := by
 have := Go.Proofs.YtifckjchmjmhoabGreat.walkMath.rl_ok (r := (r : Int)) h (by omega)
 unfold Go.Proofs.YtifckjchmjmhoabGreat.walkMath.rl at this
 simpa using this
theorem put_len {sg t u : List Int} {a : Nat} (h : Go.Proofs.YtifckjchmjmhoabGreat.put.fitB sg t u a = true) : (Go.Proofs.YtifckjchmjmhoabGreat.put.fitL sg t u a).length ≤ 60 := by
 unfold Go.Proofs.YtifckjchmjmhoabGreat.put.fitL
 rw [if_pos h]
 exact of_decide_eq_true h
end
set_option maxHeartbeats 8000000 in
theorem l7DrawTerm (p : Nat) (A : Option Addr) (n c : Nat) (S : Option Addr) (sn sc : Nat) (R : Option Addr) (rn rc : Nat) (d : Dat sSystem) (w : World) (hd : Dice w p A n c) (hs : RdQ w (Out w p) sSystem [.slice S sn sc, .slice R rn rc] d) (hz : sz sSystem d ≤ 2000) :
   Calls Tryz.prog 51 #[.pointer (some ⟨p, 0, none⟩), .agg #[.slice S sn sc, .slice R rn rc]] w (AnsR w p A n c 65) := by
 obtain ⟨W, hW, rA, bel⟩ := box1 w 29 #[.slice S sn sc, .slice R rn rc]
 have T : Dy w p A n c S sn sc R rn rc d W := ⟨hd.next bel, rA, out_below hs bel, grown_of_below bel _, hd.lt⟩
 have hz1 : sz sSystem d ≤ 1048576 := by omega
 have hlr := T.len hz1
 have hsn : sn ≤ 1048576 := by
   have h1 := (sys_szs hz1).1
   rw [sz_ints] at h1
   have := T.sg.1
   omega
 have LS := Lib.hid (specSystemOk _ _ d W T.rd hz1)
 have HW := Lib.hid hW
 have HT := Lib.hid T
 have K0 : W.cell? ⟨w.heap.size, 0, none⟩ = some (.slice S sn sc) := T.r.cell 0
 have K1 : W.cell? ⟨w.heap.size, 1, none⟩ = some (.slice R rn rc) := T.r.cell 1
 have HLR := Lib.hid hlr.1
 have hrc := hlr.2
 clear hW hd hs bel rA T hlr
 have LA := Lib.hid (fun (w1 : World) (T : Dy w p A n c S sn sc R rn rc d w1) => (drawAny p A n c S sn sc d.1 w1 T.di T.sg hsn).mono fun _ _ h => ansR_from T.g h)
 cases ok : sysOkB d.1 d.2 with
 | false =>
   have HO := Lib.hid ok
   clear ok
   go_enter Tryz.func51, Tryz.ntmps51
   go_wp2_with fail
   rw [← HW.out]
   go_wp2_with fail
   refine LS.out.mono ?_
   rintro e w1 ⟨he, bb⟩
   rw [HO.out] at he
   subst he
   have HT1 := Lib.hid (HT.out.next bb)
   have k0 : w1.cell? ⟨w.heap.size, 0, none⟩ = some (.slice S sn sc) := HT1.out.r.cell 0
   clear bb K0 K1 HT LS HW
   have LAX := Lib.hid (LA.out w1 HT1.out)
   go_wp2_with fail
   refine LAX.out.mono ?_
   rintro e w9 ⟨O9, on9, oc9, xs9, rfl, z1, z2, z3, z4, z5, z6, z7⟩
   have F := Lib.hid (show AnsR w p A n c 65 (.returned (.slice O9 on9 oc9)) w9 from ⟨O9, on9, oc9, xs9, rfl, z1, z2, z3, z4, z5, z6, z7⟩)
   clear z1 z2 z3 z4 z5 z6 z7 LAX HT1
   go_wp2
   go_ret
   exact F.out
 | true =>
   have HO := Lib.hid ok
   have hsp := sys_parts ok
   have hars := Lib.hid (sig_arities hsp.1).1
   have hsl : 1 ≤ sn ∧ sn ≤ 8 := by have h1 := (sig_arities hsp.1).2; have h2 := HT.out.sg.1; omega
   have hrn : rn ≤ 12 := by have h1 := hsp.2.1; have h2 := HLR.out; omega
   clear ok hsp
   by_cases h0 : rn = 0
   · have h0' : ¬ (0 : Int) < (rn : Int) := by omega
     have h0d : decide ((0 : Int) < (rn : Int)) = false := decide_eq_false h0'
     clear h0
     go_enter Tryz.func51, Tryz.ntmps51
     go_wp2_with fail
     rw [← HW.out]
     go_wp2_with fail
     refine LS.out.mono ?_
     rintro e w1 ⟨he, bb⟩
     rw [HO.out] at he
     subst he
     have HT1 := Lib.hid (HT.out.next bb)
     have k0 : w1.cell? ⟨w.heap.size, 0, none⟩ = some (.slice S sn sc) := HT1.out.r.cell 0
     have k1 : w1.cell? ⟨w.heap.size, 1, none⟩ = some (.slice R rn rc) := HT1.out.r.cell 1
     clear bb K0 K1 HT LS HW
     have LAX := Lib.hid (LA.out w1 HT1.out)
     go_wp2_with fail
     refine LAX.out.mono ?_
     rintro e w9 ⟨O9, on9, oc9, xs9, rfl, z1, z2, z3, z4, z5, z6, z7⟩
     have F := Lib.hid (show AnsR w p A n c 65 (.returned (.slice O9 on9 oc9)) w9 from ⟨O9, on9, oc9, xs9, rfl, z1, z2, z3, z4, z5, z6, z7⟩)
     clear z1 z2 z3 z4 z5 z6 z7 LAX HT1
     go_wp2
     go_ret
     exact F.out
   · have h0' : (0 : Int) < (rn : Int) := by omega
     have h0d : decide ((0 : Int) < (rn : Int)) = true := decide_eq_true h0'
     have h0n : 0 < rn := by omega
     clear h0
     go_enter Tryz.func51, Tryz.ntmps51
     go_wp2_with fail
     rw [← HW.out]
     go_wp2_with fail
     refine LS.out.mono ?_
     rintro e w1 ⟨he, bb⟩
     rw [HO.out] at he
     subst he
     have HT1 := Lib.hid (HT.out.next bb)
     have k0 : w1.cell? ⟨w.heap.size, 0, none⟩ = some (.slice S sn sc) := HT1.out.r.cell 0
     have k1 : w1.cell? ⟨w.heap.size, 1, none⟩ = some (.slice R rn rc) := HT1.out.r.cell 1
     have LO := Lib.hid (once p A n c 2 w1 HT1.out.di (by omega) (by omega))
     clear bb K0 K1 HT LS HW
     go_wp2_with fail
     refine LO.out.mono ?_
     rintro e w2 ⟨b1, rfl, d2, g2⟩
     have HT2 := Lib.hid (HT1.out.dice d2 g2)
     clear d2 g2 k0 k1 HT1 LO
     cases b1 with
     | false =>
       have k0 : w2.cell? ⟨w.heap.size, 0, none⟩ = some (.slice S sn sc) := HT2.out.r.cell 0
       have LAX := Lib.hid (LA.out w2 HT2.out)
       go_wp2_with fail
       refine LAX.out.mono ?_
       rintro e w9 ⟨O9, on9, oc9, xs9, rfl, z1, z2, z3, z4, z5, z6, z7⟩
       have F := Lib.hid (show AnsR w p A n c 65 (.returned (.slice O9 on9 oc9)) w9 from ⟨O9, on9, oc9, xs9, rfl, z1, z2, z3, z4, z5, z6, z7⟩)
       clear z1 z2 z3 z4 z5 z6 z7 LAX HT2
       go_wp2
       go_ret
       exact F.out
     | true =>
       have T := HT2.out.next (drew_below w2)
       have c0 : w2.drew.cell? ⟨w.heap.size, 0, none⟩ = some (.slice S sn sc) := T.r.cell 0
       have c1 : w2.drew.cell? ⟨w.heap.size, 1, none⟩ = some (.slice R rn rc) := T.r.cell 1
       have hpw : p < w.heap.size := T.hp
       clear HT2
       go_wp2_with fail
       have hpw2 : p < w2.drew.heap.size := Nat.lt_of_lt_of_le hpw T.g.size
       refine AnyT.start (S := (fun w' => w'.cell? ⟨w.heap.size, 0, none⟩ = some (.slice S sn sc) ∧ w'.cell? ⟨w.heap.size, 1, none⟩ = some (.slice R rn rc))) (fun _ => false) (by kernel_rfl) ⟨c0, c1⟩ (fun hHeld => ?_)
       refine AnyT.takeA (i := 0) (v := ?_) rfl (by kernel_rfl) (by kernel_rfl) (by kernel_rfl) (fun _ _ _ h => h) (Or.inl ⟨by rfl, ?_⟩) ?_
       rotate_left 1
       · (intro w0 _; go_simp; try with_reducible rfl)
       try simp only [Act.put, List.setIfInBounds_toArray, List.set_cons_zero, List.set_cons_succ, List.getElem_toArray, List.getElem_cons_zero, List.getElem_cons_succ]
       refine AnyT.takeA (i := 1) (v := ?_) rfl (by kernel_rfl) (by kernel_rfl) (by kernel_rfl) (fun _ _ _ h => h) (Or.inl ⟨by rfl, ?_⟩) ?_
       rotate_left 1
       · (intro w0 _; go_simp; try with_reducible rfl)
       try simp only [Act.put, List.setIfInBounds_toArray, List.set_cons_zero, List.set_cons_succ, List.getElem_toArray, List.getElem_cons_zero, List.getElem_cons_succ]
       refine AnyT.take (i := 2) (v := ?_) rfl (by kernel_rfl) (by kernel_rfl) (by kernel_rfl) (by kernel_rfl) (fun _ _ _ h => h) (Or.inl ⟨by rfl, ?_⟩) (by assumption) ?_
       rotate_left 1
       · (intro w0 hSw; (try dsimp only at hSw); go_simp; try with_reducible rfl)
       try simp only [Act.put, List.setIfInBounds_toArray, List.set_cons_zero, List.set_cons_succ, List.getElem_toArray, List.getElem_cons_zero, List.getElem_cons_succ]
       refine AnyT.takeA (i := 4) (v := ?_) rfl (by kernel_rfl) (by kernel_rfl) (by kernel_rfl) (fun _ _ _ h => h) (Or.inl ⟨by rfl, ?_⟩) ?_
       rotate_left 1
       · (intro w0 _; go_simp; try with_reducible rfl)
       try simp only [Act.put, List.setIfInBounds_toArray, List.set_cons_zero, List.set_cons_succ, List.getElem_toArray, List.getElem_cons_zero, List.getElem_cons_succ]
       refine AnyT.take (i := 5) (v := ?_) rfl (by kernel_rfl) (by kernel_rfl) (by kernel_rfl) (by kernel_rfl) (fun _ _ _ h => h) (Or.inl ⟨by rfl, ?_⟩) (by assumption) ?_
       rotate_left 1
       · (intro w0 hSw; (try dsimp only at hSw); go_simp; try with_reducible rfl)
       try simp only [Act.put, List.setIfInBounds_toArray, List.set_cons_zero, List.set_cons_succ, List.getElem_toArray, List.getElem_cons_zero, List.getElem_cons_succ]
       refine AnyT.takeA (i := 6) (v := ?_) rfl (by kernel_rfl) (by kernel_rfl) (by kernel_rfl) (fun _ _ _ h => h) (Or.inl ⟨by rfl, ?_⟩) ?_
       rotate_left 1
       · (intro w0 _; go_simp; try with_reducible rfl)
       try simp only [Act.put, List.setIfInBounds_toArray, List.set_cons_zero, List.set_cons_succ, List.getElem_toArray, List.getElem_cons_zero, List.getElem_cons_succ]
       refine AnyT.takeA (i := 7) (v := ?_) rfl (by kernel_rfl) (by kernel_rfl) (by kernel_rfl) (fun _ _ _ h => h) (Or.inl ⟨by rfl, ?_⟩) ?_
       rotate_left 1
       · (intro w0 _; go_simp; try with_reducible rfl)
       try simp only [Act.put, List.setIfInBounds_toArray, List.set_cons_zero, List.set_cons_succ, List.getElem_toArray, List.getElem_cons_zero, List.getElem_cons_succ]
       refine AnyT.take (i := 8) (v := ?_) rfl (by kernel_rfl) (by kernel_rfl) (by kernel_rfl) (by kernel_rfl) (fun _ _ _ h => h) (Or.inl ⟨by rfl, ?_⟩) (by assumption) ?_
       rotate_left 1
       · (intro w0 hSw; (try dsimp only at hSw); go_simp; try with_reducible rfl)
       try simp only [Act.put, List.setIfInBounds_toArray, List.set_cons_zero, List.set_cons_succ, List.getElem_toArray, List.getElem_cons_zero, List.getElem_cons_succ]
       refine AnyT.takeA (i := 9) (v := ?_) rfl (by kernel_rfl) (by kernel_rfl) (by kernel_rfl) (fun _ _ _ h => h) (Or.inl ⟨by rfl, ?_⟩) ?_
       rotate_left 1
       · (intro w0 _; go_simp; try with_reducible rfl)
       try simp only [Act.put, List.setIfInBounds_toArray, List.set_cons_zero, List.set_cons_succ, List.getElem_toArray, List.getElem_cons_zero, List.getElem_cons_succ]
       refine AnyT.call (i := 3) (by kernel_rfl) rfl (fun K hK => ?_)
       try simp only [Act.put, List.setIfInBounds_toArray, List.set_cons_zero, List.set_cons_succ, List.getElem_toArray, List.getElem_cons_zero, List.getElem_cons_succ]
       rw [if_pos (by rfl)]
       go_simp
       (go_at_call 80; refine (Go.Proofs.YtifckjchmjmhoabGreat.drawS.draw p A n c S sn sc d.1 _ T.di T.sg hars.out (by omega) (by omega)).mono ?_; rintro e u1 ⟨B, m, cB, xss, rfl, oB, hB, d1, g1⟩; replace T := T.dice d1 g1; have e0u1 : u1.cell? ⟨w.heap.size, 0, none⟩ = some (.slice S sn sc) := T.r.cell 0; have e1u1 : u1.cell? ⟨w.heap.size, 1, none⟩ = some (.slice R rn rc) := T.r.cell 1; go_wp2_with fail)
       refine hK.out _ _ (fun _ _ => ?_) (fun hKeep => ?_)
       · exact ⟨e0u1, e1u1⟩
       replace hHeld := hKeep (by first | rfl | trivial) hHeld
       clear hK K hKeep
       try simp only [Act.put, List.setIfInBounds_toArray, List.set_cons_zero, List.set_cons_succ, List.getElem_toArray, List.getElem_cons_zero, List.getElem_cons_succ]
       refine AnyT.call (i := 10) (by kernel_rfl) rfl (fun K hK => ?_)
       try simp only [Act.put, List.setIfInBounds_toArray, List.set_cons_zero, List.set_cons_succ, List.getElem_toArray, List.getElem_cons_zero, List.getElem_cons_succ]
       rw [if_pos (by rfl)]
       go_simp
       (go_at_call 54; refine (below p A n c (rn : Int) _ T.di (by omega) (by omega)).mono ?_; rintro e u2 ⟨x, rfl, hx0, hx1, d2, g2⟩; replace T := T.dice d2 g2; obtain ⟨k, rfl⟩ := Int.eq_ofNat_of_zero_le hx0; have hk : k < rn := (by omega); have oB2 := oB.dice g2 hpw2; have e0u2 : u2.cell? ⟨w.heap.size, 0, none⟩ = some (.slice S sn sc) := T.r.cell 0; have e1u2 : u2.cell? ⟨w.heap.size, 1, none⟩ = some (.slice R rn rc) := T.r.cell 1; go_wp2_with fail)
       refine hK.out _ _ (fun _ _ => ?_) (fun hKeep => ?_)
       · exact ⟨e0u2, e1u2⟩
       replace hHeld := hKeep (by first | rfl | trivial) hHeld
       clear hK K hKeep
       try simp only [Act.put, List.setIfInBounds_toArray, List.set_cons_zero, List.set_cons_succ, List.getElem_toArray, List.getElem_cons_zero, List.getElem_cons_succ]
       obtain ⟨rb, roff, lA, ln, lc, hR, hrb, cl, sL, qL⟩ := T.rule hz1 hk
       subst hR
       have hl60 : ln ≤ 60 := by have h1 := (rule_parts (sys_rule2 HO.out (show k < d.2.length by rw [HLR.out]; exact hk))).1; have h2 := (term_len h1).2; have h3 := sL.1; omega
       have hvars := Lib.hid (fun (x : Int) hx => (term_mem (rule_parts (sys_rule2 HO.out (show k < d.2.length by rw [HLR.out]; exact hk))).1 (x := x) hx).1)
       obtain ⟨ls, hls⟩ : ∃ l, (d.2.getD k ([], [])).1 = l := ⟨_, rfl⟩
       rw [hls] at sL hvars
       clear hls
       have i0 : (0 : Int) ≤ (k : Int) := by omega
       have i1 : (k : Int) < (rn : Int) := by omega
       have HSL := Lib.hid sL
       have HSB := Lib.hid (Go.Proofs.YtifckjchmjmhoabGreat.drawSS.OwnR.segs oB2)
       have hT1 := Lib.hid (small_tot hB oB2.1 (by omega))
       have hG1 := Lib.hid (gives_each60 (fun j => Nat.le_trans (hB.2 j) (by omega)))
       clear sL d1 g1 d2 g2 oB hx0 hx1
       refine AnyT.call (i := 11) (by kernel_rfl) rfl (fun K hK => ?_)
       try simp only [Act.put, List.setIfInBounds_toArray, List.set_cons_zero, List.set_cons_succ, List.getElem_toArray, List.getElem_cons_zero, List.getElem_cons_succ]
       rw [if_pos (by rfl)]
       go_simp
       refine hK.out _ _ (fun _ _ => ?_) (fun hKeep => ?_)
       · exact ⟨e0u2, e1u2⟩
       replace hHeld := hKeep (by first | rfl | trivial) hHeld
       clear hK K hKeep
       try simp only [Act.put, List.setIfInBounds_toArray, List.set_cons_zero, List.set_cons_succ, List.getElem_toArray, List.getElem_cons_zero, List.getElem_cons_succ]
       refine AnyT.call (i := 12) (by kernel_rfl) rfl (fun K hK => ?_)
       try simp only [Act.put, List.setIfInBounds_toArray, List.set_cons_zero, List.set_cons_succ, List.getElem_toArray, List.getElem_cons_zero, List.getElem_cons_succ]
       rw [if_pos (by rfl)]
       go_simp
       refine hK.out _ _ (fun _ _ => ?_) (fun hKeep => ?_)
       · exact ⟨e0u2, e1u2⟩
       replace hHeld := hKeep (by first | rfl | trivial) hHeld
       clear hK K hKeep
       try simp only [Act.put, List.setIfInBounds_toArray, List.set_cons_zero, List.set_cons_succ, List.getElem_toArray, List.getElem_cons_zero, List.getElem_cons_succ]
       refine AnyT.call (i := 13) (by kernel_rfl) rfl (fun K hK => ?_)
       try simp only [Act.put, List.setIfInBounds_toArray, List.set_cons_zero, List.set_cons_succ, List.getElem_toArray, List.getElem_cons_zero, List.getElem_cons_succ]
       rw [if_pos (by rfl)]
       go_simp
       refine hK.out _ _ (fun _ _ => ?_) (fun hKeep => ?_)
       · exact ⟨e0u2, e1u2⟩
       replace hHeld := hKeep (by first | rfl | trivial) hHeld
       clear hK K hKeep
       try simp only [Act.put, List.setIfInBounds_toArray, List.set_cons_zero, List.set_cons_succ, List.getElem_toArray, List.getElem_cons_zero, List.getElem_cons_succ]
       refine AnyT.call (i := 14) (by kernel_rfl) rfl (fun K hK => ?_)
       try simp only [Act.put, List.setIfInBounds_toArray, List.set_cons_zero, List.set_cons_succ, List.getElem_toArray, List.getElem_cons_zero, List.getElem_cons_succ]
       rw [if_pos (by rfl)]
       go_simp
       (go_at_call 79; refine (Go.Proofs.YtifckjchmjmhoabGreat.filled.l2Filled B lA m cB ln lc xss ls u2 HSB.out HSL.out hT1.out hl60 hvars.out hG1.out).mono ?_; rintro e u3 ⟨O, on, oc, rfl, oO, b3⟩; have zu2 : w.heap.size ≤ u2.heap.size := T.g.size; replace T := T.next b3; have zu3 := b3.size; have e0u3 : u3.cell? ⟨w.heap.size, 0, none⟩ = some (.slice S sn sc) := T.r.cell 0; have e1u3 : u3.cell? ⟨w.heap.size, 1, none⟩ = some (.slice (some ⟨rb, roff, none⟩) rn rc) := T.r.cell 1; go_wp2_with fail)
       refine hK.out _ _ (fun _ _ => ?_) (fun hKeep => ?_)
       · exact ⟨e0u3, e1u3⟩
       replace hHeld := hKeep (by first | rfl | trivial) hHeld
       clear hK K hKeep
       try simp only [Act.put, List.setIfInBounds_toArray, List.set_cons_zero, List.set_cons_succ, List.getElem_toArray, List.getElem_cons_zero, List.getElem_cons_succ]
       refine AnyT.takeA (i := 15) (v := ?_) rfl (by kernel_rfl) (by kernel_rfl) (by kernel_rfl) (fun _ _ _ h => h) (Or.inl ⟨by rfl, ?_⟩) ?_
       rotate_left 1
       · (intro w0 _; go_simp; try with_reducible rfl)
       try simp only [Act.put, List.setIfInBounds_toArray, List.set_cons_zero, List.set_cons_succ, List.getElem_toArray, List.getElem_cons_zero, List.getElem_cons_succ]
       refine AnyT.takeA (i := 16) (v := ?_) rfl (by kernel_rfl) (by kernel_rfl) (by kernel_rfl) (fun _ _ _ h => h) (Or.inl ⟨by rfl, ?_⟩) ?_
       rotate_left 1
       · (intro w0 _; go_simp; try with_reducible rfl)
       try simp only [Act.put, List.setIfInBounds_toArray, List.set_cons_zero, List.set_cons_succ, List.getElem_toArray, List.getElem_cons_zero, List.getElem_cons_succ]
       refine AnyT.takeA (i := 17) (v := ?_) rfl (by kernel_rfl) (by kernel_rfl) (by kernel_rfl) (fun _ _ _ h => h) (Or.inl ⟨by rfl, ?_⟩) ?_
       rotate_left 1
       · (intro w0 _; go_simp; try with_reducible rfl)
       try simp only [Act.put, List.setIfInBounds_toArray, List.set_cons_zero, List.set_cons_succ, List.getElem_toArray, List.getElem_cons_zero, List.getElem_cons_succ]
       refine AnyT.takeA (i := 18) (v := ?_) rfl (by kernel_rfl) (by kernel_rfl) (by kernel_rfl) (fun _ _ _ h => h) (Or.inl ⟨by rfl, ?_⟩) ?_
       rotate_left 1
       · (intro w0 _; go_simp; try with_reducible rfl)
       try simp only [Act.put, List.setIfInBounds_toArray, List.set_cons_zero, List.set_cons_succ, List.getElem_toArray, List.getElem_cons_zero, List.getElem_cons_succ]
       refine AnyT.takeA (i := 19) (v := ?_) rfl (by kernel_rfl) (by kernel_rfl) (by kernel_rfl) (fun _ _ _ h => h) (Or.inl ⟨by rfl, ?_⟩) ?_
       rotate_left 1
       · (intro w0 _; go_simp; try with_reducible rfl)
       try simp only [Act.put, List.setIfInBounds_toArray, List.set_cons_zero, List.set_cons_succ, List.getElem_toArray, List.getElem_cons_zero, List.getElem_cons_succ]
       refine AnyT.done (by kernel_rfl) ?_ _
       clear e0u1 e1u1 e0u2 e1u2 e0u3 e1u3 cl
       have HT5 := Lib.hid T
       have HOO := Lib.hid oO
       clear T oO b3
       obtain ⟨bf, hbf⟩ : ∃ b, Go.Proofs.YtifckjchmjmhoabGreat.filled.fitsB xss ls = b := ⟨_, rfl⟩
       obtain ⟨ys, hys⟩ : ∃ y, Go.Proofs.YtifckjchmjmhoabGreat.filled.fitL xss ls = y := ⟨_, rfl⟩
       rw [hys] at HOO
       rw [hbf]
       have HYS := Lib.hid (show bf = true → ys.length ≤ 60 from fun e => by rw [← hys]; exact fit_len (hbf.trans e))
       clear hbf hys c0 c1
       cases bf with
       | false =>
         have k0 : u3.cell? ⟨w.heap.size, 0, none⟩ = some (.slice S sn sc) := HT5.out.r.cell 0
         have LAX := Lib.hid (LA.out u3 HT5.out)
         go_wp2_with fail
         refine LAX.out.mono ?_
         rintro e w9 ⟨O9, on9, oc9, xs9, rfl, z1, z2, z3, z4, z5, z6, z7⟩
         have F := Lib.hid (show AnsR w p A n c 65 (.returned (.slice O9 on9 oc9)) w9 from ⟨O9, on9, oc9, xs9, rfl, z1, z2, z3, z4, z5, z6, z7⟩)
         clear z1 z2 z3 z4 z5 z6 z7 LAX HT5
         go_wp2
         go_ret
         exact F.out
       | true =>
         have hon60 : on ≤ 60 := by have h1 := HYS.out rfl; have h2 := Own.len HOO.out; omega
         have LO := Lib.hid (once p A n c 2 u3 HT5.out.di (by omega) (by omega))
         go_wp2_with fail
         refine LO.out.mono ?_
         rintro e w6 ⟨b2, rfl, d6, g6⟩
         have HT6 := Lib.hid (HT5.out.dice d6 g6)
         have HO6 := Lib.hid (Go.Proofs.YtifckjchmjmhoabGreat.drawSig.Own.away HOO.out g6 (fun k e => by injection e with e; omega))
         clear d6 g6 HT5 HOO LO
         cases b2 with
         | true =>
           have F := Lib.hid (ansR_at (L := 65) HT6.out HO6.out (by omega) (by omega))
           clear HT6 HO6
           go_wp2
           go_ret
           exact F.out
         | false =>
           have k0 : w6.cell? ⟨w.heap.size, 0, none⟩ = some (.slice S sn sc) := HT6.out.r.cell 0
           have LU := Lib.hid (drawTermW p A n c S sn sc d.1 2 hars.out (by omega) (by omega) (by omega) (by omega) 2 3 w6 HT6.out.di HT6.out.sg (by omega) (by omega) (by omega))
           go_wp2_with fail
           refine LU.out.mono ?_
           rintro e w7 ⟨U, un, uc, us, rfl, oU, hu1, hu2, husc, d7, g7⟩
           have hw67 : w6.heap.size ≤ w7.heap.size := g7.size
           have HT7 := Lib.hid (HT6.out.dice d7 g7)
           have HO7 := Lib.hid (Go.Proofs.YtifckjchmjmhoabGreat.drawSig.Own.away HO6.out g7 (fun k e => by injection e with e; omega))
           have hu16 : un ≤ 16 := by have : (4 : Nat) ^ 2 = 16 := rfl; omega
           have HUT := Lib.hid (show termOkB d.1 us = true from term_mk (sys_parts HO.out).1 (by have := Own.len oU; omega) husc)
           have hpw7 : p < w7.heap.size := Nat.lt_of_lt_of_le hpw HT7.out.g.size
           have hw6 : w.heap.size ≤ w6.heap.size := HT6.out.g.size
           have T := HT7.out.next (drew_below w7)
           have oU1 := oU.next (drew_below w7)
           have oY1 := HO7.out.next (drew_below w7)
           have c0 : w7.drew.cell? ⟨w.heap.size, 0, none⟩ = some (.slice S sn sc) := T.r.cell 0
           clear k0 d7 g7 HT6 HO6 LU husc oU HT7 HO7
           go_wp2_with fail
           refine AnyT.start (S := (fun w' => w'.cell? ⟨w.heap.size, 0, none⟩ = some (.slice S sn sc))) (fun _ => false) (by kernel_rfl) c0 (fun hHeld => ?_)
           refine AnyT.takeA (i := 0) (v := ?_) rfl (by kernel_rfl) (by kernel_rfl) (by kernel_rfl) (fun _ _ _ h => h) (Or.inl ⟨by rfl, ?_⟩) ?_
           rotate_left 1
           · (intro w0 _; go_simp; try with_reducible rfl)
           try simp only [Act.put, List.setIfInBounds_toArray, List.set_cons_zero, List.set_cons_succ, List.getElem_toArray, List.getElem_cons_zero, List.getElem_cons_succ]
           refine AnyT.take (i := 1) (v := ?_) rfl (by kernel_rfl) (by kernel_rfl) (by kernel_rfl) (by kernel_rfl) (fun _ _ _ h => h) (Or.inl ⟨by rfl, ?_⟩) (by assumption) ?_
           rotate_left 1
           · (intro w0 hSw; (try dsimp only at hSw); go_simp; try with_reducible rfl)
           try simp only [Act.put, List.setIfInBounds_toArray, List.set_cons_zero, List.set_cons_succ, List.getElem_toArray, List.getElem_cons_zero, List.getElem_cons_succ]
           refine AnyT.takeA (i := 2) (v := ?_) rfl (by kernel_rfl) (by kernel_rfl) (by kernel_rfl) (fun _ _ _ h => h) (Or.inl ⟨by rfl, ?_⟩) ?_
           rotate_left 1
           · (intro w0 _; go_simp; try with_reducible rfl)
           try simp only [Act.put, List.setIfInBounds_toArray, List.set_cons_zero, List.set_cons_succ, List.getElem_toArray, List.getElem_cons_zero, List.getElem_cons_succ]
           refine AnyT.takeA (i := 3) (v := ?_) rfl (by kernel_rfl) (by kernel_rfl) (by kernel_rfl) (fun _ _ _ h => h) (Or.inl ⟨by rfl, ?_⟩) ?_
           rotate_left 1
           · (intro w0 _; go_simp; try with_reducible rfl)
           try simp only [Act.put, List.setIfInBounds_toArray, List.set_cons_zero, List.set_cons_succ, List.getElem_toArray, List.getElem_cons_zero, List.getElem_cons_succ]
           refine AnyT.takeA (i := 4) (v := ?_) rfl (by kernel_rfl) (by kernel_rfl) (by kernel_rfl) (fun _ _ _ h => h) (Or.inl ⟨by rfl, ?_⟩) ?_
           rotate_left 1
           · (intro w0 _; go_simp; try with_reducible rfl)
           try simp only [Act.put, List.setIfInBounds_toArray, List.set_cons_zero, List.set_cons_succ, List.getElem_toArray, List.getElem_cons_zero, List.getElem_cons_succ]
           refine AnyT.takeA (i := 5) (v := ?_) rfl (by kernel_rfl) (by kernel_rfl) (by kernel_rfl) (fun _ _ _ h => h) (Or.inl ⟨by rfl, ?_⟩) ?_
           rotate_left 1
           · (intro w0 _; go_simp; try with_reducible rfl)
           try simp only [Act.put, List.setIfInBounds_toArray, List.set_cons_zero, List.set_cons_succ, List.getElem_toArray, List.getElem_cons_zero, List.getElem_cons_succ]
           refine AnyT.takeA (i := 7) (v := ?_) rfl (by kernel_rfl) (by kernel_rfl) (by kernel_rfl) (fun _ _ _ h => h) (Or.inl ⟨by rfl, ?_⟩) ?_
           rotate_left 1
           · (intro w0 _; go_simp; try with_reducible rfl)
           try simp only [Act.put, List.setIfInBounds_toArray, List.set_cons_zero, List.set_cons_succ, List.getElem_toArray, List.getElem_cons_zero, List.getElem_cons_succ]
           refine AnyT.call (i := 6) (by kernel_rfl) rfl (fun K hK => ?_)
           try simp only [Act.put, List.setIfInBounds_toArray, List.set_cons_zero, List.set_cons_succ, List.getElem_toArray, List.getElem_cons_zero, List.getElem_cons_succ]
           rw [if_pos (by rfl)]
           go_simp
           (go_at_call 54; refine (below p A n c (un : Int) _ T.di (by omega) (by omega)).mono ?_; rintro e u9 ⟨x, rfl, hx0, hx1, d9, g9⟩; replace T := T.dice d9 g9; obtain ⟨a, rfl⟩ := Int.eq_ofNat_of_zero_le hx0; have ha : a < un := (by omega); have oU2 := Go.Proofs.YtifckjchmjmhoabGreat.drawSig.Own.away oU1 g9 (fun k e => by injection e with e; omega); have oY2 := Go.Proofs.YtifckjchmjmhoabGreat.drawSig.Own.away oY1 g9 (fun k e => by injection e with e; omega); have e0u9 : u9.cell? ⟨w.heap.size, 0, none⟩ = some (.slice S sn sc) := T.r.cell 0; go_wp2_with fail)
           refine hK.out _ _ (fun _ _ => ?_) (fun hKeep => ?_)
           · exact e0u9
           replace hHeld := hKeep (by first | rfl | trivial) hHeld
           clear hK K hKeep
           try simp only [Act.put, List.setIfInBounds_toArray, List.set_cons_zero, List.set_cons_succ, List.getElem_toArray, List.getElem_cons_zero, List.getElem_cons_succ]
           have haU : a < us.length := by have := Own.len oU2; omega
           have LP := Lib.hid (Go.Proofs.YtifckjchmjmhoabGreat.put.l3Put S U O sn sc un uc on oc d.1 us ys a u9 T.sg.seg (Own.seg oU2) (Own.seg oY2) (look.own_cap oY2).2.2 (by omega) (by omega) hon60 (look.own_cap oU2).1 (look.own_cap oU2).2.1 HUT.out haU)
           clear d9 g9 oU1 oY1 oU2 oY2 hx0 hx1 haU
           refine AnyT.call (i := 8) (by kernel_rfl) rfl (fun K hK => ?_)
           try simp only [Act.put, List.setIfInBounds_toArray, List.set_cons_zero, List.set_cons_succ, List.getElem_toArray, List.getElem_cons_zero, List.getElem_cons_succ]
           rw [if_pos (by rfl)]
           go_simp
           (go_at_call 82; refine LP.out.mono ?_; rintro e u10 ⟨X, xn, xc, rfl, oX, b10⟩; have zu9 : w.heap.size ≤ u9.heap.size := T.g.size; replace T := T.next b10; have e0u10 : u10.cell? ⟨w.heap.size, 0, none⟩ = some (.slice S sn sc) := T.r.cell 0; go_wp2_with fail)
           refine hK.out _ _ (fun _ _ => ?_) (fun hKeep => ?_)
           · exact e0u10
           replace hHeld := hKeep (by first | rfl | trivial) hHeld
           clear hK K hKeep
           try simp only [Act.put, List.setIfInBounds_toArray, List.set_cons_zero, List.set_cons_succ, List.getElem_toArray, List.getElem_cons_zero, List.getElem_cons_succ]
           refine AnyT.takeA (i := 9) (v := ?_) rfl (by kernel_rfl) (by kernel_rfl) (by kernel_rfl) (fun _ _ _ h => h) (Or.inl ⟨by rfl, ?_⟩) ?_
           rotate_left 1
           · (intro w0 _; go_simp; try with_reducible rfl)
           try simp only [Act.put, List.setIfInBounds_toArray, List.set_cons_zero, List.set_cons_succ, List.getElem_toArray, List.getElem_cons_zero, List.getElem_cons_succ]
           refine AnyT.takeA (i := 10) (v := ?_) rfl (by kernel_rfl) (by kernel_rfl) (by kernel_rfl) (fun _ _ _ h => h) (Or.inl ⟨by rfl, ?_⟩) ?_
           rotate_left 1
           · (intro w0 _; go_simp; try with_reducible rfl)
           try simp only [Act.put, List.setIfInBounds_toArray, List.set_cons_zero, List.set_cons_succ, List.getElem_toArray, List.getElem_cons_zero, List.getElem_cons_succ]
           refine AnyT.takeA (i := 11) (v := ?_) rfl (by kernel_rfl) (by kernel_rfl) (by kernel_rfl) (fun _ _ _ h => h) (Or.inl ⟨by rfl, ?_⟩) ?_
           rotate_left 1
           · (intro w0 _; go_simp; try with_reducible rfl)
           try simp only [Act.put, List.setIfInBounds_toArray, List.set_cons_zero, List.set_cons_succ, List.getElem_toArray, List.getElem_cons_zero, List.getElem_cons_succ]
           refine AnyT.takeA (i := 12) (v := ?_) rfl (by kernel_rfl) (by kernel_rfl) (by kernel_rfl) (fun _ _ _ h => h) (Or.inl ⟨by rfl, ?_⟩) ?_
           rotate_left 1
           · (intro w0 _; go_simp; try with_reducible rfl)
           try simp only [Act.put, List.setIfInBounds_toArray, List.set_cons_zero, List.set_cons_succ, List.getElem_toArray, List.getElem_cons_zero, List.getElem_cons_succ]
           refine AnyT.takeA (i := 13) (v := ?_) rfl (by kernel_rfl) (by kernel_rfl) (by kernel_rfl) (fun _ _ _ h => h) (Or.inl ⟨by rfl, ?_⟩) ?_
           rotate_left 1
           · (intro w0 _; go_simp; try with_reducible rfl)
           try simp only [Act.put, List.setIfInBounds_toArray, List.set_cons_zero, List.set_cons_succ, List.getElem_toArray, List.getElem_cons_zero, List.getElem_cons_succ]
           refine AnyT.done (by kernel_rfl) ?_ _
           clear e0u9 e0u10
           have HT10 := Lib.hid T
           have HOX := Lib.hid oX
           clear T oX b10 c0
           obtain ⟨bf, hbf⟩ : ∃ b, Go.Proofs.YtifckjchmjmhoabGreat.put.fitB d.1 us ys a = b := ⟨_, rfl⟩
           obtain ⟨zs, hzs⟩ : ∃ y, Go.Proofs.YtifckjchmjmhoabGreat.put.fitL d.1 us ys a = y := ⟨_, rfl⟩
           rw [hzs] at HOX
           rw [hbf]
           have HZ := Lib.hid (show bf = true → zs.length ≤ 60 from fun e => by rw [← hzs]; exact put_len (hbf.trans e))
           clear hbf hzs
           cases bf with
           | true =>
             have hxn : xn ≤ 65 := by have h1 := HZ.out rfl; have h2 := Own.len HOX.out; omega
             have F := Lib.hid (ansR_at (L := 65) HT10.out HOX.out (by have := HT10.out.g.size; omega) hxn)
             clear HT10 HOX
             go_wp2
             go_ret
             exact F.out
           | false =>
             have k0 : u10.cell? ⟨w.heap.size, 0, none⟩ = some (.slice S sn sc) := HT10.out.r.cell 0
             have LAX := Lib.hid (LA.out u10 HT10.out)
             go_wp2_with fail
             refine LAX.out.mono ?_
             rintro e w9 ⟨O9, on9, oc9, xs9, rfl, z1, z2, z3, z4, z5, z6, z7⟩
             have F := Lib.hid (show AnsR w p A n c 65 (.returned (.slice O9 on9 oc9)) w9 from ⟨O9, on9, oc9, xs9, rfl, z1, z2, z3, z4, z5, z6, z7⟩)
             clear z1 z2 z3 z4 z5 z6 z7 LAX HT10
             go_wp2
             go_ret
             exact F.out
end drawL7
end
section
namespace drawL7
open Go.RowKit base ints sig term termOk termFacts cursor marks app appAt sym segs segsHelp kinds dice drawTerm drawAny drawSub drawTwo drawTermW drawX drawRule drawKnown drawSys drawSysAny drawSysD ruleMath ruleSpec gives heldT
open shape (Sh Dat nc dft sI sz sz_ints rd_ints)
open kindsR (sRule sSystem sRuleS sSig)
set_option maxRecDepth 100000
structure St (w : World) (p lo : Nat) (A : Option Addr) (n c : Nat) (S : Option Addr) (sn sc : Nat) (sg : List Int) (R : Option Addr) (rn rc : Nat) (D : List (Dat sRule)) (O : Option Addr) (on oc : Nat) (t : List Int) (wr : World) : Prop where
 s : RdQ wr (OutR wr p (blk R)) sI [.slice S sn sc] sg
 h9 : sg.length ≤ 9
 own : OwnQ wr p lo 113 sRule R rn rc D
 hM : SmallD 13 D
 t : Go.Proofs.YtifckjchmjmhoabGreat.drawTerm.Rd wr p wr.heap.size O on t
 ct : Cap O on oc
 h65 : on ≤ 65
 di : Dice wr p A n c
 g : w.grownBy wr (some p)
section
variable {w : World} {p lo : Nat} {A : Option Addr} {n c : Nat} {S : Option Addr} {sn sc : Nat} {sg : List Int} {R : Option Addr} {rn rc : Nat} {D : List (Dat sRule)} {O : Option Addr} {on oc : Nat} {t : List Int} {wr w' : World}
theorem rdT_put {N i : Nat} {T : TypeId} {a1 a2 : Option Addr} {l1 k1 l2 k2 : Nat} {u : Value} (h : Go.Proofs.YtifckjchmjmhoabGreat.drawTerm.Rd wr p wr.heap.size O on t) (hN : Row wr N T #[.slice a1 l1 k1, .slice a2 l2 k2]) : Go.Proofs.YtifckjchmjmhoabGreat.drawTerm.Rd (wr.setCell ⟨N, i, none⟩ u) p (wr.setCell ⟨N, i, none⟩ u).heap.size O on t := by
 refine ⟨h.1, fun hn => ?_⟩
 obtain ⟨b, off, e, hb, hne, hc⟩ := h.2 hn
 refine ⟨b, off, e, by simpa using hb, hne, fun j hj => ?_⟩
 have hbN : b ≠ N := fun e => by
   subst e
   have h1 := hc j hj
   rw [hN.cell] at h1
   have hlt : off + j = 0 ∨ off + j = 1 ∨ 2 ≤ off + j := by omega
   rcases hlt with e2 | e2 | e2
   · rw [e2] at h1; cases h1
   · rw [e2] at h1; cases h1
   · rw [Array.getElem?_eq_none (by simpa using e2)] at h1; cases h1
 exact (World.cell?_of_block (Below.heap_setCell wr _ u b (by show b ≠ N; exact hbN))).trans (hc j hj)
theorem St.put {N i : Nat} {T : TypeId} {a1 a2 : Option Addr} {l1 k1 l2 k2 : Nat} {u : Value} (h : St w p lo A n c S sn sc sg R rn rc D O on oc t wr) (hN : Row wr N T #[.slice a1 l1 k1, .slice a2 l2 k2]) (hNlo : N < lo) (hNp : N ≠ p) (hw : w.heap.size ≤ N) :
   St w p lo A n c S sn sc sg R rn rc D O on oc t (wr.setCell ⟨N, i, none⟩ u) := by
 have hne : blk R ≠ some N := fun e => by have := (h.own.ge _ e).1; omega
 refine ⟨ints_put h.s hN i u, h.h9, ownQ_put h.own hN hne i u, h.hM, rdT_put h.t hN, h.ct, h.h65, ?_, ?_⟩
 · obtain ⟨j, hh, dd⟩ := h.di
   refine ⟨j, hh, dd.row.far (fun e => hNp e.symm) _, dd.le, fun hp => ?_, dd.hn⟩
   obtain ⟨b, off, e, hb, hc⟩ := dd.s hp
   refine ⟨b, off, e, hb, fun q hq => ?_⟩
   obtain ⟨x, x0, x1, hx⟩ := hc q hq
   have hbN : b ≠ N := fun e => by
     subst e
     rw [hN.cell] at hx
     have hlt : off + q = 0 ∨ off + q = 1 ∨ 2 ≤ off + q := by omega
     rcases hlt with e2 | e2 | e2
     · rw [e2] at hx; cases hx
     · rw [e2] at hx; cases hx
     · rw [Array.getElem?_eq_none (by simpa using e2)] at hx; cases hx
   exact ⟨x, x0, x1, (World.cell?_of_block (Below.heap_setCell wr _ u b (by show b ≠ N; exact hbN))).trans hx⟩
 · exact ⟨h.g.os, h.g.tape, h.g.output, by simpa using h.g.size, fun k hk hne => (Below.heap_setCell wr _ u k (by show k ≠ N; omega)).trans (h.g.block k hk hne)⟩
theorem St.from {w0 : World} (h : St w p lo A n c S sn sc sg R rn rc D O on oc t wr) (hg : w0.grownBy w (some p)) : St w0 p lo A n c S sn sc sg R rn rc D O on oc t wr := ⟨h.s, h.h9, h.own, h.hM, h.t, h.ct, h.h65, h.di, hg.trans h.g⟩
theorem St.dice (h : St w p lo A n c S sn sc sg R rn rc D O on oc t wr) (hd : Dice w' p A n c) (hg : wr.grownBy w' (some p)) (hp : p < lo) : St w p lo A n c S sn sc sg R rn rc D O on oc t w' :=
 ⟨outR_dice h.s hg, h.h9, h.own.dice hg hp, h.hM, by
   refine ⟨h.t.1, fun hn => ?_⟩
   obtain ⟨b, off, e, hb, hne, hc⟩ := h.t.2 hn
   exact ⟨b, off, e, Nat.lt_of_lt_of_le hb hg.size, hne, fun j hj => (World.cell?_of_block (hg.block b hb (fun e => by injection e with e; exact hne e))).trans (hc j hj)⟩, h.ct, h.h65, hd, h.g.trans hg⟩
theorem St.next (h : St w p lo A n c S sn sc sg R rn rc D O on oc t wr) (hb : Below wr.heap.size wr w') : St w p lo A n c S sn sc sg R rn rc D O on oc t w' :=
 ⟨outR_below h.s hb, h.h9, h.own.below hb, h.hM, by
   refine ⟨h.t.1, fun hn => ?_⟩
   obtain ⟨b, off, e, hb2, hne, hc⟩ := h.t.2 hn
   exact ⟨b, off, e, Nat.lt_of_lt_of_le hb2 hb.size, hne, fun j hj => (hb.cell (p := ⟨b, off + j, none⟩) hb2).trans (hc j hj)⟩, h.ct, h.h65, h.di.next hb, h.g.trans (grown_of_below hb _)⟩
theorem St.sz (h : St w p lo A n c S sn sc sg R rn rc D O on oc t wr) : sz sSystem ((sg, D) : List Int × List (Dat sRule)) ≤ 2000 := by
 have h1 := sz_small h.hM
 have h2 := h.h9
 show Go.Proofs.YtifckjchmjmhoabGreat.shape.sz sI sg + Go.Proofs.YtifckjchmjmhoabGreat.shape.sz sRuleS D ≤ 2000
 rw [Go.Proofs.YtifckjchmjmhoabGreat.shape.sz_ints]
 omega
end
def AnsSysT (w : World) (p : Nat) (A : Option Addr) (n c : Nat) (e : Ending) (w' : World) : Prop :=
 ∃ S sn sc sg R rn rc D O on oc t, e = .returned (.tuple #[.agg #[.slice S sn sc, .slice R rn rc], .slice O on oc]) ∧ St w p w.heap.size A n c S sn sc sg R rn rc D O on oc t w'
set_option maxHeartbeats 4000000 in
theorem l7Draw (p : Nat) (A : Option Addr) (n c : Nat) (w : World) (hd : Dice w p A n c) :
   Calls Tryz.prog 26 #[.pointer (some ⟨p, 0, none⟩)] w (AnsSysT w p A n c) := by
 obtain ⟨W, hW, rN, bel⟩ := box1 w 29 #[.slice none 0 0, .slice none 0 0]
 have hpw := hd.lt
 have L1 := Lib.hid (drawSysAny p A n c W (hd.next bel))
 have HW := Lib.hid hW
 have g0 := grown_of_below bel (some p)
 have zN : w.heap.size < W.heap.size := rN.lt
 clear hW hd
 go_enter Tryz.func26, Tryz.ntmps26
 go_wp2_with fail
 rw [← HW.out]
 refine L1.out.mono ?_
 rintro e w1 ⟨S, sn, sc, sg, R, rn, rc, D, rfl, s1, h9, o1, hM, d1, g1⟩
 have rN1 := Row.away rN g1 (fun e => by injection e with e; omega)
 obtain ⟨W2, hW2, r2, b2⟩ := box1 w1 29 #[.slice S sn sc, .slice R rn rc]
 have s2 := outR_below s1 b2
 have o2 := o1.below b2
 have d2 := d1.next b2
 have g2 := (g0.trans g1).trans (grown_of_below b2 (some p))
 have rN2 := rN1.next b2
 have zW1 : W.heap.size ≤ w1.heap.size := g1.size
 have BD := drew_below W2
 have LT := Lib.hid (l7DrawTerm p A n c S sn sc R rn rc ((sg, D) : List Int × List (Dat sRule)) W2.drew (d2.next BD) (RdQ.cat (ca := [_]) (cb := [_]) ((outR_below s2 BD).mono fun b hb => ⟨hb.1, hb.2.1⟩) ((o2.below BD).rdq (by omega))) (by
   have h1 := sz_small hM
   show Go.Proofs.YtifckjchmjmhoabGreat.shape.sz sI sg + Go.Proofs.YtifckjchmjmhoabGreat.shape.sz sRuleS D ≤ 2000
   rw [Go.Proofs.YtifckjchmjmhoabGreat.shape.sz_ints]
   omega))
 have rD := r2.next BD
 have HN2 := Lib.hid (rN2.next BD)
 have HR2 := Lib.hid rD
 have HS := Lib.hid (show RdQ W2.drew (OutR W2.drew p (blk R)) sI [.slice S sn sc] sg ∧ OwnQ W2.drew p W.heap.size 113 sRule R rn rc D ∧ w.grownBy W2.drew (some p) from ⟨outR_below s2 BD, o2.below BD, g2.trans (grown_of_below BD _)⟩)
 have HMM := Lib.hid (And.intro h9 hM)
 have c0 : W2.drew.cell? ⟨w1.heap.size, 0, none⟩ = some (.slice S sn sc) := rD.cell 0
 have c1 : W2.drew.cell? ⟨w1.heap.size, 1, none⟩ = some (.slice R rn rc) := rD.cell 1
 have HW2 := Lib.hid hW2
 have zo : w1.heap.size < W2.heap.size := r2.lt
 clear s1 o1 d1 g1 rN1 rN bel g0 s2 o2 d2 g2 rN2 BD rD r2 b2 hW2 L1 HW h9 hM
 go_upto_region 2 with fail
 rw [← HW2.out]
 clear HW2
 generalize w1.heap.size = o at *
 refine AnyT.start (S := (fun w' => w'.cell? ⟨o, 0, none⟩ = some (.slice S sn sc) ∧ w'.cell? ⟨o, 1, none⟩ = some (.slice R rn rc))) (fun _ => false) (by kernel_rfl) ⟨c0, c1⟩ (fun hHeld => ?_)
 refine AnyT.take (i := 0) (v := ?_) rfl (by kernel_rfl) (by kernel_rfl) (by kernel_rfl) (by kernel_rfl) (fun _ _ _ h => h) (Or.inl ⟨by rfl, ?_⟩) (by assumption) ?_
 rotate_left 1
 · (intro w0 hSw; (try dsimp only at hSw); go_simp; try with_reducible rfl)
 try simp only [Act.put, List.setIfInBounds_toArray, List.set_cons_zero, List.set_cons_succ, List.getElem_toArray, List.getElem_cons_zero, List.getElem_cons_succ]
 refine AnyT.takeA (i := 1) (v := ?_) rfl (by kernel_rfl) (by kernel_rfl) (by kernel_rfl) (fun _ _ _ h => h) (Or.inl ⟨by rfl, ?_⟩) ?_
 rotate_left 1
 · (intro w0 _; go_simp; try with_reducible rfl)
 try simp only [Act.put, List.setIfInBounds_toArray, List.set_cons_zero, List.set_cons_succ, List.getElem_toArray, List.getElem_cons_zero, List.getElem_cons_succ]
 refine AnyT.take (i := 2) (v := ?_) rfl (by kernel_rfl) (by kernel_rfl) (by kernel_rfl) (by kernel_rfl) (fun _ _ _ h => h) (Or.inl ⟨by rfl, ?_⟩) (by assumption) ?_
 rotate_left 1
 · (intro w0 hSw; (try dsimp only at hSw); go_simp; try with_reducible rfl)
 try simp only [Act.put, List.setIfInBounds_toArray, List.set_cons_zero, List.set_cons_succ, List.getElem_toArray, List.getElem_cons_zero, List.getElem_cons_succ]
 refine AnyT.call (i := 3) (by kernel_rfl) rfl (fun K hK => ?_)
 try simp only [Act.put, List.setIfInBounds_toArray, List.set_cons_zero, List.set_cons_succ, List.getElem_toArray, List.getElem_cons_zero, List.getElem_cons_succ]
 rw [if_pos (by rfl)]
 go_simp
 (go_at_call 51; refine LT.out.mono ?_; rintro e w3 ⟨O, on, oc, t, rfl, tR, tc1, tc2, tc3, t65, d3, g3⟩; have rM := Row.away HN2.out g3 (fun e => by injection e with e; omega); have rO := Row.away HR2.out g3 (fun e => by injection e with e; omega); have e0 : w3.cell? ⟨o, 0, none⟩ = some (.slice S sn sc) := rO.cell 0; have e1 : w3.cell? ⟨o, 1, none⟩ = some (.slice R rn rc) := rO.cell 1; go_wp2_with fail)
 refine hK.out _ _ (fun _ _ => ?_) (fun hKeep => ?_)
 · exact ⟨e0, e1⟩
 replace hHeld := hKeep (by first | rfl | trivial) hHeld
 clear hK K hKeep
 try simp only [Act.put, List.setIfInBounds_toArray, List.set_cons_zero, List.set_cons_succ, List.getElem_toArray, List.getElem_cons_zero, List.getElem_cons_succ]
 have y0 : w3.cell? ⟨w.heap.size, 0, none⟩ = some (.slice none 0 0) := rM.cell 0
 have y1 : w3.cell? ⟨w.heap.size, 1, none⟩ = some (.slice none 0 0) := rM.cell 1
 have g0 := rM.free 0
 have g1 := rM.free 1
 have ra := rM.put 0 (.slice S sn sc)
 have y2 : (w3.setCell ⟨w.heap.size, 0, none⟩ (.slice S sn sc)).cell? ⟨w.heap.size, 1, none⟩ = some (.slice none 0 0) := ra.cell 1
 have g2 := ra.free 1
 have rb := ra.put 1 (.slice R rn rc)
 have u0 : ((w3.setCell ⟨w.heap.size, 0, none⟩ (.slice S sn sc)).setCell ⟨w.heap.size, 1, none⟩ (.slice R rn rc)).cell? ⟨w.heap.size, 0, none⟩ = some (.slice S sn sc) := rb.cell 0
 have u1 : ((w3.setCell ⟨w.heap.size, 0, none⟩ (.slice S sn sc)).setCell ⟨w.heap.size, 1, none⟩ (.slice R rn rc)).cell? ⟨w.heap.size, 1, none⟩ = some (.slice R rn rc) := rb.cell 1
 have T3 : St w p W.heap.size A n c S sn sc sg R rn rc D O on oc t w3 := ⟨outR_dice HS.out.1 g3, HMM.out.1, HS.out.2.1.dice g3 (by omega), HMM.out.2, tR, ⟨tc1, tc2, tc3⟩, t65, d3, HS.out.2.2.trans g3⟩
 have T4 := (T3.put (i := 0) (u := .slice S sn sc) rM zN (by omega) (Nat.le_refl _)).put (i := 1) (u := .slice R rn rc) ra zN (by omega) (Nat.le_refl _)
 have T5 : St w p w.heap.size A n c S sn sc sg R rn rc D O on oc t _ := ⟨T4.s, T4.h9, T4.own.lower (Nat.le_of_lt zN), T4.hM, T4.t, T4.ct, T4.h65, T4.di, T4.g⟩
 have F := Lib.hid (show AnsSysT w p A n c (.returned (.tuple #[.agg #[.slice S sn sc, .slice R rn rc], .slice O on oc])) ((w3.setCell ⟨w.heap.size, 0, none⟩ (.slice S sn sc)).setCell ⟨w.heap.size, 1, none⟩ (.slice R rn rc)) from ⟨_, _, _, _, _, _, _, _, _, _, _, _, rfl, T5⟩)
 have a0 := (rO.far (show o ≠ w.heap.size by omega) (p := ⟨w.heap.size, 0, none⟩) (.slice S sn sc)).far (show o ≠ w.heap.size by omega) (p := ⟨w.heap.size, 1, none⟩) (.slice R rn rc)
 have HA0 := Lib.hid a0
 clear T3 T4 T5 ra rb rM rO a0 tR tc1 tc2 tc3 d3 g3 HS HN2 HR2
 refine AnyT.call (i := 4) (by kernel_rfl) rfl (fun K hK => ?_)
 try simp only [Act.put, List.setIfInBounds_toArray, List.set_cons_zero, List.set_cons_succ, List.getElem_toArray, List.getElem_cons_zero, List.getElem_cons_succ]
 rw [if_pos (by rfl)]
 go_simp
 refine hK.out _ _ (fun _ _ => ?_) (fun hKeep => ?_)
 · exact ⟨HA0.out.cell 0, HA0.out.cell 1⟩
 replace hHeld := hKeep (by first | rfl | trivial) hHeld
 clear hK K hKeep
 try simp only [Act.put, List.setIfInBounds_toArray, List.set_cons_zero, List.set_cons_succ, List.getElem_toArray, List.getElem_cons_zero, List.getElem_cons_succ]
 refine AnyT.takeA (i := 5) (v := ?_) rfl (by kernel_rfl) (by kernel_rfl) (by kernel_rfl) (fun _ _ _ h => h) (Or.inl ⟨by rfl, ?_⟩) ?_
 rotate_left 1
 · (intro w0 _; go_simp; try with_reducible rfl)
 try simp only [Act.put, List.setIfInBounds_toArray, List.set_cons_zero, List.set_cons_succ, List.getElem_toArray, List.getElem_cons_zero, List.getElem_cons_succ]
 refine AnyT.done (by kernel_rfl) ?_ _
 clear e0 e1 c0 c1
 go_wp2
 exact bodyPost_ret (v := .tuple #[.agg #[.slice S sn sc, .slice R rn rc], .slice O on oc]) (by simp [results, Tryz.results26, go_sem, u0, u1]) rfl F.out
end drawL7
end
section
namespace lawS
open Go.RowKit base ints sig term marks app sym segs kinds shape kindsR same ruleSpec
set_option maxRecDepth 100000
structure Sy (w : World) (o : Nat) (S : Option Addr) (sn sc : Nat) (R : Option Addr) (rn rc : Nat) (d : Dat sSystem) (u : Value) (t : List Int) (wr : World) : Prop where
 s : Rd wr wr.heap.size sSystem [.slice S sn sc, .slice R rn rc] d
 t : Rd wr wr.heap.size sI [u] t
 r : Row wr o 29 #[.slice S sn sc, .slice R rn rc]
 b : Below w.heap.size w wr
section
variable {w : World} {o : Nat} {S : Option Addr} {sn sc : Nat} {R : Option Addr} {rn rc : Nat} {d : Dat sSystem} {u : Value} {t : List Int} {wr w' : World}
theorem Sy.next (h : Sy w o S sn sc R rn rc d u t wr) (hb : Below wr.heap.size wr w') : Sy w o S sn sc R rn rc d u t w' := ⟨h.s.next hb, h.t.next hb, h.r.next hb, next_trans h.b hb⟩
theorem Sy.c0 (h : Sy w o S sn sc R rn rc d u t wr) : wr.cell? ⟨o, 0, none⟩ = some (.slice S sn sc) := h.r.cell 0
theorem Sy.c1 (h : Sy w o S sn sc R rn rc d u t wr) : wr.cell? ⟨o, 1, none⟩ = some (.slice R rn rc) := h.r.cell 1
end
end lawS
end
section
namespace drawL9
open Go.RowKit base ruleMath ruleSpec ints sig term termOk termFacts cursor marks app appAt sym segs segsHelp kinds dice drawTerm drawAny drawSub drawTwo drawX drawRule drawKnown drawSys drawSysD drawL7 heldT
open shape (Sh Dat nc dft sI sz sz_ints rd_ints)
open kindsR (sRule sSystem sRuleS sSig)
set_option maxRecDepth 100000
theorem min20 (w : World) : Calls Tryz.prog 84 #[.int .i64 20, .int .i64 4] w fun e w' => w = w' ∧ e = .returned (.int .i64 4) := by
 go_enter Tryz.func84, Tryz.ntmps84
 go_wp2
 go_ret
 exact ⟨rfl, rfl⟩
set_option maxHeartbeats 1000000 in
theorem num20 (p : Nat) (A : Option Addr) (n c : Nat) (w : World) (hd : Dice w p A n c) :
   Calls Tryz.prog 53 #[.pointer (some ⟨p, 0, none⟩), .int .i64 20] w (AnsAny w p A n c) := by
 have L := Lib.hid (once p A n c 10 w hd (by omega) (by omega))
 go_enter Tryz.func53, Tryz.ntmps53
 go_wp2_with fail
 refine L.out.mono ?_
 rintro e w1 ⟨b, rfl, d1, g1⟩
 have HG := Lib.hid g1
 clear L g1
 cases b with
 | true =>
   go_wp2_with fail
   refine (odd p A n c w1 d1).mono ?_
   rintro e w2 ⟨y, rfl, d2, g2⟩
   have HG2 := Lib.hid (HG.out.trans g2)
   obtain ⟨W, hW⟩ : ∃ W, W = w2.alloc (.cells #[.int .i64 (-1), .int .i64 20, .int .i64 21, .int .i64 y] 2) := ⟨_, rfl⟩
   have r3 : Row W w2.heap.size 2 #[.int .i64 (-1), .int .i64 20, .int .i64 21, .int .i64 y] := by rw [hW]; exact Row.new _ _ _
   have b3 : Below w2.heap.size w2 W := by rw [hW]; exact (Below.refl _ _).alloc (Nat.le_refl _) _
   have d3 := d2.next b3
   have hp2 := d2.lt
   have HW := Lib.hid hW
   clear g2 HG d1 d2 hW
   have L4 := Lib.hid (below p A n c 4 W d3 (by omega) (by omega))
   go_wp2_with fail
   rw [← HW.out]
   refine L4.out.mono ?_
   rintro e w4 ⟨x, rfl, x0, x1, d4, g4⟩
   have r4 := Row.away r3 g4 (fun e => by injection e with e; omega)
   have HG4 := Lib.hid ((HG2.out.trans (grown_of_below b3 (some p))).trans g4)
   have HD4 := Lib.hid d4
   have q0 : w4.cell? ⟨w2.heap.size, 0, none⟩ = some (.int .i64 (-1)) := r4.cell 0
   have q1 : w4.cell? ⟨w2.heap.size, 1, none⟩ = some (.int .i64 20) := r4.cell 1
   have q2 : w4.cell? ⟨w2.heap.size, 2, none⟩ = some (.int .i64 21) := r4.cell 2
   have q3 : w4.cell? ⟨w2.heap.size, 3, none⟩ = some (.int .i64 y) := r4.cell 3
   have hx : x = 0 ∨ x = 1 ∨ x = 2 ∨ x = 3 := by omega
   clear x0 x1 d4 g4 r4 r3 b3 d3 HW L4 HG2
   rcases hx with rfl | rfl | rfl | rfl <;> (go_wp2; go_ret; exact ⟨_, rfl, HD4.out, HG4.out⟩)
 | false =>
   go_wp2_with fail
   refine (once p A n c 2 w1 d1 (by omega) (by omega)).mono ?_
   rintro e w2 ⟨b2, rfl, d2, g2⟩
   have HG2 := Lib.hid (HG.out.trans g2)
   clear g2 d1 HG
   cases b2 with
   | true =>
     go_wp2_with fail
     refine (min20 w2).mono ?_
     rintro e w3 ⟨rfl, rfl⟩
     go_wp2_with fail
     refine (below p A n c 5 w2 d2 (by omega) (by omega)).mono ?_
     rintro e w4 ⟨x, rfl, -, -, d4, g4⟩
     have F := Lib.hid (show AnsAny w p A n c (.returned (.int .i64 x)) w4 from ⟨x, rfl, d4, HG2.out.trans g4⟩)
     clear d4 g4 HG2 d2
     go_wp2
     go_ret
     exact F.out
   | false =>
     go_wp2_with fail
     refine (below p A n c 21 w2 d2 (by omega) (by omega)).mono ?_
     rintro e w4 ⟨x, rfl, -, -, d4, g4⟩
     have F := Lib.hid (show AnsAny w p A n c (.returned (.int .i64 x)) w4 from ⟨x, rfl, d4, HG2.out.trans g4⟩)
     clear d4 g4 HG2 d2
     go_wp2
     go_ret
     exact F.out
set_option maxHeartbeats 1000000 in
theorem drawSteps9 (p : Nat) (A : Option Addr) (n c : Nat) (w : World) (hd : Dice w p A n c) :
   Calls Tryz.prog 27 #[.pointer (some ⟨p, 0, none⟩)] w (AnsAny w p A n c) := by
 have L := Lib.hid (once p A n c 12 w hd (by omega) (by omega))
 go_enter Tryz.func27, Tryz.ntmps27
 go_wp2_with fail
 refine L.out.mono ?_
 rintro e w1 ⟨b, rfl, d1, g1⟩
 have HG := Lib.hid g1
 clear L g1
 cases b with
 | true =>
   go_wp2_with fail
   refine (num20 p A n c w1 d1).mono ?_
   rintro e w2 ⟨x, rfl, d2, g2⟩
   have F := Lib.hid (show AnsAny w p A n c (.returned (.int .i64 x)) w2 from ⟨x, rfl, d2, HG.out.trans g2⟩)
   clear d2 g2 HG d1
   go_wp2
   go_ret
   exact F.out
 | false =>
   go_wp2_with fail
   refine (below p A n c 5 w1 d1 (by omega) (by omega)).mono ?_
   rintro e w2 ⟨x, rfl, x0, x1, d2, g2⟩
   have F := Lib.hid (show AnsAny w p A n c (.returned (.int .i64 x)) w2 from ⟨x, rfl, d2, HG.out.trans g2⟩)
   clear x0 x1 d2 g2 HG d1
   go_wp2
   go_ret
   exact F.out
def AnsST5 (w : World) (e : Ending) (w' : World) : Prop :=
 ∃ S sn sc R rn rc d O on oc t f, e = .returned (.tuple #[.agg #[.slice S sn sc, .slice R rn rc], .slice O on oc, .int .i64 f]) ∧ Go.Proofs.YtifckjchmjmhoabGreat.shape.Rd w' w'.heap.size sSystem [.slice S sn sc, .slice R rn rc] d ∧ Go.Proofs.YtifckjchmjmhoabGreat.shape.sz sSystem d ≤ 2000 ∧ Go.Proofs.YtifckjchmjmhoabGreat.shape.Rd w' w'.heap.size sI [.slice O on oc] t ∧ List.length t ≤ 65 ∧ Below w.heap.size w w'
set_option maxHeartbeats 4000000 in
theorem drawLongestOf (A : Option Addr) (n c : Nat) (w : World) (h : SegB w w.heap.size A n) (hn : n ≤ 4096) :
   Calls Tryz.prog 18 #[.slice A n c] w (AnsST5 w) := by
 obtain ⟨W, hW, rN, b0⟩ := box1 w 29 #[.slice none 0 0, .slice none 0 0]
 have h0 : SegB W W.heap.size A n := fun hp => by
   obtain ⟨b, off, e, hb, hc⟩ := h hp
   refine ⟨b, off, e, Nat.lt_of_lt_of_le hb b0.size, fun j hj => ?_⟩
   obtain ⟨x, x0, x1, hx⟩ := hc j hj
   exact ⟨x, x0, x1, (b0.cell (p := ⟨b, off + j, none⟩) hb).trans hx⟩
 have L := Lib.hid (new_ A n c W h0 hn)
 have HW := Lib.hid hW
 clear h h0 hW
 go_enter Tryz.func18, Tryz.ntmps18
 go_wp2_with fail
 rw [← HW.out]
 refine L.out.mono ?_
 rintro e w1 ⟨p, rfl, hp, d1, bb⟩
 have hNp : w.heap.size < p := Nat.lt_of_lt_of_le rN.lt hp
 replace rN := rN.next bb
 have bel := next_trans b0 bb
 have L2 := Lib.hid (l7Draw p A n c w1 d1)
 have hp1 := d1.lt
 clear d1 bb b0 L HW
 go_wp2_with fail
 refine L2.out.mono ?_
 rintro e w2 ⟨S, sn, sc, sg, R, rn, rc, D, O, on, oc, t, rfl, T⟩
 have hz := rN.lt
 have rN1 := Row.away rN T.g (fun e => by injection e with e; omega)
 have zW1 : w1.heap.size ≤ w2.heap.size := T.g.size
 have bel2 : Below w.heap.size w w2 := bel.grown T.g bel.size (fun k hk => by injection hk with hk; omega)
 obtain ⟨W2, hW2, r2, b2⟩ := box1 w2 29 #[.slice S sn sc, .slice R rn rc]
 have zo : w2.heap.size < W2.heap.size := r2.lt
 have HW2 := Lib.hid hW2
 have BD := drew_below W2
 have HQ := Lib.hid (show St w1 p w1.heap.size A n c S sn sc sg R rn rc D O on oc t W2.drew ∧ Row W2.drew w.heap.size 29 #[.slice none 0 0, .slice none 0 0] ∧ Row W2.drew w2.heap.size 29 #[.slice S sn sc, .slice R rn rc] ∧ Below w.heap.size w W2.drew from ⟨(T.next b2).next BD, (rN1.next b2).next BD, r2.next BD, next_trans (next_trans bel2 b2) BD⟩)
 have LF := Lib.hid (drawSteps9 p A n c W2.drew HQ.out.1.di)
 have c0 : W2.drew.cell? ⟨w2.heap.size, 0, none⟩ = some (.slice S sn sc) := HQ.out.2.2.1.cell 0
 have c1 : W2.drew.cell? ⟨w2.heap.size, 1, none⟩ = some (.slice R rn rc) := HQ.out.2.2.1.cell 1
 clear T rN rN1 b2 r2 hW2 L2 bel bel2 BD
 go_upto_region 3 with fail
 rw [← HW2.out]
 generalize w2.heap.size = o at *
 refine AnyT.start (S := (fun w' => w'.cell? ⟨o, 0, none⟩ = some (.slice S sn sc) ∧ w'.cell? ⟨o, 1, none⟩ = some (.slice R rn rc))) (fun _ => false) (by kernel_rfl) ⟨c0, c1⟩ (fun hHeld => ?_)
 refine AnyT.take (i := 0) (v := ?_) rfl (by kernel_rfl) (by kernel_rfl) (by kernel_rfl) (by kernel_rfl) (fun _ _ _ h => h) (Or.inl ⟨by rfl, ?_⟩) (by assumption) ?_
 rotate_left 1
 · (intro w0 hSw; (try dsimp only at hSw); go_simp; try with_reducible rfl)
 try simp only [Act.put, List.setIfInBounds_toArray, List.set_cons_zero, List.set_cons_succ, List.getElem_toArray, List.getElem_cons_zero, List.getElem_cons_succ]
 refine AnyT.takeA (i := 1) (v := ?_) rfl (by kernel_rfl) (by kernel_rfl) (by kernel_rfl) (fun _ _ _ h => h) (Or.inl ⟨by rfl, ?_⟩) ?_
 rotate_left 1
 · (intro w0 _; go_simp; try with_reducible rfl)
 try simp only [Act.put, List.setIfInBounds_toArray, List.set_cons_zero, List.set_cons_succ, List.getElem_toArray, List.getElem_cons_zero, List.getElem_cons_succ]
 refine AnyT.takeA (i := 2) (v := ?_) rfl (by kernel_rfl) (by kernel_rfl) (by kernel_rfl) (fun _ _ _ h => h) (Or.inl ⟨by rfl, ?_⟩) ?_
 rotate_left 1
 · (intro w0 _; go_simp; try with_reducible rfl)
 try simp only [Act.put, List.setIfInBounds_toArray, List.set_cons_zero, List.set_cons_succ, List.getElem_toArray, List.getElem_cons_zero, List.getElem_cons_succ]
 refine AnyT.call (i := 3) (by kernel_rfl) rfl (fun K hK => ?_)
 try simp only [Act.put, List.setIfInBounds_toArray, List.set_cons_zero, List.set_cons_succ, List.getElem_toArray, List.getElem_cons_zero, List.getElem_cons_succ]
 rw [if_pos (by rfl)]
 go_simp
 (go_at_call 27; refine LF.out.mono ?_; rintro e w3 ⟨f, rfl, d3, g3⟩; have rM := Row.away HQ.out.2.1 g3 (fun e => by injection e with e; omega); have rO := Row.away HQ.out.2.2.1 g3 (fun e => by injection e with e; omega); have e0 : w3.cell? ⟨o, 0, none⟩ = some (.slice S sn sc) := rO.cell 0; have e1 : w3.cell? ⟨o, 1, none⟩ = some (.slice R rn rc) := rO.cell 1; go_wp2_with fail)
 refine hK.out _ _ (fun _ _ => ?_) (fun hKeep => ?_)
 · exact ⟨e0, e1⟩
 replace hHeld := hKeep (by first | rfl | trivial) hHeld
 clear hK K hKeep
 try simp only [Act.put, List.setIfInBounds_toArray, List.set_cons_zero, List.set_cons_succ, List.getElem_toArray, List.getElem_cons_zero, List.getElem_cons_succ]
 have y0 : w3.cell? ⟨w.heap.size, 0, none⟩ = some (.slice none 0 0) := rM.cell 0
 have y1 : w3.cell? ⟨w.heap.size, 1, none⟩ = some (.slice none 0 0) := rM.cell 1
 have g0 := rM.free 0
 have g1 := rM.free 1
 have ra := rM.put 0 (.slice S sn sc)
 have y2 : (w3.setCell ⟨w.heap.size, 0, none⟩ (.slice S sn sc)).cell? ⟨w.heap.size, 1, none⟩ = some (.slice none 0 0) := ra.cell 1
 have g2 := ra.free 1
 have rb := ra.put 1 (.slice R rn rc)
 have u0 : ((w3.setCell ⟨w.heap.size, 0, none⟩ (.slice S sn sc)).setCell ⟨w.heap.size, 1, none⟩ (.slice R rn rc)).cell? ⟨w.heap.size, 0, none⟩ = some (.slice S sn sc) := rb.cell 0
 have u1 : ((w3.setCell ⟨w.heap.size, 0, none⟩ (.slice S sn sc)).setCell ⟨w.heap.size, 1, none⟩ (.slice R rn rc)).cell? ⟨w.heap.size, 1, none⟩ = some (.slice R rn rc) := rb.cell 1
 have T3 : St w1 p w1.heap.size A n c S sn sc sg R rn rc D O on oc t w3 := HQ.out.1.dice d3 g3 (by omega)
 have s2 := ints_put (ints_put T3.s rM 0 (.slice S sn sc)) ra 1 (.slice R rn rc)
 have hne : blk R ≠ some w.heap.size := fun e => by have := (T3.own.ge _ e).1; omega
 have o2 := ownQ_put (ownQ_put T3.own rM hne 0 (.slice S sn sc)) ra hne 1 (.slice R rn rc)
 have t2 := rdT_put (i := 1) (u := .slice R rn rc) (rdT_put (i := 0) (u := .slice S sn sc) T3.t rM) ra
 have bel3 : Below w.heap.size w w3 := HQ.out.2.2.2.grown g3 HQ.out.2.2.2.size (fun k hk => by injection hk with hk; omega)
 have F := Lib.hid (show AnsST5 w (.returned (.tuple #[.agg #[.slice S sn sc, .slice R rn rc], .slice O on oc, .int .i64 f])) ((w3.setCell ⟨w.heap.size, 0, none⟩ (.slice S sn sc)).setCell ⟨w.heap.size, 1, none⟩ (.slice R rn rc)) from
   ⟨_, _, _, _, _, _, ((sg, D) : List Int × List (Dat sRule)), _, _, _, t, f, rfl, RdQ.rd (Q := Out _ p) (fun b hb => hb.1) (RdQ.cat (ca := [_]) (cb := [_]) (s2.mono fun b hb => ⟨hb.1, hb.2.1⟩) (o2.rdq hp1)), T3.sz, rd_ints.2 ⟨O, on, oc, rfl, t2.seg, T3.ct⟩, by have := T3.t.1; have := T3.h65; omega, (bel3.setCell (p := ⟨w.heap.size, 0, none⟩) (Nat.le_refl _) _).setCell (p := ⟨w.heap.size, 1, none⟩) (Nat.le_refl _) _⟩)
 have a0 := (rO.far (show o ≠ w.heap.size by omega) (p := ⟨w.heap.size, 0, none⟩) (.slice S sn sc)).far (show o ≠ w.heap.size by omega) (p := ⟨w.heap.size, 1, none⟩) (.slice R rn rc)
 have HA0 := Lib.hid a0
 clear T3 s2 hne o2 t2 ra rb rM rO a0 d3 g3 HQ bel3
 refine AnyT.call (i := 4) (by kernel_rfl) rfl (fun K hK => ?_)
 try simp only [Act.put, List.setIfInBounds_toArray, List.set_cons_zero, List.set_cons_succ, List.getElem_toArray, List.getElem_cons_zero, List.getElem_cons_succ]
 rw [if_pos (by rfl)]
 go_simp
 refine hK.out _ _ (fun _ _ => ?_) (fun hKeep => ?_)
 · exact ⟨HA0.out.cell 0, HA0.out.cell 1⟩
 replace hHeld := hKeep (by first | rfl | trivial) hHeld
 clear hK K hKeep
 try simp only [Act.put, List.setIfInBounds_toArray, List.set_cons_zero, List.set_cons_succ, List.getElem_toArray, List.getElem_cons_zero, List.getElem_cons_succ]
 refine AnyT.takeA (i := 5) (v := ?_) rfl (by kernel_rfl) (by kernel_rfl) (by kernel_rfl) (fun _ _ _ h => h) (Or.inl ⟨by rfl, ?_⟩) ?_
 rotate_left 1
 · (intro w0 _; go_simp; try with_reducible rfl)
 try simp only [Act.put, List.setIfInBounds_toArray, List.set_cons_zero, List.set_cons_succ, List.getElem_toArray, List.getElem_cons_zero, List.getElem_cons_succ]
 refine AnyT.takeA (i := 6) (v := ?_) rfl (by kernel_rfl) (by kernel_rfl) (by kernel_rfl) (fun _ _ _ h => h) (Or.inl ⟨by rfl, ?_⟩) ?_
 rotate_left 1
 · (intro w0 _; go_simp; try with_reducible rfl)
 try simp only [Act.put, List.setIfInBounds_toArray, List.set_cons_zero, List.set_cons_succ, List.getElem_toArray, List.getElem_cons_zero, List.getElem_cons_succ]
 refine AnyT.done (by kernel_rfl) ?_ _
 clear e0 e1 c0 c1
 go_wp2
 exact bodyPost_ret (v := .tuple #[.agg #[.slice S sn sc, .slice R rn rc], .slice O on oc, .int .i64 f]) (by simp [results, Tryz.results18, go_sem, u0, u1]) rfl F.out
end drawL9
end
section
namespace shape
open Go.RowKit base ints sig cursor marks app sym appAt segs segsHelp segsMark kinds
theorem Owned.num (w : World) (lo hi : Nat) (x : Int) : Owned w lo hi .num [.int .i64 x] x := ⟨[], ⟨rfl, rfl⟩, List.nodup_nil, fun k hk => by cases hk⟩
theorem Ow.num {w w' : World} {cs : List Value} {x : Int} {F : List Nat} (h : Ow w .num cs x F) (y : Int) : Ow w' .num [.int .i64 y] y F := ⟨rfl, h.2⟩
end shape
end
section
namespace ownL
open Go.RowKit base ints sig cursor marks app appAt sym segs shape drawX
set_option maxRecDepth 100000
theorem Ow.one {w : World} : ∀ {s : Sh} {cs : List Value} {d : Dat s} {F : List Nat}, Ow w s cs d F → ∀ u ∈ cs, u.oneCell' = true
 | .num, _, _, _, h, u, hu => by have h : _ = _ ∧ _ := h; rw [h.1] at hu; rw [List.mem_singleton.1 hu]; rfl
 | .bit, _, _, _, h, u, hu => by have h : _ = _ ∧ _ := h; rw [h.1] at hu; rw [List.mem_singleton.1 hu]; rfl
 | .row _ _, _, _, _, h, u, hu => by obtain ⟨A, n, c, e, _⟩ := h; rw [e] at hu; rw [List.mem_singleton.1 hu]; rfl
 | .cat a b, _, _, _, h, u, hu => by
   obtain ⟨ca, cb, Fa, Fb, e, _, h1, h2⟩ := h
   rw [e] at hu
   rcases List.mem_append.1 hu with hu | hu
   · exact Ow.one h1 u hu
   · exact Ow.one h2 u hu
def OwnL (w : World) (lo hi : Nat) (e : TypeId) (s : Sh) (A : Option Addr) (n c : Nat) (D : List (Dat s)) : Prop :=
 D.length = n ∧ (∀ k, blk A = some k → k < hi) ∧ ∃ (vs : List Value) (G : Nat → List Nat), w.ownsRow lo e (nc s) (.slice A n c) n vs ∧ (A = none → c = 0) ∧ ((List.range n).flatMap G).Nodup ∧
   ∀ j, j < n → Ow w s (cellsOf (nc s) vs j) (D.getD j (dft s)) (G j) ∧ ∀ q ∈ G j, lo ≤ q ∧ q < hi ∧ some q ≠ blk A
section
variable {w w' : World} {lo hi n c : Nat} {e : TypeId} {s : Sh} {A : Option Addr} {D : List (Dat s)}
theorem OwnL.nil (w : World) (lo hi : Nat) (e : TypeId) (s : Sh) : OwnL w lo hi e s none 0 0 [] := ⟨rfl, (fun k hk => by cases hk), [], fun _ => [], ⟨by simp, .inl ⟨rfl, rfl⟩⟩, fun _ => rfl, by simp, fun j hj => absurd hj (Nat.not_lt_zero _)⟩
theorem OwnL.empty (w : World) {lo hi : Nat} (e : TypeId) (s : Sh) (h : lo ≤ w.heap.size) (h2 : w.heap.size < hi) : OwnL (w.alloc (.cells #[] e)) lo hi e s (some ⟨w.heap.size, 0, none⟩) 0 0 [] :=
 ⟨rfl, (fun k hk => by injection hk with hk; rw [← hk]; exact h2), [], fun _ => [], ⟨by simp, .inr ⟨w.heap.size, 0, #[], rfl, h, heap_alloc_new w _, Nat.le_refl _, by decide, by simp, by simp⟩⟩, (fun e => by cases e), by simp, fun j hj => absurd hj (Nat.not_lt_zero _)⟩
theorem OwnL.keep (h : OwnL w lo hi e s A n c D) (hk : ∀ k, lo ≤ k → k < hi → k < w.heap.size → w'.heap[k]? = w.heap[k]?) (hs : w.heap.size ≤ w'.heap.size) : OwnL w' lo hi e s A n c D := by
 obtain ⟨h1, h2, vs, G, h3, h4, h5, h6⟩ := h
 refine ⟨h1, h2, vs, G, ?_, h4, h5, fun j hj => ⟨(h6 j hj).1.keep fun q hq => ?_, (h6 j hj).2⟩⟩
 · refine ⟨h3.1, ?_⟩
   rcases h3.2 with q | ⟨g, cap, cur, e1, hg, hr, q⟩
   · exact .inl q
   · have hlt := (Array.getElem?_eq_some_iff.1 hr).1
     injection e1 with e2 e3 e4
     exact .inr ⟨g, cap, cur, by rw [e2, e4], hg, (hk g hg (h2 g (by rw [e2]; rfl)) hlt).trans hr, q⟩
 · have := (h6 j hj).2 q hq
   exact hk q this.1 this.2.1 ((h6 j hj).1.lt q hq)
theorem OwnL.next (h : OwnL w lo hi e s A n c D) (hb : Below w.heap.size w w') : OwnL w' lo hi e s A n c D := h.keep (fun k _ _ hk => hb.block k hk) hb.size
theorem OwnL.btw {lo' hi' : Nat} (h : OwnL w lo hi e s A n c D) (hb : Btw lo' hi' w w') (ho : hi ≤ lo' ∨ hi' ≤ lo) : OwnL w' lo hi e s A n c D := h.keep (fun k h1 h2 hk => hb.block k hk (by omega)) hb.size
theorem OwnL.wider {lo' hi' : Nat} (h : OwnL w lo hi e s A n c D) (h1 : lo' ≤ lo) (h2 : hi ≤ hi') : OwnL w lo' hi' e s A n c D := by
 obtain ⟨q1, q2, vs, G, q3, q4, q5, q6⟩ := h
 refine ⟨q1, fun k hk => Nat.lt_of_lt_of_le (q2 k hk) h2, vs, G, ⟨q3.1, ?_⟩, q4, q5, fun j hj => ⟨(q6 j hj).1, fun q hq => ?_⟩⟩
 · rcases q3.2 with q | ⟨g, cap, cur, e1, hg, q⟩
   · exact .inl q
   · exact .inr ⟨g, cap, cur, e1, by omega, q⟩
 · have := (q6 j hj).2 q hq
   exact ⟨by omega, by omega, this.2.2⟩
theorem OwnL.ge (h : OwnL w lo hi e s A n c D) : ∀ k, blk A = some k → lo ≤ k ∧ k < w.heap.size := fun k hk => by
 obtain ⟨_, _, vs, G, ho, _⟩ := h
 exact World.ownsRow.lt ho k (by rw [blk_own]; exact hk)
theorem OwnL.owned (h : OwnL w lo hi e s A n c D) : Owned w lo hi (.row e s) [.slice A n c] D := by
 obtain ⟨h1, h2, vs, G, h3, h4, h5, h6⟩ := h
 rcases h3.2 with ⟨e1, h0⟩ | ⟨g, cap, cur, e1, hg, hrow, hn, hm, hs, ht⟩
 · injection e1 with a1 a2 a3
   subst a1 a2 a3
   exact ⟨[], ⟨none, 0, 0, rfl, h1, .inl ⟨rfl, rfl, rfl, rfl⟩⟩, by simp, fun k hk => by cases hk⟩
 · injection e1 with a1 a2 a3
   subst a1 a3
   have hl : vs.length = n * nc s := h3.1
   refine ⟨g :: (List.range n).flatMap G, ⟨_, n, c, rfl, h1, .inr ⟨g, cur, cellsOf (nc s) vs, G, rfl, hrow, hn, by unfold maxLen at hm; omega, hs, rfl, fun j hj => ?_⟩⟩, List.nodup_cons.2 ⟨fun hb => ?_, h5⟩, fun k hk => ?_⟩
   · have hjn : j * nc s + nc s ≤ n * nc s := by
       have := Nat.mul_le_mul_right (nc s) (show j + 1 ≤ n by omega)
       rw [Nat.add_mul] at this
       omega
     refine ⟨(h6 j hj).1.len, fun i hi => ?_, (h6 j hj).1⟩
     have h7 : cur.toList[j * nc s + i]? = vs[j * nc s + i]? := by rw [← ht, List.getElem?_take, if_pos (by omega)]
     rw [← Array.getElem?_toList, h7]
     unfold cellsOf
     rw [List.getElem?_take, if_pos hi, List.getElem?_drop]
   · obtain ⟨j, hj, hb⟩ := List.mem_flatMap.1 hb
     exact ((h6 j (List.mem_range.1 hj)).2 g hb).2.2 rfl
   · rcases List.mem_cons.1 hk with hk | hk
     · rw [hk]; exact ⟨hg, h2 g rfl⟩
     · obtain ⟨j, hj, hb⟩ := List.mem_flatMap.1 hk
       have := (h6 j (List.mem_range.1 hj)).2 k hb
       exact ⟨this.1, this.2.1⟩
theorem OwnL.rd (h : OwnL w lo hi e s A n c D) : Rd w w.heap.size (.row e s) [.slice A n c] D := h.owned.rd
theorem owned_ownL (h : Owned w lo hi (.row e s) [.slice A n c] D) : OwnL w lo hi e s A n c D := by
 obtain ⟨F, h, hn, hF⟩ := h
 obtain ⟨A', n', c', e1, hl, h⟩ := h
 injection e1 with e1
 injection e1 with a1 a2 a3
 subst a1 a2 a3
 rcases h with ⟨rfl, rfl, rfl, rfl⟩ | ⟨g, cur, E, G, rfl, hr, h2, h3, h4, rfl, h6⟩
 · have : D = [] := List.eq_nil_of_length_eq_zero hl
   subst this
   exact OwnL.nil _ _ _ _ _
 · rw [List.nodup_cons] at hn
   have hsz : n * nc s ≤ cur.size := by rw [h4]; exact Nat.mul_le_mul_right _ h2
   have hcell : ∀ j, j < n → cellsOf (nc s) (cur.toList.take (n * nc s)) j = E j := fun j hj => by
     have hjn : j * nc s + nc s ≤ n * nc s := by
       have := Nat.mul_le_mul_right (nc s) (show j + 1 ≤ n by omega)
       rw [Nat.add_mul] at this
       omega
     obtain ⟨q1, q2, _⟩ := h6 j hj
     refine List.ext_getElem? fun i => ?_
     unfold cellsOf
     rw [List.getElem?_take]
     split
     · rename_i hi
       rw [List.getElem?_drop, List.getElem?_take, if_pos (by omega), Array.getElem?_toList]
       exact q2 i hi
     · exact (List.getElem?_eq_none (by omega)).symm
   refine ⟨hl, (fun k hk => by injection hk with hk; rw [← hk]; exact (hF g (List.mem_cons_self ..)).2), cur.toList.take (n * nc s), G, ⟨by simp; omega, .inr ⟨g, c, cur, rfl, (hF g (List.mem_cons_self ..)).1, hr, h2, by unfold maxLen; omega, h4, rfl⟩⟩, (fun e => by cases e), hn.2, fun j hj => ⟨by rw [hcell j hj]; exact (h6 j hj).2.2, fun q hq => ?_⟩⟩
   have hm := List.mem_flatMap.2 ⟨j, List.mem_range.2 hj, hq⟩
   have := hF q (List.mem_cons_of_mem _ hm)
   exact ⟨this.1, this.2, fun e => hn.1 (by injection e with e; have e : q = g := e; rw [← e]; exact hm)⟩
theorem cells_left {k n j : Nat} {vs es : List Value} (hl : vs.length = n * k) (hj : j < n) : cellsOf k (vs ++ es) j = cellsOf k vs j := by
 have hjn : j * k + k ≤ n * k := by
   have := Nat.mul_le_mul_right k (show j + 1 ≤ n by omega)
   rw [Nat.add_mul] at this
   omega
 unfold cellsOf
 rw [List.drop_append_of_le_length (by omega), List.take_append_of_le_length (by rw [List.length_drop]; omega)]
theorem cells_right {k n j : Nat} {vs es : List Value} (hl : vs.length = n * k) : cellsOf k (vs ++ es) (n + j) = cellsOf k es j := by
 unfold cellsOf
 rw [show (n + j) * k = vs.length + j * k by rw [hl, Nat.add_mul], ← List.drop_drop, List.drop_left]
theorem flat_range {G H : Nat → List Nat} : ∀ {n m : Nat}, (List.range (n + m)).flatMap (fun j => if j < n then G j else H (j - n)) = (List.range n).flatMap G ++ (List.range m).flatMap H
 | n, 0 => by
   simp only [Nat.add_zero, List.range_zero, List.flatMap_nil, List.append_nil]
   rw [List.flatMap_def, List.flatMap_def]
   congr 1
   exact List.map_congr_left fun j hj => if_pos (List.mem_range.1 hj)
 | n, m + 1 => by
   rw [← Nat.add_assoc, List.range_succ, List.flatMap_append, flat_range, List.range_succ, List.flatMap_append]
   simp
   intro h; omega
theorem ownL_app {mid hi2 m : Nat} {vs es : List Value} {G : Nat → List Nat} {E : List (Dat s)} {H : Nat → List Nat} {A' : Option Addr} {c' : Nat} (h1 : D.length = n) (h2 : ∀ k, blk A = some k → k < hi) (h3 : w.ownsRow lo e (nc s) (.slice A n c) n vs) (h5 : ((List.range n).flatMap G).Nodup)
   (h6 : ∀ j, j < n → Ow w s (cellsOf (nc s) vs j) (D.getD j (dft s)) (G j) ∧ ∀ q ∈ G j, lo ≤ q ∧ q < hi ∧ some q ≠ blk A) (hmid : hi ≤ mid) (hlo : lo ≤ mid)
   (hE : E.length = m) (hn : ((List.range m).flatMap H).Nodup) (hin : ∀ j, j < m → Ow w s (cellsOf (nc s) es j) (E.getD j (dft s)) (H j) ∧ ∀ q ∈ H j, mid ≤ q ∧ q < hi2)
   (hown : w'.ownsRow lo e (nc s) (.slice A' (n + m) c') (n + m) (vs ++ es)) (hg : w.grownBy w' (blk A)) (hat : blk A' = blk A ∨ blk A' = some w.heap.size) (hc' : A' = none → c' = 0) : OwnL w' lo w'.heap.size e s A' (n + m) c' (D ++ E) := by
 have hvl : vs.length = n * nc s := h3.1
 have hA' : ∀ k, blk A' = some k → k < w'.heap.size := fun k hk => (World.ownsRow.lt hown k (by rw [blk_own]; exact hk)).2
 refine ⟨by simp [h1, hE], hA', vs ++ es, fun j => if j < n then G j else H (j - n), hown, hc', ?_, fun j hj => ?_⟩
 · rw [flat_range]
   refine List.nodup_append.2 ⟨h5, hn, fun x hx y hy e => ?_⟩
   obtain ⟨i, hi', hx⟩ := List.mem_flatMap.1 hx
   obtain ⟨j, hj', hy⟩ := List.mem_flatMap.1 hy
   have q1 := (h6 i (List.mem_range.1 hi')).2 x hx
   have q2 := (hin j (List.mem_range.1 hj')).2 y hy
   omega
 · dsimp only
   by_cases ej : j < n
   · rw [if_pos ej, cells_left hvl ej, show (D ++ E).getD j (dft s) = D.getD j (dft s) by simp [List.getD, List.getElem?_append_left (show j < D.length by omega)]]
     obtain ⟨o1, o2⟩ := h6 j ej
     refine ⟨o1.keep fun q hq => hg.block q (o1.lt q hq) (fun e => (o2 q hq).2.2 e), fun q hq => ?_⟩
     have q3 := o2 q hq
     refine ⟨q3.1, Nat.lt_of_lt_of_le (o1.lt q hq) hg.size, ?_⟩
     rcases hat with e2 | e2
     · rw [e2]; exact q3.2.2
     · rw [e2]; intro e3; injection e3 with e3; have := o1.lt q hq; omega
   · obtain ⟨i, rfl⟩ : ∃ i, j = n + i := ⟨j - n, by omega⟩
     have hi' : i < m := by omega
     rw [if_neg ej, cells_right hvl, show n + i - n = i by omega, show (D ++ E).getD (n + i) (dft s) = E.getD i (dft s) by simp [List.getD, List.getElem?_append_right (show D.length ≤ n + i by omega), h1]]
     obtain ⟨o1, o2⟩ := hin i hi'
     have hne : ∀ q ∈ H i, some q ≠ blk A := fun q hq e => by
       have := h2 q e.symm
       have := o2 q hq
       omega
     refine ⟨o1.keep fun q hq => hg.block q (o1.lt q hq) (fun e => hne q hq e), fun q hq => ?_⟩
     have q3 := o2 q hq
     refine ⟨by omega, Nat.lt_of_lt_of_le (o1.lt q hq) hg.size, ?_⟩
     rcases hat with e2 | e2
     · rw [e2]; exact hne q hq
     · rw [e2]; intro e3; injection e3 with e3; have := o1.lt q hq; omega
end
theorem OwnL.single {w : World} {lo hi g : Nat} {e : TypeId} {s : Sh} {es : List Value} {y : Dat s} (hr : Row w g e es.toArray) (ho : Owned w lo hi s es y) (hg : hi ≤ g) (hlo : lo ≤ g) : OwnL w lo (g + 1) e s (some ⟨g, 0, none⟩) 1 1 [y] := by
 obtain ⟨F, hF, hFn, hFb⟩ := ho
 have hel := hF.len
 refine ⟨rfl, fun k hk => by injection hk with hk; have hk : g = k := hk; omega, es, fun _ => F, ⟨by rw [hel]; simp, .inr ⟨g, 1, es.toArray, rfl, hlo, hr, Nat.le_refl _, by unfold maxLen; omega, by simp [hel], by simp [← hel]⟩⟩, (fun e => by cases e), by simpa using hFn, fun j hj => ?_⟩
 obtain rfl : j = 0 := by omega
 refine ⟨?_, fun q hq => ?_⟩
 · have : cellsOf (nc s) es 0 = es := by unfold cellsOf; rw [Nat.zero_mul, List.drop_zero, List.take_of_length_le (by omega)]
   rw [this]; exact hF
 · have := hFb q hq
   refine ⟨this.1, by omega, fun e => ?_⟩
   injection e with e
   have e : q = g := e
   omega
theorem run_appL {w : World} (ty T e : TypeId) (s : Sh) (z : Value) (bytes : Nat) (hT : Tryz.prog.underlying T = some (.slice e))
   (hI : (Tryz.prog.info? e).map (fun i => (i.zero, i.size, i.bytes)) = some (some z, nc s, bytes)) (hzc : z.cells.size = nc s) (hby : bytes ≤ 4096)
   (lo hi mid hi2 : Nat) (A : Option Addr) (n c g m c2 : Nat) (D E : List (Dat s)) (hown : OwnL w lo hi e s A n c D) (hx : OwnL w mid hi2 e s (some ⟨g, 0, none⟩) m c2 E) (hmid : hi ≤ mid) (hlm : lo ≤ mid) (hn : n ≤ 1048576) (hm : m ≤ 1048576) (hlo : lo ≤ w.heap.size) :
   ∃ A' c' w', (Builtin.append_ #[T, T] ty #[.slice A n c, .slice (some ⟨g, 0, none⟩) m c2]).run Tryz.prog w = .ok (.slice A' (n + m) c') w' ∧ OwnL w' lo w'.heap.size e s A' (n + m) c' (D ++ E) ∧ w.grownBy w' (blk A) ∧ (blk A' = blk A ∨ blk A' = some w.heap.size) ∧ Below lo w w' ∧ (A ≠ none ∨ 0 < m → ∃ g', A' = some ⟨g', 0, none⟩) := by
 obtain ⟨i0, hi', hz0, hz1, hz2⟩ := info_parts hI
 obtain ⟨h1, h2, vs, G, hr, h4, h5, h6⟩ := hown
 obtain ⟨k1, k2, us, H, kr, k4, k5, k6⟩ := hx
 have hul : us.length = m * nc s := kr.1
 have hone : ∀ u ∈ us, u.oneCell' = true := fun u hu => by
   obtain ⟨i, hi2, rfl⟩ := List.getElem_of_mem hu
   have hnp := nc_pos s
   have hj : i / nc s < m := by rw [Nat.div_lt_iff_lt_mul hnp]; omega
   refine Ow.one (k6 (i / nc s) hj).1 _ ?_
   unfold cellsOf
   have hdm : i / nc s * nc s + i % nc s = i := by rw [Nat.mul_comm]; exact Nat.div_add_mod i (nc s)
   have hmod := Nat.mod_lt i hnp
   refine List.mem_of_getElem? (i := i % nc s) ?_
   rw [List.getElem?_take, if_pos hmod, List.getElem?_drop, hdm]
   exact List.getElem?_eq_getElem hi2
 have hcells : ∀ j u, us[j]? = some u → w.cell? ((⟨g, 0, none⟩ : Addr).add j) = some u := fun j u hj => by
   have e2 : (⟨g, 0, none⟩ : Addr).add j = ⟨g, j, none⟩ := by unfold Addr.add; split <;> simp_all
   rw [e2]
   rcases kr.2 with ⟨e1, _⟩ | ⟨g', cap, cur, e1, _, hrow, _, _, _, ht⟩
   · cases e1
   · injection e1 with a1 a2 a3
     injection a1 with a1
     injection a1 with a1
     subst a1
     rw [Row.cell (t := e) (cs := cur) hrow, ← Array.getElem?_toList]
     have hjl := (List.getElem?_eq_some_iff.1 hj).1
     rw [← ht, List.getElem?_take, if_pos (by omega)] at hj
     exact hj
 obtain ⟨v', w', hrun, hown', hg, hnn, hat⟩ := run_append_own_at (P := Tryz.prog) w lo T ty e i0 z (nc s) bytes hT hi' hz0 hz1 hz2 hzc (nc_pos s) (.slice A n c) n vs hr ⟨g, 0, none⟩ m c2 us hul hcells hone (by unfold maxLen; omega) (by have h1 : (n + m) * bytes ≤ 2097152 * 4096 := Nat.mul_le_mul (by omega) hby; omega) hlo
 rw [blk_own] at hg
 have hform : ∃ A' c', v' = .slice A' (n + m) c' ∧ (A' = none → c' = 0) ∧ (A ≠ none ∨ 0 < m → ∃ g', A' = some ⟨g', 0, none⟩) := by
   rcases hown'.2 with ⟨e1, h0⟩ | ⟨g', cap, cur, e1, _⟩
   · refine ⟨none, 0, by rw [e1, h0], fun _ => rfl, fun hh => ?_⟩
     have := (hnn.1 e1)
     rcases hh with hh | hh
     · exact absurd (by have := this.1; injection this) hh
     · omega
   · exact ⟨_, _, e1, (fun e => by cases e), fun _ => ⟨g', rfl⟩⟩
 obtain ⟨A', c', rfl, hc', hf⟩ := hform
 rw [blk_own, blk_own] at hat
 exact ⟨A', c', w', hrun, ownL_app (hi2 := hi2) (H := H) h1 h2 hr h5 h6 hmid hlm k1 k5 (fun j hj => ⟨(k6 j hj).1, fun q hq => ⟨((k6 j hj).2 q hq).1, ((k6 j hj).2 q hq).2.1⟩⟩) hown' hg hat hc', hg, hat, (Below.refl lo w).grown hg hlo (fun k hk => (World.ownsRow.lt hr k (by rw [blk_own]; exact hk)).1), hf⟩
theorem wp_appL {w : World} {o : Oper} {a : Act} {K : Act → World → Prop} {Q : Exit → Act → World → Prop} (sx x : Operand) (T e : TypeId) (s : Sh) (z : Value) (bytes : Nat) (hT : Tryz.prog.underlying T = some (.slice e))
   (hI : (Tryz.prog.info? e).map (fun i => (i.zero, i.size, i.bytes)) = some (some z, nc s, bytes)) (hzc : z.cells.size = nc s) (hby : bytes ≤ 4096)
   (ho : o.op = .call { callee := .builtin .append, args := #[sx, x], argTypes := #[T, T] })
   (lo hi mid hi2 : Nat) (A : Option Addr) (n c g m c2 : Nat) (D E : List (Dat s)) (hs : a.eval sx = .slice A n c) (hown : OwnL w lo hi e s A n c D) (hxv : a.eval x = .slice (some ⟨g, 0, none⟩) m c2) (hx : OwnL w mid hi2 e s (some ⟨g, 0, none⟩) m c2 E) (hmid : hi ≤ mid) (hlm : lo ≤ mid) (hn : n ≤ 1048576) (hm : m ≤ 1048576) (hlo : lo ≤ w.heap.size)
   (h : ∀ A' c' w', OwnL w' lo w'.heap.size e s A' (n + m) c' (D ++ E) → w.grownBy w' (blk A) → (blk A' = blk A ∨ blk A' = some w.heap.size) → Below lo w w' → (A ≠ none ∨ 0 < m → ∃ g', A' = some ⟨g', 0, none⟩) → K (a.put o.dst (.slice A' (n + m) c')) w') : o.wp Tryz.prog a w K Q := by
 obtain ⟨A', c', w', hr, h2, h3, h4, h5, h6⟩ := run_appL o.type T e s z bytes hT hI hzc hby lo hi mid hi2 A n c g m c2 D E hown hx hmid hlm hn hm hlo
 unfold Oper.wp execOp
 simp only [ho, resolve, invoke, builtin, Sem.run_bind, Sem.run_pure, Result.andThen_ok, List.map_toArray, List.map_cons, List.map_nil, hs, hxv, hr]
 exact h A' c' w' h2 h3 h4 h5 h6
theorem appLm {w : World} {ops : Array Oper} {rest : List Oper} {o : Oper} {a : Act} {Q : Exit → Act → World → Prop} (hgd : o.guard = none) (sx x : Operand) (T e : TypeId) (s : Sh) (z : Value) (bytes : Nat) (hT : Tryz.prog.underlying T = some (.slice e))
   (hI : (Tryz.prog.info? e).map (fun i => (i.zero, i.size, i.bytes)) = some (some z, nc s, bytes)) (hzc : z.cells.size = nc s) (hby : bytes ≤ 4096)
   (ho : o.op = .call { callee := .builtin .append, args := #[sx, x], argTypes := #[T, T] })
   (lo hi mid hi2 : Nat) (A : Option Addr) (n c g m c2 : Nat) (D E : List (Dat s)) (hs : a.eval sx = .slice A n c) (hown : OwnL w lo hi e s A n c D) (hxv : a.eval x = .slice (some ⟨g, 0, none⟩) m c2) (hx : OwnL w mid hi2 e s (some ⟨g, 0, none⟩) m c2 E) (hmid : hi ≤ mid) (hlm : lo ≤ mid) (hn : n ≤ 1048576) (hm : m ≤ 1048576) (hlo : lo ≤ w.heap.size)
   (h : ∀ A' c' w', OwnL w' lo w'.heap.size e s A' (n + m) c' (D ++ E) → w.grownBy w' (blk A) → (blk A' = blk A ∨ blk A' = some w.heap.size) → Below lo w w' → (A ≠ none ∨ 0 < m → ∃ g', A' = some ⟨g', 0, none⟩) → wpList Tryz.prog ops Q rest (a.put o.dst (.slice A' (n + m) c')) w') : wpList Tryz.prog ops Q (o :: rest) a w :=
 wpList_plain hgd fun _ hK => wp_appL sx x T e s z bytes hT hI hzc hby ho lo hi mid hi2 A n c g m c2 D E hs hown hxv hx hmid hlm hn hm hlo fun A' c' w' h1 h2 h3 h4 h5 => hK _ _ (h A' c' w' h1 h2 h3 h4 h5)
end ownL
end
section
namespace kindsW
open Go.RowKit base ints sig cursor marks app sym appAt segs segsHelp segsMark kinds shape
set_option maxRecDepth 100000
abbrev sStep : Sh := .cat .num (.cat .num sI)
theorem parts_Step {w : World} {B : Nat} {v0 : Value} {d : Dat sStep} (h : Rd w B sStep [.int .i64 d.1, .int .i64 d.2.1, v0] d) : Rd w B .num [.int .i64 d.1] d.1 ∧ Rd w B .num [.int .i64 d.2.1] d.2.1 ∧ Rd w B sI [v0] d.2.2 := by
 obtain ⟨p0, q0⟩ := Rd.split (ca := [.int .i64 d.1]) (cb := [.int .i64 d.2.1, v0]) h rfl
 obtain ⟨p1, q1⟩ := Rd.split (ca := [.int .i64 d.2.1]) (cb := [v0]) q0 rfl
 exact ⟨p0, p1, q1⟩
theorem cells_Step {w : World} {B : Nat} {es : List Value} {d : Dat sStep} (h : Rd w B sStep es d) : ∃ (v0 : Value), es = [.int .i64 d.1, .int .i64 d.2.1, v0] := by
 obtain ⟨ca0, cb0, e0, p0, q0⟩ := h
 obtain ⟨ca1, cb1, e1, p1, q1⟩ := q0
 obtain ⟨A2, n2, c2, z2, -⟩ := q1
 exact ⟨.slice A2 n2 c2, by rw [e0, (show _ = _ from p0), e1, (show _ = _ from p1), z2] <;> rfl⟩
abbrev sStepS : Sh := .row 70 sStep
theorem info_StepS : (Tryz.prog.info? 70).map (fun i => (i.zero, i.size, i.bytes)) = some (some (.agg #[.int .i64 0, .int .i64 0, .slice none 0 0]), 3, 40) := by kernel_rfl
abbrev sWalk : Sh := .cat sI sStepS
theorem parts_Walk {w : World} {B : Nat} {v0 v1 : Value} {d : Dat sWalk} (h : Rd w B sWalk [v0, v1] d) : Rd w B sI [v0] d.1 ∧ Rd w B sStepS [v1] d.2 := by
 obtain ⟨p0, q0⟩ := Rd.split (ca := [v0]) (cb := [v1]) h rfl
 exact ⟨p0, q0⟩
end kindsW
end
section
namespace stepsMath
open sig term termOk termFacts ruleMath stepMath walkMath
def stF (sg : List Int) (rs : List Rl) (t : List Int) (a r : Nat) : Option St := (stepO sg (rs.getD r ([], [])) t a).map fun v => ((a : Int), (r : Int), v)
def stN (sg : List Int) (rs : List Rl) (t : List Int) (i k : Nat) : List St := (List.range i).flatMap (fun a => (List.range rs.length).filterMap (stF sg rs t a)) ++ (List.range k).filterMap (stF sg rs t i)
section
variable {sg : List Int} {rs : List Rl} {t : List Int} {i k : Nat}
theorem st_zero : stN sg rs t 0 0 = [] := rfl
theorem st_all : stN sg rs t t.length 0 = stepsL sg rs t := by unfold stN; rw [List.range_zero, List.filterMap_nil, List.append_nil]; rfl
theorem st_row : stN sg rs t i rs.length = stN sg rs t (i + 1) 0 := by
 unfold stN
 rw [List.range_zero, List.filterMap_nil, List.append_nil, List.range_succ, List.flatMap_append]
 simp
theorem st_some {v : List Int} (h : stepO sg (rs.getD k ([], [])) t i = some v) : stN sg rs t i (k + 1) = stN sg rs t i k ++ [((i : Int), (k : Int), v)] := by
 unfold stN
 rw [List.range_succ, List.filterMap_append, ← List.append_assoc]
 have : stF sg rs t i k = some ((i : Int), (k : Int), v) := by unfold stF; rw [h]; rfl
 simp [this]
theorem st_none (h : stepO sg (rs.getD k ([], [])) t i = none) : stN sg rs t i (k + 1) = stN sg rs t i k := by
 unfold stN
 rw [List.range_succ, List.filterMap_append]
 have : stF sg rs t i k = none := by unfold stF; rw [h]; rfl
 simp [this]
theorem st_len : (stN sg rs t i k).length ≤ i * rs.length + k := by
 unfold stN
 rw [List.length_append]
 have h1 : ∀ n : Nat, ∀ a, ((List.range n).filterMap (stF sg rs t a)).length ≤ n := fun n a => by
   have := List.length_filterMap_le (stF sg rs t a) (List.range n)
   rwa [List.length_range] at this
 have h2 : ∀ i : Nat, ((List.range i).flatMap (fun a => (List.range rs.length).filterMap (stF sg rs t a))).length ≤ i * rs.length := fun i => by
   induction i with
   | zero => simp
   | succ i ih =>
     rw [List.range_succ, List.flatMap_append, List.length_append, Nat.add_mul]
     have := h1 rs.length i
     simp only [List.flatMap_cons, List.flatMap_nil, List.append_nil]
     omega
 have := h1 k i
 have := h2 i
 omega
end
def rdN (sg : List Int) (rs : List Rl) (t : List Int) (i k : Nat) : Nat := ((List.range i).map fun a => rs.countP fun x => redB sg x t a).sum + (rs.take k).countP fun x => redB sg x t i
section
variable {sg : List Int} {rs : List Rl} {t : List Int} {i k : Nat}
theorem rd_zero : rdN sg rs t 0 0 = 0 := rfl
theorem rd_row : rdN sg rs t i rs.length = rdN sg rs t (i + 1) 0 := by
 unfold rdN
 rw [List.take_of_length_le (Nat.le_refl _), List.range_succ, List.map_append, List.sum_append]
 simp
theorem rd_step (h : k < rs.length) : rdN sg rs t i (k + 1) = rdN sg rs t i k + if redB sg (rs.getD k ([], [])) t i = true then 1 else 0 := by
 unfold rdN
 rw [List.take_succ_eq_append_getElem h, List.countP_append]
 have : rs.getD k ([], []) = rs[k] := by simp [List.getD, h]
 rw [this, List.countP_cons, List.countP_nil]
 omega
theorem rd_le : rdN sg rs t i k ≤ i * rs.length + k := by
 unfold rdN
 have h1 : (rs.take k).countP (fun x => redB sg x t i) ≤ k := Nat.le_trans (List.countP_le_length) (by rw [List.length_take]; omega)
 have h2 : ∀ i : Nat, ((List.range i).map fun a => rs.countP fun x => redB sg x t a).sum ≤ i * rs.length := fun i => by
   induction i with
   | zero => simp
   | succ i ih =>
     rw [List.range_succ, List.map_append, List.sum_append, Nat.add_mul]
     have : rs.countP (fun x => redB sg x t i) ≤ rs.length := List.countP_le_length
     simp only [List.map_cons, List.map_nil, List.sum_cons, List.sum_nil]
     omega
 have := h2 i
 omega
theorem rd_none : (rdN sg rs t t.length 0 = 0) ↔ ((List.range t.length).all fun a => rs.all fun x => !redB sg x t a) = true := by
 unfold rdN
 rw [List.take_zero, List.countP_nil, Nat.add_zero, List.sum_eq_zero_iff_forall_eq_nat]
 constructor
 · intro h
   rw [List.all_eq_true]
   intro a ha
   rw [List.all_eq_true]
   intro x hx
   have h1 := h _ (List.mem_map.2 ⟨a, ha, rfl⟩)
   rw [List.countP_eq_zero] at h1
   have := h1 x hx
   simpa using this
 · intro h y hy
   obtain ⟨a, ha, rfl⟩ := List.mem_map.1 hy
   rw [List.all_eq_true] at h
   have h1 := h a ha
   rw [List.all_eq_true] at h1
   rw [List.countP_eq_zero]
   intro x hx
   have := h1 x hx
   simpa using this
theorem normal_eq (h : rightB sg rs t = true) : normalB sg rs t = decide (rdN sg rs t t.length 0 = 0) := by
 unfold normalB
 rw [h, Bool.true_and, Bool.eq_iff_iff, decide_eq_true_iff, rd_none]
end
end stepsMath
end
section
namespace orderMath
open sig term termOk termFacts ruleMath stepMath walkMath stepsMath
def hasR (sg : List Int) (rs : List Rl) (t : List Int) (a : Nat) : Bool := rs.any fun x => redB sg x t a
def ruleF (sg : List Int) (rs : List Rl) (t : List Int) (a : Nat) : Int := match rs.findIdx? (fun x => redB sg x t a) with
 | some r => (r : Int)
 | none => -1
def plN (sg : List Int) (rs : List Rl) (t : List Int) (n : Nat) : List Int := ((List.range n).filter (hasR sg rs t)).map fun a : Nat => (a : Int)
def placesL (sg : List Int) (rs : List Rl) (t : List Int) : List Int := plN sg rs t t.length
def placesI (sg : List Int) (rs : List Rl) (t : List Int) : List Int := if rightB sg rs t = true then placesL sg rs t else []
def inN (E : Int → Int) (l : List Int) (i : Nat) : List Int := ((List.range i).filter fun k => decide (k + 1 = l.length ∨ E (l.getD k 0) ≤ l.getD (k + 1) 0)).map fun k => l.getD k 0
def outN (E : Int → Int) (l : List Int) : Nat → List Int × Int
 | 0 => ([], 0)
 | i + 1 => if (outN E l i).2 ≤ l.getD i 0 then ((outN E l i).1 ++ [l.getD i 0], E (l.getD i 0)) else outN E l i
def inL (E : Int → Int) (l : List Int) : List Int := inN E l l.length
def outL (E : Int → Int) (l : List Int) : List Int := (outN E l l.length).1
def endR (sg t : List Int) (a : Int) : Int := endI sg t a.toNat
def inmostI (sg : List Int) (rs : List Rl) (t : List Int) : List Int := inL (endR sg t) (placesI sg rs t)
def outmostI (sg : List Int) (rs : List Rl) (t : List Int) : List Int := outL (endR sg t) (placesI sg rs t)
def selL (sg : List Int) (rs : List Rl) (t : List Int) (s : Int) : List Int := if s = 1 then inL (endR sg t) (placesL sg rs t) else if s = 2 then placesL sg rs t else (placesL sg rs t).reverse
def stratB (s : Int) : Bool := decide (1 ≤ s ∧ s ≤ 3)
def fuelB (f : Int) : Bool := decide (0 ≤ f ∧ f ≤ 60)
def pickL (sg : List Int) (rs : List Rl) (t : List Int) (s : Int) : Option (Int × Int) := (selL sg rs t s).head?.map fun a => (a, ruleF sg rs t a.toNat)
def runS (sg : List Int) (rs : List Rl) (s : Int) : Nat → List Int → List St
 | 0, _ => []
 | f + 1, t => match pickL sg rs t s with
   | none => []
   | some p => match stepAtO sg rs t p.1 p.2 with
     | none => []
     | some v => (p.1, p.2, v) :: runS sg rs s f v
def byB (sg : List Int) (rs : List Rl) (t : List Int) (s f : Int) : Bool := rightB sg rs t && (stratB s && fuelB f)
def byW (sg : List Int) (rs : List Rl) (t : List Int) (s f : Int) : Wk := if byB sg rs t s f = true then (t, runS sg rs s f.toNat t) else ([], [])
def byD (sg : List Int) (rs : List Rl) (t : List Int) (s f : Int) : Bool := byB sg rs t s f && normalB sg rs (endL (t, runS sg rs s f.toNat t))
section
variable {sg : List Int} {rs : List Rl} {t : List Int}
theorem rule_some {a k : Nat} (hk : k < rs.length) (h : ∀ j, j < k → redB sg (rs.getD j ([], [])) t a = false) (hy : redB sg (rs.getD k ([], [])) t a = true) : ruleF sg rs t a = (k : Int) ∧ hasR sg rs t a = true := by
 have e : ∀ j (hj : j < rs.length), rs.getD j ([], []) = rs[j] := fun j hj => by rw [List.getD_eq_getElem?_getD, List.getElem?_eq_getElem hj, Option.getD_some]
 have h2 : rs.findIdx? (fun x => redB sg x t a) = some k := by
   rw [List.findIdx?_eq_some_iff_getElem]
   exact ⟨hk, by rw [← e k hk]; exact hy, fun j hj => by rw [← e j (by omega)]; rw [h j hj]; simp⟩
 refine ⟨by unfold ruleF; rw [h2], ?_⟩
 unfold hasR
 rw [List.any_eq_true]
 exact ⟨rs[k], List.getElem_mem hk, by rw [← e k hk]; exact hy⟩
theorem has_rule {a : Nat} (h : hasR sg rs t a = true) : ∃ k, k < rs.length ∧ ruleF sg rs t a = (k : Int) ∧ redB sg (rs.getD k ([], [])) t a = true ∧ ∀ j, j < k → redB sg (rs.getD j ([], [])) t a = false := by
 have e : ∀ j (hj : j < rs.length), rs.getD j ([], []) = rs[j] := fun j hj => by rw [List.getD_eq_getElem?_getD, List.getElem?_eq_getElem hj, Option.getD_some]
 cases h2 : rs.findIdx? (fun x => redB sg x t a) with
 | none =>
   have h1 := List.findIdx?_eq_none_iff.1 h2
   unfold hasR at h
   rw [List.any_eq_true] at h
   obtain ⟨x, hx, hr⟩ := h
   rw [h1 x hx] at hr
   cases hr
 | some k =>
   obtain ⟨hk, hy, hn⟩ := List.findIdx?_eq_some_iff_getElem.1 h2
   exact ⟨k, hk, by unfold ruleF; rw [h2], by rw [e k hk]; exact hy, fun j hj => by rw [e j (by omega)]; have := hn j hj; simpa using this⟩
theorem pl_len (n : Nat) : (plN sg rs t n).length ≤ n := by
 unfold plN
 rw [List.length_map]
 exact Nat.le_trans (List.length_filter_le _ _) (by simp)
theorem pl_mem {n : Nat} {x : Int} : x ∈ plN sg rs t n ↔ ∃ a : Nat, a < n ∧ hasR sg rs t a = true ∧ x = (a : Int) := by
 unfold plN
 rw [List.mem_map]
 constructor
 · rintro ⟨a, ha, rfl⟩
   rw [List.mem_filter, List.mem_range] at ha
   exact ⟨a, ha.1, ha.2, rfl⟩
 · rintro ⟨a, h1, h2, rfl⟩
   exact ⟨a, by rw [List.mem_filter, List.mem_range]; exact ⟨h1, h2⟩, rfl⟩
theorem pl_sorted (n : Nat) : (plN sg rs t n).Pairwise (· < ·) := by
 unfold plN
 rw [List.pairwise_map]
 refine List.Pairwise.filter _ ?_
 exact List.Pairwise.imp (fun h => by omega) List.pairwise_lt_range
theorem places_empty (h : rightB sg rs t = true) : normalB sg rs t = decide (placesL sg rs t = []) := by
 unfold normalB
 rw [h, Bool.true_and]
 cases hb : (List.range t.length).all fun a => rs.all fun x => !redB sg x t a with
 | true =>
   symm
   rw [decide_eq_true_iff]
   cases hp : placesL sg rs t with
   | nil => rfl
   | cons y l =>
     obtain ⟨a, ha, hr, -⟩ := pl_mem.1 (show y ∈ plN sg rs t t.length by unfold placesL at hp; rw [hp]; exact List.mem_cons_self ..)
     rw [List.all_eq_true] at hb
     have h1 := hb a (List.mem_range.2 ha)
     rw [List.all_eq_true] at h1
     unfold hasR at hr
     rw [List.any_eq_true] at hr
     obtain ⟨x, hx, hr⟩ := hr
     have h2 := h1 x hx
     rw [hr] at h2
     cases h2
 | false =>
   symm
   rw [decide_eq_false_iff_not]
   intro hp
   rw [List.all_eq_false] at hb
   obtain ⟨a, ha, hb⟩ := hb
   have hh : hasR sg rs t a = true := by
     unfold hasR
     rw [List.any_eq_true]
     have hf : (rs.all fun x => !redB sg x t a) = false := by simpa using hb
     rw [List.all_eq_false] at hf
     obtain ⟨x, hx, hr⟩ := hf
     exact ⟨x, hx, by simpa using hr⟩
   have : (a : Int) ∈ plN sg rs t t.length := pl_mem.2 ⟨a, List.mem_range.1 ha, hh, rfl⟩
   unfold placesL at hp
   rw [hp] at this
   cases this
theorem in_yes {E : Int → Int} {l : List Int} {i : Nat} (h : i + 1 = l.length ∨ E (l.getD i 0) ≤ l.getD (i + 1) 0) : inN E l (i + 1) = inN E l i ++ [l.getD i 0] := by unfold inN; rw [List.range_succ, List.filter_append, List.map_append]; simp only [List.filter_cons, List.filter_nil, decide_eq_true h, if_true, List.map_cons, List.map_nil]
theorem in_no {E : Int → Int} {l : List Int} {i : Nat} (h : ¬ (i + 1 = l.length ∨ E (l.getD i 0) ≤ l.getD (i + 1) 0)) : inN E l (i + 1) = inN E l i := by unfold inN; rw [List.range_succ, List.filter_append, List.map_append]; simp only [List.filter_cons, List.filter_nil, decide_eq_false h, List.map_nil, List.append_nil]; simp
theorem in_len (E : Int → Int) (l : List Int) (i : Nat) : (inN E l i).length ≤ i := by
 unfold inN
 rw [List.length_map]
 exact Nat.le_trans (List.length_filter_le _ _) (by simp)
theorem out_yes {E : Int → Int} {l : List Int} {i : Nat} (h : (outN E l i).2 ≤ l.getD i 0) : outN E l (i + 1) = ((outN E l i).1 ++ [l.getD i 0], E (l.getD i 0)) := by rw [outN, if_pos h]
theorem out_no {E : Int → Int} {l : List Int} {i : Nat} (h : ¬ (outN E l i).2 ≤ l.getD i 0) : outN E l (i + 1) = outN E l i := by rw [outN, if_neg h]
theorem out_len (E : Int → Int) (l : List Int) : ∀ i : Nat, (outN E l i).1.length ≤ i
 | 0 => Nat.le_refl _
 | i + 1 => by
   have := out_len E l i
   by_cases h : (outN E l i).2 ≤ l.getD i 0
   · rw [out_yes h, List.length_append, List.length_singleton]; omega
   · rw [out_no h]; omega
theorem in_last {E : Int → Int} {l : List Int} (h : l ≠ []) : inL E l ≠ [] := by
 unfold inL
 obtain ⟨i, hi⟩ : ∃ i, l.length = i + 1 := ⟨l.length - 1, by have := List.length_pos_iff.2 h; omega⟩
 rw [hi, in_yes (.inl hi.symm)]
 simp
theorem sel_empty (s : Int) : selL sg rs t s = [] ↔ placesL sg rs t = [] := by
 unfold selL
 split
 · constructor
   · intro h
     cases hp : placesL sg rs t with
     | nil => rfl
     | cons y l => rw [hp] at h; exact absurd h (in_last (by simp))
   · intro h; rw [h]; rfl
 · split
   · exact Iff.rfl
   · rw [List.reverse_eq_nil_iff]
theorem in_mem {E : Int → Int} {l : List Int} {i : Nat} {x : Int} (hi : i ≤ l.length) (h : x ∈ inN E l i) : x ∈ l := by
 unfold inN at h
 obtain ⟨k, hk, rfl⟩ := List.mem_map.1 h
 have hk := List.mem_range.1 (List.mem_filter.1 hk).1
 rw [List.getD_eq_getElem?_getD, List.getElem?_eq_getElem (by omega), Option.getD_some]
 exact List.getElem_mem _
theorem sel_mem {s x : Int} (h : x ∈ selL sg rs t s) : x ∈ placesL sg rs t := by
 unfold selL at h
 split at h
 · exact in_mem (Nat.le_refl _) h
 · split at h
   · exact h
   · exact List.mem_reverse.1 h
theorem pick_none {s : Int} : pickL sg rs t s = none ↔ placesL sg rs t = [] := by
 unfold pickL
 rw [← sel_empty s]
 cases selL sg rs t s <;> simp
theorem pick_some {s : Int} {p : Int × Int} (h : pickL sg rs t s = some p) : ∃ a k : Nat, p = ((a : Int), (k : Int)) ∧ a < t.length ∧ k < rs.length ∧ redB sg (rs.getD k ([], [])) t a = true ∧ ∀ j, j < k → redB sg (rs.getD j ([], [])) t a = false := by
 unfold pickL at h
 cases hs : selL sg rs t s with
 | nil => rw [hs] at h; cases h
 | cons x l =>
   rw [hs] at h
   injection h with h
   obtain ⟨a, ha, hr, e⟩ := pl_mem.1 (sel_mem (s := s) (by rw [hs]; exact List.mem_cons_self ..) : x ∈ plN sg rs t t.length)
   obtain ⟨k, hk, e2, h3, h4⟩ := has_rule hr
   subst e
   exact ⟨a, k, by rw [← h]; simp [e2], ha, hk, h3, h4⟩
theorem run_none {s : Int} {f : Nat} (h : pickL sg rs t s = none) : runS sg rs s f t = [] := by
 cases f with
 | zero => rfl
 | succ f => rw [runS, h]
theorem run_stop {s : Int} {f : Nat} {p : Int × Int} (h : pickL sg rs t s = some p) (hs : stepAtO sg rs t p.1 p.2 = none) : runS sg rs s f t = [] := by
 cases f with
 | zero => rfl
 | succ f => rw [runS, h]; simp only [hs]
theorem run_go {s : Int} {f : Nat} {p : Int × Int} {v : List Int} (h : pickL sg rs t s = some p) (hs : stepAtO sg rs t p.1 p.2 = some v) : runS sg rs s (f + 1) t = (p.1, p.2, v) :: runS sg rs s f v := by rw [runS, h]; simp only [hs]
theorem end_snoc (L : List St) (a r : Int) (v : List Int) : endL (t, L ++ [(a, r, v)]) = v := by unfold endL; simp
end
theorem run_len (sg : List Int) (rs : List Rl) (s : Int) : ∀ (f : Nat) (t : List Int), (runS sg rs s f t).length ≤ f
 | 0, _ => Nat.le_refl _
 | f + 1, t => by
   rw [runS]
   split
   · exact Nat.zero_le _
   · split
     · exact Nat.zero_le _
     · rw [List.length_cons]; have := run_len sg rs s f; rename_i v _; have := this v; omega
theorem run_walk {sg : List Int} {rs : List Rl} {s : Int} : ∀ {f : Nat} {t : List Int}, goOn sg rs t (runS sg rs s f t) = some (endL (t, runS sg rs s f t))
 | 0, t => rfl
 | f + 1, t => by
   cases hp : pickL sg rs t s with
   | none => rw [run_none hp]; rfl
   | some p =>
     cases hs : stepAtO sg rs t p.1 p.2 with
     | none => rw [run_stop hp hs]; rfl
     | some v =>
       rw [run_go hp hs, end_cons]
       exact go_cons.2 ⟨hs, run_walk⟩
end orderMath
end
section
namespace orderMath
open sig term termOk termFacts ruleMath stepMath walkMath stepsMath
section
variable {E : Int → Int} {l : List Int}
theorem out_first (h0 : ∀ x ∈ l, 0 ≤ x) : ∀ i, 1 ≤ i → i ≤ l.length → (outN E l i).1.head? = l.head?
 | 1, _, h => by
   cases l with
   | nil => simp at h
   | cons y r => rw [out_yes (by show (0 : Int) ≤ _; exact h0 _ (List.mem_cons_self ..))]; rfl
 | i + 2, _, h => by
   have ih := out_first h0 (i + 1) (by omega) (by omega)
   by_cases hh : (outN E l (i + 1)).2 ≤ l.getD (i + 1) 0
   · rw [out_yes hh, ← ih]
     cases he : (outN E l (i + 1)).1 with
     | nil =>
       rw [he] at ih
       cases l with
       | nil => simp at h
       | cons y r => cases ih
     | cons y r => rfl
   · rw [out_no hh, ih]
theorem out_head (h0 : ∀ x ∈ l, 0 ≤ x) : (outL E l).head? = l.head? := by
 unfold outL
 cases l with
 | nil => rfl
 | cons y r => exact out_first h0 _ (by simp) (Nat.le_refl _)
end
section
variable {sg : List Int} {rs : List Rl} {t : List Int}
theorem placesI_mem {x : Int} (h : x ∈ placesI sg rs t) : rightB sg rs t = true ∧ ∃ a : Nat, a < t.length ∧ hasR sg rs t a = true ∧ x = (a : Int) := by
 unfold placesI at h
 split at h
 · exact ⟨by assumption, pl_mem.1 h⟩
 · cases h
theorem placesI_nonneg {x : Int} (h : x ∈ placesI sg rs t) : 0 ≤ x := by
 obtain ⟨-, a, -, -, rfl⟩ := placesI_mem h
 omega
theorem outI_head : (outmostI sg rs t).head? = (placesI sg rs t).head? := out_head fun x hx => placesI_nonneg hx
end
def Gone (sg : List Int) (rs : List Rl) (s : Int) (F : Nat) (t : List Int) (i : Nat) (L : List St) (u : List Int) : Prop := runS sg rs s F t = L ++ runS sg rs s (F - i) u ∧ L.length = i ∧ u = endL (t, L) ∧ rightB sg rs u = true ∧ i ≤ F
section
variable {sg : List Int} {rs : List Rl} {s : Int} {F i : Nat} {t u v : List Int} {L : List St}
theorem gone_zero (h : rightB sg rs t = true) : Gone sg rs s F t 0 [] t := ⟨rfl, rfl, rfl, h, Nat.zero_le _⟩
theorem right_step {p : Int × Int} (h : rightB sg rs u = true) (hs : stepAtO sg rs u p.1 p.2 = some v) : rightB sg rs v = true := by
 unfold rightB at h ⊢
 rw [Bool.and_eq_true] at h ⊢
 exact ⟨h.1, stepAt_ok hs⟩
theorem gone_step {p : Int × Int} (h : Gone sg rs s F t i L u) (hi : i < F) (hp : pickL sg rs u s = some p) (hs : stepAtO sg rs u p.1 p.2 = some v) : Gone sg rs s F t (i + 1) (L ++ [(p.1, p.2, v)]) v := by
 obtain ⟨h1, h2, h3, h4, h5⟩ := h
 refine ⟨?_, by rw [List.length_append, h2]; rfl, (end_snoc L p.1 p.2 v).symm, right_step h4 hs, hi⟩
 obtain ⟨g, hg⟩ : ∃ g, F - i = g + 1 := ⟨F - i - 1, by omega⟩
 have hg2 : F - (i + 1) = g := by omega
 rw [h1, hg, run_go hp hs, hg2, List.append_assoc]
 rfl
theorem gone_full (h : Gone sg rs s F t i L u) (hi : ¬ i < F) : runS sg rs s F t = L := by
 have : F - i = 0 := by omega
 rw [h.1, this]
 exact List.append_nil L
theorem gone_none (h : Gone sg rs s F t i L u) (hp : pickL sg rs u s = none) : runS sg rs s F t = L := by rw [h.1, run_none hp, List.append_nil]
theorem gone_stop {p : Int × Int} (h : Gone sg rs s F t i L u) (hp : pickL sg rs u s = some p) (hs : stepAtO sg rs u p.1 p.2 = none) : runS sg rs s F t = L := by rw [h.1, run_stop hp hs, List.append_nil]
theorem by_done (hR : runS sg rs s F t = L) (hu : u = endL (t, L)) (hb : byB sg rs t s (F : Int) = true) : byW sg rs t s (F : Int) = (t, L) ∧ byD sg rs t s (F : Int) = normalB sg rs u := by
 unfold byD byW
 rw [hb, if_pos rfl, Int.toNat_natCast, hR, ← hu, Bool.true_and]
 exact ⟨rfl, rfl⟩
theorem by_off {f : Int} (h : byB sg rs t s f = false) : byW sg rs t s f = ([], []) ∧ byD sg rs t s f = false := by
 unfold byD byW
 rw [h, if_neg (by simp), Bool.false_and]
 exact ⟨rfl, rfl⟩
theorem by_no1 {f : Int} (h : (rightB sg rs t && stratB s) = false) : byB sg rs t s f = false := by
 unfold byB
 rw [← Bool.and_assoc, h]
 rfl
theorem by_no2 {f : Int} (h : fuelB f = false) : byB sg rs t s f = false := by unfold byB; rw [h, Bool.and_false, Bool.and_false]
theorem by_yes {f : Int} (h : (rightB sg rs t && stratB s) = true) (h2 : fuelB f = true) : byB sg rs t s f = true := by
 unfold byB
 rw [← Bool.and_assoc, h, h2]
 rfl
theorem pick_step {p : Int × Int} (hr : rightB sg rs u = true) (h : pickL sg rs u s = some p) : ∃ a k : Nat, p = ((a : Int), (k : Int)) ∧ a < u.length ∧ k < rs.length ∧ redB sg (rs.getD k ([], [])) u a = true ∧ (∀ j, j < k → redB sg (rs.getD j ([], [])) u a = false) ∧ stepAtO sg rs u p.1 p.2 = stepO sg (rs.getD k ([], [])) u a := by
 obtain ⟨a, k, rfl, ha, hk, h1, h2⟩ := pick_some h
 refine ⟨a, k, rfl, ha, hk, h1, h2, ?_⟩
 unfold rightB at hr
 rw [Bool.and_eq_true] at hr
 unfold stepAtO
 rw [if_pos (there_mk hr.1 hr.2 (by omega) (by omega))]
 unfold rl
 rw [Int.toNat_natCast, Int.toNat_natCast]
theorem normal_pick (hr : rightB sg rs u = true) : normalB sg rs u = (pickL sg rs u s).isNone := by
 rw [places_empty hr]
 cases h : pickL sg rs u s with
 | none => rw [pick_none.1 h]; rfl
 | some p =>
   have : placesL sg rs u ≠ [] := fun e => by rw [pick_none.2 e] at h; cases h
   rw [decide_eq_false this]
   rfl
end
section
variable {sg : List Int} {rs : List Rl} {t : List Int}
end
end orderMath
end
end Go.Proofs.YtifckjchmjmhoabGreat
