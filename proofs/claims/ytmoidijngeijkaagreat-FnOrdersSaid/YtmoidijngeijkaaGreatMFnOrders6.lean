/-
  MERGED: my texts StepSpec, TabR, Whole, TakeMath, Take, Extended, StepImpl, AnyR, RuleImpl, RuleImplB, StepImplB, StepImplC, StepsMath, one behind the other, as they are. By an AI agent.
-/
import Derived.Test.YtmoidijngeijkaaGreatMFnOrders5
import Derived.Deep.RegionHeld3
import Derived.Deep.DeepCutAuto
import Derived.Laws.Rows
import Derived.Laws.ResultCell
import Derived.Deep.WholeRow
import Derived.Shelf.Abstract
namespace Go.Proofs.YtmoidijngeijkaaGreat
section
open Go.Lib (hid)
namespace stepSpec
open Go.RowKit base ints sig term termOk endAt endOf marks app sym sub segs segsHelp kinds termFacts termMath posMath plainMath plainFacts plain gives fillMath shifted matchMath matchSpec putMath varsOf shape kindsR kindsW ruleMath ruleSpec stepMath walkMath
set_option maxRecDepth 100000
theorem right_sys {sg : List Int} {rs : List Rl} {t : List Int} (h : sysOkB sg rs = false) : rightB sg rs t = false := by unfold rightB; rw [h]; rfl
theorem right_term {sg : List Int} {rs : List Rl} {t : List Int} (h : termOkB sg t = false) : rightB sg rs t = false := by unfold rightB; rw [h, Bool.and_false]
theorem right_yes {sg : List Int} {rs : List Rl} {t : List Int} (h : sysOkB sg rs = true) (h' : termOkB sg t = true) : rightB sg rs t = true := by unfold rightB; rw [h, h']; rfl
theorem right_parts {sg : List Int} {rs : List Rl} {t : List Int} (h : rightB sg rs t = true) : sysOkB sg rs = true ∧ termOkB sg t = true := by unfold rightB at h; rw [Bool.and_eq_true] at h; exact h
theorem redex_no {sg : List Int} {rs : List Rl} {t : List Int} {a r : Int} (h : thereR sg rs t a r = false) : redexB sg rs t a r = false := by unfold redexB; rw [h]; rfl
theorem redex_yes {sg : List Int} {rs : List Rl} {t : List Int} {a r : Int} (h : thereR sg rs t a r = true) : redexB sg rs t a r = redB sg (rl rs r) t a.toNat := by unfold redexB; rw [h]; rfl
theorem at_no {sg : List Int} {rs : List Rl} {t : List Int} {a r : Int} (h : thereR sg rs t a r = false) : stepAtO sg rs t a r = none := by unfold stepAtO; rw [if_neg (by rw [h]; simp)]
theorem at_yes {sg : List Int} {rs : List Rl} {t : List Int} {a r : Int} (h : thereR sg rs t a r = true) : stepAtO sg rs t a r = stepO sg (rl rs r) t a.toNat := by unfold stepAtO; rw [if_pos h]
theorem sys_rule {sg : List Int} {rs : List Rl} (h : sysOkB sg rs = true) {r : Nat} (hr : r < rs.length) : ruleOkB sg (rs.getD r ([], [])) = true := by
 have := rl_ok (r := (r : Int)) h (by omega)
 unfold rl at this
 simpa using this
theorem step_len {sg : List Int} {x : Rl} {t v : List Int} {a : Nat} (h : stepO sg x t a = some v) : v.length ≤ 60 := by
 unfold stepO at h
 split at h
 ·cases h
 ·split at h
  ·rename_i hf
   injection h with h
   subst h
   exact hf.2
  ·cases h
def AnsStep (w : World) (o : Option (List Int)) (e : Ending) (w' : World) : Prop := AnsPairO w (o.getD []) o.isSome e w'
theorem ansStep_no {w w' : World} {o : Option (List Int)} (h : o = none) (hb : Below w.heap.size w w') : AnsStep w o (.returned (.tuple #[.slice (some ⟨w'.heap.size, 0, none⟩) 0 0, .bool false])) (w'.alloc (.cells #[] 2)) :=
 ⟨_, 0, 0, by rw [h]; rfl, by rw [h]; exact own_empty w' w.heap.size hb.size, hb.alloc hb.size _⟩
theorem ansStep_nil {w w' : World} {o : Option (List Int)} (h : o = none) (hb : Below w.heap.size w w') : AnsStep w o (.returned (.tuple #[.slice none 0 0, .bool false])) w' :=
 ⟨_, 0, 0, by rw [h]; rfl, by rw [h]; exact Own.nil _ _, hb⟩
set_option maxHeartbeats 2000000 in
theorem l7Right (a v : Value) (d : Dat sSystem) (T : Option Addr) (m c : Nat) (t : List Int) (w : World) (h : Rd w w.heap.size sSystem [a, v] d) (hz : sz sSystem d ≤ 1048576) (ht : Seg w w.heap.size T m t) (hm : m ≤ 1048576) :
  Calls Tryz.prog 59 #[.agg #[a, v], .slice T m c] w (AnsB w (rightB d.1 d.2 t)) := by
 obtain ⟨A, n, cs, V, q, cv, rfl, rfl, hs, hc, hcv, hq, hn, hq1, hrs, hsg, hE⟩ := rd_sys h hz
 obtain ⟨W, hW, rA, bel⟩ := box1 w 29 #[.slice A n cs, .slice V q cv]
 have HW := hid hW
 have L1 := hid (specSystemOk _ _ d W (h.next bel) hz)
 have L2 := hid (fun (w1 : World) (bb : Below w.heap.size w w1) => specTermOk A T n cs m c d.1 t w1 (hs.next bb) (ht.next bb) hn hm)
 clear hW h hz hs hc hcv hq hrs hsg hE ht
 cases ok1 : sysOkB d.1 d.2 with
 | false =>
  have HS := hid ok1
  clear ok1
  go_enter Tryz.func59, Tryz.ntmps59
  go_wp2_with fail
  rw [← HW.out]
  refine L1.out.mono ?_
  rintro e w1 ⟨he, bb⟩
  rw [HS.out] at he
  subst he
  have F := hid (ansB (b := rightB d.1 d.2 t) (a := false) (by rw [right_sys HS.out]) (next_trans bel bb))
  clear bb bel rA
  go_wp2
  go_ret
  exact F.out
 | true =>
  obtain ⟨bt, hbt⟩ : ∃ b, termOkB d.1 t = b := ⟨_, rfl⟩
  have HS := hid (show rightB d.1 d.2 t = bt by unfold rightB; rw [ok1, hbt]; rfl)
  have HB := hid hbt
  have H1 := hid ok1
  clear ok1 hbt
  go_enter Tryz.func59, Tryz.ntmps59
  go_wp2_with fail
  rw [← HW.out]
  refine L1.out.mono ?_
  rintro e w1 ⟨he, bb⟩
  rw [H1.out] at he
  subst he
  replace rA := rA.next bb
  replace bel := next_trans bel bb
  have cA : w1.cell? ⟨w.heap.size, 0, none⟩ = some (.slice A n cs) := rA.cell 0
  clear bb L1
  go_wp2_with fail
  refine (L2.out _ bel).mono ?_
  rintro e w2 ⟨he, bb⟩
  rw [HB.out] at he
  subst he
  have F := hid (ansB (b := rightB d.1 d.2 t) (a := bt) (by rw [HS.out]) (next_trans bel bb))
  clear bb bel rA cA
  cases bt <;> (go_wp2; go_ret; exact F.out)
-- REST
def SubIn (W : World) (A : Option Addr) (n cs : Nat) (T : Option Addr) (m c : Nat) (x : Int) (ys : List Int) : Prop := ∀ X, Below W.heap.size W X → Calls Tryz.prog 94 #[.agg #[.slice A n cs], .slice T m c, .int .i64 x] X fun e w' => ∃ D dn dc, e = .returned (.slice D dn dc) ∧ Own w' W.heap.size (.slice D dn dc) ys ∧ Below W.heap.size W w' ∧ Below X.heap.size X w'
def MatchIn (W : World) (A : Option Addr) (n cs : Nat) (P : Option Addr) (pn pc : Nat) (ys : List Int) (R : Option (List (List Int))) : Prop := ∀ X D dn dc, Below W.heap.size W X → Own X W.heap.size (.slice D dn dc) ys → Calls Tryz.prog 93 #[.agg #[.slice A n cs], .slice P pn pc, .slice D dn dc] X fun e w' => ∃ G gn gc, e = .returned (.tuple #[.agg #[.slice G gn gc], .bool R.isSome]) ∧ Owns w' X.heap.size w'.heap.size G gn gc (resL R) ∧ Below W.heap.size W w' ∧ Below X.heap.size X w'
theorem subIn {W : World} {A : Option Addr} {n cs : Nat} {T : Option Addr} {m c : Nat} {sg t : List Int} {a : Nat} (h : Seg W W.heap.size A n sg) (h' : Seg W W.heap.size T m t) (hn : n ≤ 1048576) (hm : m ≤ 1048576) (hc : m ≤ c) (hc2 : c ≤ 9223372036854775807) (ht : termOkB sg t = true) (ha : a < t.length) : SubIn W A n cs T m c (a : Int) (subL sg t a) := fun X hX => by
 obtain ⟨t1, t2, t3⟩ := term_at ht ha
 have hl := h'.1
 refine (l1Sub A T n cs m c sg t a (len1 sg t a) X (h.next hX) (h'.next hX) hn hm hc hc2 (sig_arities (termOk_parts ht).1).1 (by omega) t1 t2 (by omega)).mono ?_
 rintro e w3 ⟨D, dn, dc, rfl, od, b3⟩
 exact ⟨D, dn, dc, rfl, Own.lower od hX.size, next_trans hX b3, b3⟩
theorem matchIn {W : World} {A : Option Addr} {n cs : Nat} {P : Option Addr} {pn pc : Nat} {sg p ys : List Int} (h : Seg W W.heap.size A n sg) (h' : Seg W W.heap.size P pn p) (hn : n ≤ 1048576) (hp : termOkB sg p = true) (ht : termOkB sg ys = true) : MatchIn W A n cs P pn pc ys (mst sg ys p 0 s0) := fun X D dn dc hX ho => by
 have hpn : pn ≤ 60 := by have := (term_len hp).2; have := h'.1; omega
 have hdn : dn ≤ 60 := by have := (term_len ht).2; have := Own.len ho; omega
 have hcd := look.own_cap ho
 refine (l4Match A P D n cs pn pc dn dc sg p ys X (h.next hX) (h'.next hX) (Own.seg ho) hn hpn hdn hcd.1 hcd.2.1 hp ht).mono ?_
 rintro e w4 ⟨G, gn, gc, rfl, og, b4⟩
 exact ⟨G, gn, gc, rfl, og, next_trans hX b4, b4⟩
theorem box_a {W w : World} {v : Bool} {o : Obj} (h : Below W.heap.size W w) : Value.bool v = .bool v ∧ Below W.heap.size W (w.alloc o) := ⟨rfl, h.alloc h.size _⟩
theorem box_b {W w : World} {v : Bool} {g i : Nat} {u : Value} (h : Below W.heap.size W w) (hg : W.heap.size ≤ g) : Value.bool v = .bool v ∧ Below W.heap.size W (w.setCell ⟨g, i, none⟩ u) := ⟨rfl, h.setCell hg _⟩
theorem step_none {sg : List Int} {x : Rl} {t : List Int} {a : Nat} (h : mst sg (subL sg t a) x.1 0 s0 = none) : stepO sg x t a = none := by unfold stepO; rw [h]
theorem fill_res {s : List (List Int)} (hl : s.length = 24) (p : List Int) : fillL (givesL (resL (some s))) p = fillL (givesL s) p := fill_ext fun _ _ _ => matchFacts.res_gives hl _
theorem step_long {sg : List Int} {x : Rl} {t : List Int} {a : Nat} {s : List (List Int)} (h : mst sg (subL sg t a) x.1 0 s0 = some s) (hl : s.length = 24) (hf : filled.fitsB (resL (some s)) x.2 = false) : stepO sg x t a = none := by
 unfold filled.fitsB at hf
 rw [fill_res hl] at hf
 have := of_decide_eq_false hf
 unfold stepO
 rw [h]
 dsimp only
 rw [if_neg (fun hh => this hh.1)]
theorem step_fits {sg : List Int} {x : Rl} {t : List Int} {a : Nat} {s : List (List Int)} (h : mst sg (subL sg t a) x.1 0 s0 = some s) (hl : s.length = 24) (hf : filled.fitsB (resL (some s)) x.2 = true) : (stepO sg x t a).getD [] = put.fitL sg t (filled.fitL (resL (some s)) x.2) a ∧ (stepO sg x t a).isSome = put.fitB sg t (filled.fitL (resL (some s)) x.2) a := by
 have e0 : filled.fitL (resL (some s)) x.2 = fillL (givesL s) x.2 := by unfold filled.fitL; rw [if_pos hf, fill_res hl]
 unfold filled.fitsB at hf
 rw [fill_res hl] at hf
 have hf := of_decide_eq_true hf
 rw [e0]
 unfold stepO
 rw [h]
 dsimp only
 unfold put.fitL put.fitB
 have e1 : put.putI sg t (fillL (givesL s) x.2) a = putAt sg t (fillL (givesL s) x.2) a := rfl
 rw [e1]
 by_cases hh : (putAt sg t (fillL (givesL s) x.2) a).length ≤ 60
 ·rw [if_pos ⟨hf, hh⟩, if_pos (decide_eq_true hh), decide_eq_true hh]; exact ⟨rfl, rfl⟩
 ·rw [if_neg (fun h => hh h.2), if_neg (by rw [decide_eq_false hh]; simp), decide_eq_false hh]; exact ⟨rfl, rfl⟩
theorem sz_lt (w : World) (o : Obj) : w.heap.size < (w.alloc o).heap.size := by simp
def StepBox (W : World) (bo : Bool) (xss : List (List Int)) (s11 s12 : Value) (wx : World) : Prop := ∃ g G gn gc, s11 = .pointer (some ⟨g, 0, none⟩) ∧ s12 = .bool bo ∧ Row wx g 51 #[.slice G gn gc] ∧ Segs wx wx.heap.size G gn xss ∧ Below W.heap.size W wx
theorem sbox_a {W w : World} {bo : Bool} {xss : List (List Int)} {lo : Nat} {G : Option Addr} {gn gc : Nat} (h : Owns w lo w.heap.size G gn gc xss) (hb : Below W.heap.size W w) : StepBox W bo xss (.pointer (some ⟨w.heap.size, 0, none⟩)) (.bool bo) (w.alloc (.cells #[.slice G gn gc] 51)) :=
 ⟨_, _, _, _, rfl, rfl, Row.new _ _ _, (h.segs.alloc (Nat.le_refl _) _).more (by simp), hb.alloc hb.size _⟩
theorem sbox_b {W w : World} {bo : Bool} {xss : List (List Int)} {lo g : Nat} {G : Option Addr} {gn gc : Nat} (h : Owns w lo w.heap.size G gn gc xss) (hr : Row w g 51 #[.slice none 0 0]) (hg : g < lo) (hW : W.heap.size ≤ g) (hb : Below W.heap.size W w) : StepBox W bo xss (.pointer (some ⟨g, 0, none⟩)) (.bool bo) (w.setCell ⟨g, 0, none⟩ (.slice G gn gc)) := by
 have h2 : Owns (w.setCell ⟨g, 0, none⟩ (.slice G gn gc)) lo w.heap.size G gn gc xss := h.btw (lo' := g) (hi' := g + 1) ⟨rfl, rfl, rfl, by simp, fun k hk ho => Below.heap_setCell w _ _ k (by show k ≠ g; omega)⟩ (.inr (by omega))
 exact ⟨_, _, _, _, rfl, rfl, hr.put 0 _, h2.segs, hb.setCell hW _⟩
set_option maxHeartbeats 4000000 in
theorem l7Step (a v u : Value) (d : Dat sSystem) (t : List Int) (x k : Nat) (w : World) (h : Rd w w.heap.size sSystem [a, v] d) (ht : Rd w w.heap.size sI [u] t) (hz : sz sSystem d ≤ 1048576) (hok : rightB d.1 d.2 t = true) (hx : x < t.length) (hk : k < d.2.length) :
  Calls Tryz.prog 41 #[.agg #[a, v], u, .int .i64 (x : Int), .int .i64 (k : Int)] w (AnsStep w (stepO d.1 (d.2.getD k ([], [])) t x)) := by
 obtain ⟨T, m, c, rfl, hT, hcT⟩ := rd_ints.1 ht
 obtain ⟨oks, okt⟩ := right_parts hok
 have hm : m ≤ 60 := by have := (term_len okt).2; have := hT.1; omega
 obtain ⟨A, n, cs, V, q, cv, rfl, rfl, hs, hc, hcv, hq, hn, hq1, hrs, hsg, hE⟩ := rd_sys h hz
 rw [hq] at hk
 obtain ⟨b, off, l, rr, y, rfl, hb, ey, cl, cr, hry⟩ := rd_at hrs (Below.refl _ _) hq hk
 have hzy : sz sRule y ≤ 1048576 := by rw [← ey.out]; exact hE k hk
 have okr : ruleOkB d.1 y = true := by rw [← ey.out]; exact sys_rule oks (by rw [hq]; exact hk)
 obtain ⟨P, pn, pc, P', pn', pc', rfl, rfl, sP, kP, sP', kP', hpn, hpn'⟩ := rd_rule hry hzy
 rw [ey.out]
 obtain ⟨W, hW, rA, rR, bel⟩ := box2 w 29 126 #[.slice A n cs, .slice (some ⟨b, off, none⟩) q cv] #[.slice P pn pc, .slice P' pn' pc']
 have HW := hid hW
 have zA : w.heap.size < W.heap.size := rA.lt
 have zR : w.heap.size + 1 < W.heap.size := rR.lt
 have LS := hid (subIn (cs := cs) (c := c) (hs.next bel) (hT.next bel) hn (by omega) hcT.1 hcT.2.1 okt hx)
 have LM := hid (matchIn (cs := cs) (pc := pc) (hs.next bel) (sP.next bel) hn (rule_parts okr).1 (sub_ok okt hx))
 obtain ⟨R, hR⟩ : ∃ R, mst d.1 (subL d.1 t x) y.1 0 s0 = R := ⟨_, rfl⟩
 rw [hR] at LM
 have HRE := hid hR
 obtain ⟨bo, hbo⟩ : ∃ bo, R.isSome = bo := ⟨_, rfl⟩
 have HR := hid hbo
 have HOK := hid (show ruleOkB d.1 y = true ∧ termOkB d.1 t = true ∧ x < t.length from ⟨okr, okt, hx⟩)
 have SS := hid (show Seg w w.heap.size A n d.1 ∧ Seg w w.heap.size T m t ∧ Seg w w.heap.size P' pn' y.2 ∧ m ≤ c ∧ c ≤ 9223372036854775807 from ⟨hs, hT, sP', hcT.1, hcT.2.1⟩)
 have c0 : (w.alloc (.cells #[.slice A n cs, .slice (some ⟨b, off, none⟩) q cv] 29)).cell? ⟨b, off + k * 2, none⟩ = some (.slice P pn pc) := (((Below.refl w.heap.size w).alloc (Nat.le_refl _) _).cell (p := ⟨b, off + k * 2, none⟩) hb).trans cl
 have c1 : (w.alloc (.cells #[.slice A n cs, .slice (some ⟨b, off, none⟩) q cv] 29)).cell? ⟨b, off + k * 2 + 1, none⟩ = some (.slice P' pn' pc') := (((Below.refl w.heap.size w).alloc (Nat.le_refl _) _).cell (p := ⟨b, off + k * 2 + 1, none⟩) hb).trans cr
 have i0 : (0 : Int) ≤ (k : Int) := by omega
 have i1 : (k : Int) < (q : Int) := by omega
 have K0 : W.cell? ⟨w.heap.size, 0, none⟩ = some (.slice A n cs) := rA.cell 0
 have K1 : W.cell? ⟨w.heap.size + 1, 0, none⟩ = some (.slice P pn pc) := rR.cell 0
 have hneA : ¬ w.heap.size = W.heap.size := by omega
 have hnfA : ¬ W.heap.size = w.heap.size := by omega
 have hneR : ¬ w.heap.size + 1 = W.heap.size := by omega
 have hnfR : ¬ W.heap.size = w.heap.size + 1 := by omega
 have BEL := hid bel
 have RA := hid rA
 have RR := hid rR
 have B0 := Below.refl W.heap.size W
 clear hW h hs hc hcv hq hrs hsg hE ht hT hcT oks okt okr sP kP sP' kP' hry hzy hR hbo hx hok hz ey bel rA rR cl cr
 go_enter Tryz.func41, Tryz.ntmps41
 go_upto_region 2 with fail
 rw [← HW.out]
 clear c0 c1 i0 i1
 go_cut [11, 12] (fun s11 s12 wx => StepBox W bo (resL R) s11 s12 wx)
 case first =>
  go_region_held3 (fun w' => w'.cell? ⟨w.heap.size, 0, none⟩ = some (.slice A n cs) ∧ w'.cell? ⟨w.heap.size + 1, 0, none⟩ = some (.slice P pn pc))
   (go_keep)
   (first
    | (go_at_call 94; refine (LS.out _ ?_).mono ?_; (first | exact B0 | exact B0.drew | exact (B0.alloc B0.size _) | exact (B0.alloc B0.size _).drew | exact (B0.drew.alloc B0.drew.size _)); rintro e w3 ⟨D, dn, dc, rfl, od, B3, b3⟩; have z3 := B3.size; (first | have r8 := Row.next (Row.drew (Row.new W 51 #[.slice none 0 0])) b3 | have r8 := Row.next (Row.new W.drew 51 #[.slice none 0 0]) b3 | skip); have ne30 : ¬ w.heap.size = w3.heap.size := Nat.ne_of_lt (Nat.lt_of_lt_of_le zA B3.size); have nf30 : ¬ w3.heap.size = w.heap.size := Nat.ne_of_gt (Nat.lt_of_lt_of_le zA B3.size); have ne31 : ¬ (w.heap.size + 1) = w3.heap.size := Nat.ne_of_lt (Nat.lt_of_lt_of_le zR B3.size); have nf31 : ¬ w3.heap.size = (w.heap.size + 1) := Nat.ne_of_gt (Nat.lt_of_lt_of_le zR B3.size); have k0_3 : w3.cell? ⟨w.heap.size, 0, none⟩ = some (.slice A n cs) := (B3.cell (p := ⟨w.heap.size, 0, none⟩) zA).trans K0; have k1_3 : w3.cell? ⟨w.heap.size + 1, 0, none⟩ = some (.slice P pn pc) := (B3.cell (p := ⟨w.heap.size + 1, 0, none⟩) zR).trans K1)
    | (go_at_call 93; refine (LM.out _ _ _ _ ?_ ?_).mono ?_; (first | exact B3 | exact B3.alloc B3.size _); (first | exact od | exact Own.alloc od _); rintro e w4 ⟨G, gn, gc, rfl, og, B4, b4⟩; rw [HR.out]; have z4 := B4.size; (first | have r9 := Row.next r8 b4 | have r9 := Row.next (Row.new w3 51 #[.slice none 0 0]) b4 | skip); (first | (have c9 : _ = some (Value.slice none 0 0) := r9.cell 0; have f9 := r9.free 0) | skip); have ne40 : ¬ w.heap.size = w4.heap.size := Nat.ne_of_lt (Nat.lt_of_lt_of_le zA B4.size); have nf40 : ¬ w4.heap.size = w.heap.size := Nat.ne_of_gt (Nat.lt_of_lt_of_le zA B4.size); have ne41 : ¬ (w.heap.size + 1) = w4.heap.size := Nat.ne_of_lt (Nat.lt_of_lt_of_le zR B4.size); have nf41 : ¬ w4.heap.size = (w.heap.size + 1) := Nat.ne_of_gt (Nat.lt_of_lt_of_le zR B4.size); have k0_4 : w4.cell? ⟨w.heap.size, 0, none⟩ = some (.slice A n cs) := (B4.cell (p := ⟨w.heap.size, 0, none⟩) zA).trans K0; have k1_4 : w4.cell? ⟨w.heap.size + 1, 0, none⟩ = some (.slice P pn pc) := (B4.cell (p := ⟨w.heap.size + 1, 0, none⟩) zR).trans K1))
  all_goals
   go_wp2_with fail
   go_meet
   first | (with_reducible exact sbox_a og B4) | (with_reducible exact sbox_b og r9 (sz_lt _ _) z3 B4) | (with_reducible exact sbox_b og r9 r8.lt (Nat.le_refl _) B4)
 case rest =>
  rename World => wc
  obtain ⟨g, G, gn, gc, rfl, rfl, rS, sg, bx⟩ := hcut
  have bel := BEL.out.trans (bx.mono BEL.out.size)
  replace rA := RA.out.next bx
  replace rR := RR.out.next bx
  clear K0 K1 B0 hneA hnfA hneR hnfR
  cases R with
  | none =>
   obtain rfl : bo = false := HR.out.symm
   have F := hid (ansStep_no (o := stepO d.1 y t x) (step_none HRE.out) bel)
   clear bx bel rA rR rS sg
   go_wp2
   go_ret2
   exact F.out
  | some s =>
   obtain rfl : bo = true := HR.out.symm
   have hmo : matchO d.1 y.1 (subL d.1 t x) = some s := by rw [match_yes (rule_parts HOK.out.1).1 (sub_ok HOK.out.2.1 HOK.out.2.2)]; exact HRE.out
   have hl24 := (match_turns hmo).1
   have hmt := matchFacts.match_terms hmo
   have HGV := hid (fun i => (show (givesL (resL (some s)) i).length ≤ 60 by
    rw [matchFacts.res_gives hl24]
    unfold givesL
    split
    ·simp [vt]
    ·rcases hmt.2.2.2 i with e | e
     ·omega
     ·exact (term_len e).2))
   have HTT := hid (show tot (resL (some s)) ≤ 1048576 by rw [← hmo]; exact matchTot.match_tot)
   have HL24 := hid hl24
   have hv := (rule_parts HOK.out.1).2.1
   have hpn60 : pn' ≤ 60 := by have := (term_len hv).2; have := SS.out.2.2.1.1; omega
   have LF := hid (filled.l2Filled G P' gn gc pn' pc' (resL (some s)) y.2 wc sg (SS.out.2.2.1.next bel) HTT.out hpn60 (fun z hz => (term_mem hv hz).1) HGV.out)
   obtain ⟨bf, hbf⟩ : ∃ bf, filled.fitsB (resL (some s)) y.2 = bf := ⟨_, rfl⟩
   have HBF := hid hbf
   have k0 : wc.cell? ⟨g, 0, none⟩ = some (.slice G gn gc) := rS.cell 0
   have k1 : wc.cell? ⟨w.heap.size + 1, 1, none⟩ = some (.slice P' pn' pc') := rR.cell 1
   clear hmo hl24 hmt hv hbf bx sg LS LM
   go_wp2_with fail
   refine LF.out.mono ?_
   rintro e w5 ⟨O, on, oc, rfl, oO, bb⟩
   rw [HBF.out]
   replace rA := rA.next bb
   replace bel := next_trans bel bb
   clear k0 k1 LF rS rR bb
   cases bf with
   | false =>
    have F := hid (ansStep_no (o := stepO d.1 y t x) (step_long HRE.out HL24.out HBF.out) bel)
    clear bel rA oO
    go_wp2
    go_ret2
    exact F.out
   | true =>
    have E := hid (step_fits HRE.out HL24.out HBF.out)
    have hon : on ≤ 60 := by
     have h1 := Own.len oO
     have h2 : (filled.fitL (resL (some s)) y.2).length ≤ 60 := by
      unfold filled.fitL
      rw [if_pos HBF.out]
      have := HBF.out
      unfold filled.fitsB at this
      exact of_decide_eq_true this
     omega
    have hco := look.own_cap oO
    have LP := hid (put.l3Put A T O n cs m c on oc d.1 t (filled.fitL (resL (some s)) y.2) x w5 (SS.out.1.next bel) (SS.out.2.1.next bel) (Own.seg oO) hco.2.2 hn (by omega) hon SS.out.2.2.2.1 SS.out.2.2.2.2 HOK.out.2.1 HOK.out.2.2)
    have k0 : w5.cell? ⟨w.heap.size, 0, none⟩ = some (.slice A n cs) := rA.cell 0
    clear oO hco rA
    go_wp2_with fail
    refine LP.out.mono ?_
    rintro e w6 ⟨X, xn, xc, rfl, oX, bb⟩
    have F : AnsStep w (stepO d.1 y t x) (.returned (.tuple #[.slice X xn xc, .bool (put.fitB d.1 t (filled.fitL (resL (some s)) y.2) x)])) w6 := ⟨X, xn, xc, by rw [E.out.2], by rw [E.out.1]; exact Own.lower oX bel.size, next_trans bel bb⟩
    have HF := hid F
    clear F oX bb bel k0 LP
    go_wp2
    go_ret2
    exact HF.out
end stepSpec
end
section
namespace whole
open Go.RowKit base segs matchMath
set_option maxRecDepth 100000
def z24 : Array Value := Array.replicate 24 (.slice none 0 0)
theorem z24_size : z24.size = 24 := by simp [z24]
section
variable {w w' : World} {B B' g : Nat} {cs : Array Value} {s : List (List Int)} {t : TypeId}
def TabR (w : World) (B : Nat) (cs : Array Value) (s : List (List Int)) : Prop :=
 cs.size = 24 ∧ s.length = 24 ∧ ∀ j, j < 24 → ∃ A n c, cs[j]? = some (.slice A n c) ∧ Seg w B A n (s.getD j []) ∧ Cap A n c
theorem TabR.new (w : World) (B : Nat) : TabR w B z24 s0 :=
 ⟨z24_size, rfl, fun j hj => ⟨none, 0, 0, by simp [z24, hj], by rw [s0_get]; exact Seg.empty, ⟨Nat.le_refl _, by omega, fun _ => rfl⟩⟩⟩
theorem TabR.keep (h : TabR w B cs s) (hk : ∀ p : Addr, p.block < B → w'.cell? p = w.cell? p) : TabR w' B cs s :=
 ⟨h.1, h.2.1, fun j hj => by obtain ⟨A, n, c, e, hs, hc⟩ := h.2.2 j hj; exact ⟨A, n, c, e, hs.keep hk, hc⟩⟩
theorem TabR.more (h : TabR w B cs s) (hB : B ≤ B') : TabR w B' cs s :=
 ⟨h.1, h.2.1, fun j hj => by obtain ⟨A, n, c, e, hs, hc⟩ := h.2.2 j hj; exact ⟨A, n, c, e, hs.more hB, hc⟩⟩
theorem TabR.below (h : TabR w B cs s) (hb : Below B w w') : TabR w' B cs s := h.keep fun _ hp => hb.cell hp
theorem TabR.put (h : TabR w B cs s) {j : Nat} (hj : j < 24) {A : Option Addr} {n c : Nat} {ys : List Int} (hs : Seg w B A n ys) (hc : Cap A n c) : TabR w B (cs.setIfInBounds j (.slice A n c)) (s.set j ys) := by
 refine ⟨by rw [Array.size_setIfInBounds]; exact h.1, by rw [List.length_set]; exact h.2.1, fun i hi => ?_⟩
 by_cases e : j = i
 ·subst e
  exact ⟨A, n, c, by rw [Array.getElem?_setIfInBounds_self_of_lt (by rw [h.1]; exact hj)], by rw [set_get, if_pos ⟨rfl, by rw [h.2.1]; exact hj⟩]; exact hs, hc⟩
 ·obtain ⟨A', n', c', e', hs', hc'⟩ := h.2.2 i hi
  exact ⟨A', n', c', by rw [Array.getElem?_setIfInBounds_ne e]; exact e', by rw [set_get, if_neg (fun hh => e hh.1)]; exact hs', hc'⟩
theorem TabR.one (h : TabR w B cs s) : cs.all (·.oneCell') = true := by
 rw [Array.all_eq_true]
 intro i hi
 obtain ⟨A, n, c, e, _⟩ := h.2.2 i (by rw [← h.1]; exact hi)
 rw [Array.getElem?_eq_getElem hi] at e
 injection e with e
 rw [e]; rfl
theorem TabR.segs (h : TabR w B cs s) (hr : Row w g t cs) (hB : B ≤ w.heap.size) : Segs w w.heap.size (some ⟨g, 0, none⟩) 24 s := by
 refine ⟨h.2.1, fun _ => ⟨g, 0, rfl, hr.lt, fun j hj => ?_⟩⟩
 obtain ⟨A, n, c, e, hs, hc⟩ := h.2.2 j hj
 exact ⟨A, n, c, by rw [Nat.zero_add, hr.cell j, e], hs.more hB, hc⟩
end
end whole
end
section
namespace whole
open Go.RowKit base cursor marks app sym segs matchMath matchSpec
set_option maxRecDepth 100000
section
variable {P : Program} {ops : Array Oper} {rest : List Oper} {o : Oper} {a : Act} {w : World} {Q : Exit → Act → World → Prop}
theorem rowAlloc (hgd : o.guard = none) (t : TypeId) (ho : o.op = .alloc t) (z : Array Value) (hz : ∀ w, (zeroValue t).run P w = .ok (.agg z) w)
  (h : wpList P ops Q rest (a.put o.dst (.pointer (some ⟨w.heap.size, 0, none⟩))) (w.alloc (.cells z t))) : wpList P ops Q (o :: rest) a w :=
 wpList_plain hgd fun _ hK => by
  unfold Oper.wp execOp
  simp only [ho, Instr.alloc, Sem.run_bind, hz, Result.andThen_ok, newVar, Value.cells]
  exact hK _ _ h
theorem rowBox (hgd : o.guard = none) (t : TypeId) (x : Operand) (ho : o.op = .box t x) (z : Array Value) (hx : a.eval x = .agg z)
  (h : wpList P ops Q rest (a.put o.dst (.pointer (some ⟨w.heap.size, 0, none⟩))) (w.alloc (.cells z t))) : wpList P ops Q (o :: rest) a w :=
 wpList_plain hgd fun _ hK => by
  unfold Oper.wp execOp
  simp only [ho, hx, Instr.box, Sem.run_bind, Result.andThen_ok, newVar, Value.cells]
  exact hK _ _ h
theorem rowBuild (hgd : o.guard = none) (t : TypeId) (ho : o.op = .build t #[]) (z : Array Value) (hz : P.built t [] = some z)
  (h : wpList P ops Q rest (a.put o.dst (.agg z)) w) : wpList P ops Q (o :: rest) a w :=
 wpList_plain hgd fun _ hK => by
  refine wp_build t #[] ho (by simp [hz]) ?_
  simp only [List.map_toArray, List.map_nil, hz, Option.getD_some]
  exact hK _ _ h
theorem rowStore (hgd : o.guard = none) (ty : TypeId) (x y : Operand) (ho : o.op = .store ty x y) (g : Nat) (cells old : Array Value) (t : TypeId) (hx : a.eval x = .pointer (some ⟨g, 0, none⟩)) (hy : a.eval y = .agg cells)
  (hg : w.heap[g]? = some (.cells old t (0, 0))) (hi : (P.info? ty).map (·.size) = some cells.size) (hs : old.size = cells.size) (h1 : cells.all (·.oneCell') = true)
  (h : wpList P ops Q rest (a.put o.dst undef) (w.setRow g cells)) : wpList P ops Q (o :: rest) a w :=
 wpList_plain hgd fun _ hK => by
  unfold Oper.wp execOp
  simp only [ho, hx, hy, Instr.storeAt, Instr.sureAddr, Sem.run_bind, Sem.run_pure, Result.andThen_ok, run_storeVar_row w g t ty old cells hg hi hs h1]
  exact hK _ _ h
theorem results_row_tmp {fn : Func} {p u : Tmp} {ty : TypeId} (h : fn.results = #[.cell p ty, .tmp u]) (tmps : Array Value) (g : Nat) (t : TypeId) (cs : Array Value) (d : TypeDesc)
  (hp : tmps.getD p undef = .pointer (some ⟨g, 0, none⟩)) (hg : w.heap[g]? = some (.cells cs t (0, 0)))
  (hu : P.underlying ty = some d) (hd : (match d with | .struct _ | .array _ _ => true | _ => false) = true) (hi : (P.info? ty).map (·.size) = some cs.size) :
  (results fn tmps).run P w = .ok (.tuple #[.agg cs, tmps.getD u undef]) w := by
 rw [results_cell_tmp h, hp]
 simp [asAddr, Result.andThen, run_loadVar_row w g t ty cs (0, 0) d hg hu hd hi]
end
theorem z24_one : z24.all (·.oneCell') = true := by kernel_rfl
theorem info_b : (Tryz.prog.info? 138).map (fun i => (i.zero, i.size)) = some (some (.agg z24), 24) := by kernel_rfl
theorem zero_b : ∀ w, (zeroValue 138).run Tryz.prog w = .ok (.agg z24) w := by
 intro w
 cases hq : Tryz.prog.info? 138 with
 | none => have h := info_b; simp [hq] at h
 | some i => have h := info_b; simp [hq] at h; simp [zeroValue, typeInfo, hq, h.1]
theorem size_b : (Tryz.prog.info? 138).map (·.size) = some 24 := by kernel_rfl
theorem built_b : Tryz.prog.built 138 [] = some z24 := by kernel_rfl
section
variable {w w' : World} {B B' g : Nat} {cs : Array Value} {s : List (List Int)} {t : TypeId}
theorem Row.setRow (h : Row w g t cs) (c' : Array Value) : Row (w.setRow g c') g t c' := setRow_heap w g cs c' t (0, 0) h
theorem grown_setRow (w : World) (g : Nat) (c' : Array Value) : w.grownBy (w.setRow g c') (some g) :=
 ⟨rfl, rfl, rfl, by simp, fun k _ hk => setRow_other w g k c' (fun e => hk (by rw [e]))⟩
end
end whole
end
section
namespace takeMath
open sig term termOk termFacts endAt sub termMath fillMath posMath renMath matchMath
def Sync (sg p t : List Int) (i k : Nat) : Prop := ∃ q, scan sg q (p.drop i) = some (p.length - i) ∧ ∃ j, scan sg q (t.drop k) = some j
section
variable {sg p t : List Int} {i k : Nat} {x : Int}
theorem Sync.start (h1 : termOkB sg p = true) (h2 : termOkB sg t = true) (ha : k < t.length) : Sync sg p t 0 k :=
 ⟨1, by rw [List.drop_zero, Nat.sub_zero]; exact (term_parts h1).2.2, _, (term_at h2 ha).1⟩
theorem Sync.lt (h : Sync sg p t i k) (hi : i < p.length) : k < t.length := by
 obtain ⟨q, h1, j, h2⟩ := h
 cases q with
 | zero => rw [scan_zero] at h1; injection h1 with h1; omega
 | succ q =>
  have a := scan_pos h2
  have b := scan_le h2
  rw [List.length_drop] at b
  omega
theorem Sync.sym (h : Sync sg p t i k) (hi : i < p.length) (hx : p.getD i 0 = x) (hy : t.getD k 0 = x) : Sync sg p t (i + 1) (k + 1) := by
 have hk := h.lt hi
 obtain ⟨q, h1, j, h2⟩ := h
 rw [drop_cons hi, hx] at h1
 rw [drop_cons hk, hy] at h2
 cases q with
 | zero => rw [scan_zero] at h1; injection h1 with h1; omega
 | succ q =>
  by_cases hn : ar sg x < 0
  ·rw [scan_bad hn] at h1; cases h1
  ·rw [scan_step hn, Option.map_eq_some_iff] at h1 h2
   obtain ⟨a, e1, e2⟩ := h1
   obtain ⟨b, e3, e4⟩ := h2
   exact ⟨_, by rw [e1]; congr 1; omega, b, e3⟩
theorem Sync.var (h : Sync sg p t i k) (hi : i < p.length) (hx : p.getD i 0 = x) (h0 : -24 ≤ x) (h1 : x < 0) (hok : termOkB sg t = true) : Sync sg p t (i + 1) (k + (subL sg t k).length) := by
 have hk := h.lt hi
 have hl := (sub_len1 hok hk).1
 obtain ⟨q, h1, j, h2⟩ := h
 rw [drop_cons hi, hx] at h1
 cases q with
 | zero => rw [scan_zero] at h1; injection h1 with h1; omega
 | succ q =>
  have hz : ar sg x = 0 := ar_var (by omega)
  rw [scan_step (by omega), hz, Option.map_eq_some_iff] at h1
  obtain ⟨a, e1, e2⟩ := h1
  obtain ⟨j1, g1, _, _, g2⟩ := scan_first h2
  rw [hl, len1_eq g1]
  exact ⟨q, by rw [show p.length - (i + 1) = a by omega]; exact e1, _, g2⟩
end
theorem mst_at {sg p t : List Int} {k : Nat} (h1 : termOkB sg p = true) (h2 : termOkB sg t = true) (hk : k < t.length) : (mst sg t p k s0).isSome = instB sg p (subL sg t k) := by
 have hx : ∀ x ∈ p, -24 ≤ x := fun x hx => (term_mem h1 hx).1
 have hs := (sub_term h2 hk).1
 obtain ⟨_, e2, e3⟩ := sub_len1 h2 hk
 rw [Bool.eq_iff_iff, inst_iff h1 hs, Option.isSome_iff_exists]
 constructor
 ·rintro ⟨s', h⟩
  obtain ⟨⟨rest, e⟩, hv⟩ := mst_sound h2 h (by rfl) hx
  refine ⟨fun i => s'.getD i [], ?_, hv⟩
  have a := scan_append (r := rest) (scan_fill (L := fun i => s'.getD i []) (term_parts h1).2.2 hv)
  rw [← e] at a
  unfold subL
  rw [len1_eq a, e, List.take_left' rfl]
 ·rintro ⟨L, hL, hv⟩
  obtain ⟨s', m1, _⟩ := mst_full (sg := sg) (t := t) (L := L) (p := p) (k := k) (s := s0) (rest := t.drop (k + (subL sg t k).length)) (by rw [hL]; exact e2) (by rfl) hx hv (fun i hi => by rw [s0_get] at hi; exact absurd rfl hi)
  exact ⟨s', m1⟩
end takeMath
end
section
open Go.Lib (hid)
namespace take
open Go.RowKit base ints sig same term termOk endAt marks app sym sub segs termFacts termMath posMath cursor matchMath matchSpec whole takeMath curO
set_option maxRecDepth 100000
theorem set_same {s : List (List Int)} {v : Nat} {ys : List Int} (h : s.getD v [] = ys) (hv : v < s.length) : s.set v ys = s := by
 refine List.ext_getElem (by simp) fun i h1 h2 => ?_
 rw [List.getElem_set]
 split
 ·rename_i e
  subst e
  rw [← h]
  simp [List.getD, hv]
 ·rfl
structure Tk (w : World) (g : Nat) (A : Option Addr) (n c : Nat) (Q : Option Addr) (m mc : Nat) (sg t : List Int) (k : Nat) (s : List (List Int)) : Prop where
 row : Row w (g + 1) 133 #[.slice A n c, .slice Q m mc, .int .i64 k]
 tab : ∃ cs, Row w g 138 cs ∧ TabR w g cs s
 ss : Seg w g A n sg
 st : Seg w g Q m t
 le : k ≤ m
 hn : n ≤ 1048576
 hm : m ≤ 1048576
 ars : Arities sg
 hs : ∀ j, (s.getD j []).length ≤ m
section
variable {w w' : World} {g : Nat} {A : Option Addr} {n c : Nat} {Q : Option Addr} {m mc : Nat} {sg t : List Int} {k k' : Nat} {s : List (List Int)}
theorem Tk.cur (h : Tk w g A n c Q m mc sg t k s) : Cur w (g + 1) A n c Q m mc sg t k := ⟨h.row, h.ss.more (Nat.le_succ _), h.st.more (Nat.le_succ _), h.le, h.hn, h.hm, h.ars⟩
theorem Tk.lt (h : Tk w g A n c Q m mc sg t k s) : g + 1 < w.heap.size := h.row.lt
theorem keep_of {B : Nat} {r : Option Nat} (hg : w.grownBy w' r) (hB : B ≤ w.heap.size) (hr : ∀ k, r = some k → B ≤ k) : ∀ p : Addr, p.block < B → w'.cell? p = w.cell? p :=
 fun q hq => World.cell?_of_block (hg.block q.block (by omega) (fun e => by have := hr _ e.symm; omega))
theorem Tk.move (h : Tk w g A n c Q m mc sg t k s) (hg : w.grownBy w' (some (g + 1))) (hr : Row w' (g + 1) 133 #[.slice A n c, .slice Q m mc, .int .i64 k']) (hk : k' ≤ m) : Tk w' g A n c Q m mc sg t k' s := by
 have hl := h.lt
 have hk0 := keep_of (B := g) hg (by omega) (fun k e => by injection e; omega)
 obtain ⟨cs, h1, h2⟩ := h.tab
 refine ⟨hr, ⟨cs, (hg.block g (by omega) (fun e => by injection e; omega)).trans h1, h2.keep hk0⟩, h.ss.keep hk0, h.st.keep hk0, hk, h.hn, h.hm, h.ars, h.hs⟩
theorem Tk.drewN (h : Tk w g A n c Q m mc sg t k s) (d : Nat) : Tk (w.drewN d) g A n c Q m mc sg t k s := ⟨h.row, h.tab, h.ss, h.st, h.le, h.hn, h.hm, h.ars, h.hs⟩
theorem Tk.put (h : Tk w g A n c Q m mc sg t k s) {j : Nat} (hj : j < 24) {D : Option Addr} {dn dc : Nat} {ys : List Int} (hs : Seg w g D dn ys) (hc : Cap D dn dc) (hl : ys.length ≤ m) :
  Tk (w.setCell ⟨g, j, none⟩ (.slice D dn dc)) g A n c Q m mc sg t k (s.set j ys) := by
 have hlt := h.lt
 have hg : w.grownBy (w.setCell ⟨g, j, none⟩ (.slice D dn dc)) (some g) := grown_put (World.grownBy.refl _ _) _ _
 have hk0 := keep_of (B := g) hg (by omega) (fun k e => by injection e; omega)
 obtain ⟨cs, h1, h2⟩ := h.tab
 exact ⟨h.row.far (show g + 1 ≠ g by omega) _, ⟨_, h1.put j _, (h2.put hj hs hc).keep hk0⟩, h.ss.keep hk0, h.st.keep hk0, h.le, h.hn, h.hm, h.ars, fun i => by rw [set_get]; split; exact hl; exact h.hs i⟩
theorem Tk.held (h : Tk w g A n c Q m mc sg t k s) {j : Nat} (hj : j < 24) : ∃ D dn dc, w.cell? ⟨g, j, none⟩ = some (.slice D dn dc) ∧ Seg w g D dn (s.getD j []) ∧ w.frozen? ⟨g, j, none⟩ = false := by
 obtain ⟨cs, h1, h2⟩ := h.tab
 obtain ⟨D, dn, dc, e, hs, _⟩ := h2.2.2 j hj
 exact ⟨D, dn, dc, by rw [h1.cell j, e], hs, h1.free j⟩
theorem Tk.len (h : Tk w g A n c Q m mc sg t k s) : s.length = 24 := by obtain ⟨cs, h1, h2⟩ := h.tab; exact h2.2.1
end
theorem btw_drewN (lo hi : Nat) (w : World) (d : Nat) : Btw lo hi w (w.drewN d) := ⟨rfl, rfl, rfl, Nat.le_refl _, fun _ _ _ => rfl⟩
def AnsTake (w : World) (g : Nat) (A : Option Addr) (n c : Nat) (Q : Option Addr) (m mc : Nat) (sg t : List Int) (k : Nat) (s : List (List Int)) (x : Int) (e : Ending) (w' : World) : Prop :=
 Btw g (g + 2) w w' ∧ ((∃ k' s', e = .returned (.bool true) ∧ Tk w' g A n c Q m mc sg t k' s' ∧ ((0 ≤ x ∧ t.getD k 0 = x ∧ k' = k + 1) ∨ (x < 0 ∧ k' = k + (subL sg t k).length)) ∧ ∀ r, mst sg t (x :: r) k s = mst sg t r k' s') ∨
  (e = .returned (.bool false) ∧ ∀ r, mst sg t (x :: r) k s = none))
set_option maxHeartbeats 1000000 in
theorem take (g : Nat) (A Q : Option Addr) (n c m mc : Nat) (sg t : List Int) (k : Nat) (s : List (List Int)) (x : Int) (w : World) (h : Tk w g A n c Q m mc sg t k s) (hk : k < m) (hmc : m ≤ mc) (hmc2 : mc ≤ 9223372036854775807) (hx : -24 ≤ x) (hok : termOkB sg t = true) :
  Calls Tryz.prog 161 #[.pointer (some ⟨g, 0, none⟩), .int .i64 x, .pointer (some ⟨g + 1, 0, none⟩)] w (AnsTake w g A n c Q m mc sg t k s x) := by
 have HT := hid hok
 have HL := hid h.st.1
 have hkt : ¬ t.length ≤ k := by rw [HL.out]; omega
 have hm := h.hm
 have c1 : w.cell? ⟨g + 1, 1, none⟩ = some (.slice Q m mc) := h.row.cell 1
 have c2 : w.cell? ⟨g + 1, 2, none⟩ = some (.int .i64 k) := h.row.cell 2
 have f2 : w.frozen? ⟨g + 1, 2, none⟩ = false := h.row.free 2
 obtain ⟨b, off, y, rfl, hbb, hy, ey⟩ := h.st.spot hk
 have i0 : (0 : Int) ≤ (k : Int) := by omega
 have i1 : (k : Int) < (m : Int) := by omega
 clear hok
 by_cases hx0 : 0 ≤ x
 ·have g0 : w.grownBy (w.setCell ⟨g + 1, 2, none⟩ (.int .i64 ((k : Int) + 1))) (some (g + 1)) := grown_put (World.grownBy.refl _ _) _ _
  have r0 := h.row.put 2 (.int .i64 ((k : Int) + 1))
  have er : (.int .i64 ((k : Int) + 1) : Value) = .int .i64 ((k + 1 : Nat) : Int) := by simp
  have r1 := r0
  rw [er] at r1
  have M := hid (h.move (k' := k + 1) g0 (by rw [← er] at r1; rw [← er]; exact r0) hk)
  clear r0 r1 er
  have B := hid (Btw.of_grown (lo := g) (hi := g + 2) g0 (fun k e => by injection e; omega))
  have hy1 : (w.setCell ⟨g + 1, 2, none⟩ (.int .i64 ((k : Int) + 1))).cell? ⟨b, off + k, none⟩ = some (.int .i64 y) := (World.cell?_setCell_far w ⟨g + 1, 2, none⟩ ⟨b, off + k, none⟩ _ (by show g + 1 ≠ b; omega)).trans hy
  by_cases hxy : x = y
  ·subst hxy
   have F := fun d => (show AnsTake w g A n c (some ⟨b, off, none⟩) m mc sg t k s x (.returned (.bool true)) ((w.setCell ⟨g + 1, 2, none⟩ (.int .i64 ((k : Int) + 1))).drewN d) from
    ⟨B.out.trans (btw_drewN _ _ _ d), .inl ⟨k + 1, s, rfl, M.out.drewN d, .inl ⟨hx0, ey.out, rfl⟩, fun r => mst_sym hkt hx0 ey.out.symm⟩⟩)
   have HF := hid F
   clear F M B g0 h ey
   go_enter Tryz.func161, Tryz.ntmps161
   go_wp2
   go_quiet (fail)
   go_wp2
   go_ret
   exact HF.out _
  ·have hd : (y == x) = false := by simp; exact fun e => hxy e.symm
   have F := fun d => (show AnsTake w g A n c (some ⟨b, off, none⟩) m mc sg t k s x (.returned (.bool false)) ((w.setCell ⟨g + 1, 2, none⟩ (.int .i64 ((k : Int) + 1))).drewN d) from
    ⟨B.out.trans (btw_drewN _ _ _ d), .inr ⟨rfl, fun r => mst_symNo hkt hx0 (by rw [ey.out]; exact hxy)⟩⟩)
   have HF := hid F
   clear F M B g0 h ey
   go_enter Tryz.func161, Tryz.ntmps161
   go_wp2
   go_quiet (fail)
   go_wp2
   go_ret
   exact HF.out _
 ·obtain ⟨v, hv⟩ : ∃ v : Nat, x = -1 - (v : Int) := ⟨(-1 - x).toNat, by omega⟩
  subst hv
  have hv24 : v < 24 := by omega
  have HVR := hid (show vr (-1 - (v : Int)) = v by unfold vr; omega)
  obtain ⟨t1, t2, t3⟩ := term_at HT.out (show k < t.length by rw [HL.out]; exact hk)
  rw [HL.out] at t3
  obtain ⟨j, hj⟩ : ∃ j, len1 sg t k = j := ⟨_, rfl⟩
  have hsl := (sub_len1 HT.out (show k < t.length by rw [HL.out]; exact hk)).1
  have hsub : subL sg t k = (t.drop k).take j := by unfold subL; rw [hj]
  rw [hj] at t1 t2 t3 hsl
  obtain ⟨ys, hys⟩ : ∃ ys, subL sg t k = ys := ⟨_, rfl⟩
  rw [hys] at hsl hsub
  have HYS := hid hys
  have HSUB := hid hsub
  have HSL := hid hsl
  have T1 := hid t1
  have C := hid h.cur
  have HH := hid h
  have HKT := hid hkt
  have a1 : (k : Int) ≤ (k : Int) + (j : Int) := by omega
  have a2 : (k : Int) + (j : Int) ≤ (mc : Int) := by omega
  have a3 : ¬ mc = k := by omega
  have a4 : k + j ≤ mc := by omega
  have w1 : IntKind.i64.wrap (-1 - (-1 - (v : Int))) = (v : Int) := by rw [IntKind.wrap_i64]; omega
  have w2 : IntKind.i64.wrap (v : Int) = (v : Int) := by rw [IntKind.wrap_i64]; omega
  have j0 : (0 : Int) ≤ (v : Int) := by omega
  have j1 : (v : Int) < 24 := by omega
  clear hj hys hsub hsl t1 hy ey f2 hkt h
  go_enter Tryz.func161, Tryz.ntmps161
  have C2 := hid (C.out.drewN 1)
  go_wp2_with fail
  go_region_held3 (fun _ => True) (trivial)
   (first
    | (go_at_call 65; refine (partC (g + 1) A n c b off m mc sg t k j w.drew C2.out T1.out t3 t2 hmc hmc2).mono ?_; rintro e w3 ⟨rfl, hg0, hc⟩))
  ·have hg : w.grownBy w3 (some (g + 1)) := grown_trans (World.grownBy.refl w _) ⟨hg0.os, hg0.tape, hg0.output, hg0.size, hg0.block⟩
   have M := HH.out.move hg hc.row t3
   have b3 := Btw.of_grown (lo := g) (hi := g + 2) hg (fun k e => by injection e; omega)
   obtain ⟨D, dn, dc, ch, sh, fh⟩ := M.held hv24
   obtain ⟨os, hos⟩ : ∃ os, s.getD v [] = os := ⟨_, rfl⟩
   have hdn : dn ≤ 1048576 := by rw [← sh.1]; exact Nat.le_trans (M.hs v) hm
   rw [hos] at sh
   have HOS := hid hos
   have HSH := hid sh
   have HM := hid M
   have HB := hid b3
   have cut := hid (Seg.cut (a := k) (j := j) M.st t3)
   clear hc hg hg0 hos sh b3 M C C2 c1 c2
   have HC := hid (show Cap (some ⟨b, off + k, none⟩) j (mc - k) from ⟨by omega, by omega, fun e => by cases e⟩)
   have hj60 : j ≤ 1048576 := by omega
   have HJ := hid (show 1 ≤ j from t2)
   by_cases hd0 : dn = 0
   ·subst hd0
    have hno : ¬ ((s.getD (vr (-1 - (v : Int))) []).length ≠ 0 ∧ s.getD (vr (-1 - (v : Int))) [] ≠ subL sg t k) := by
     rw [HVR.out, HOS.out, HSH.out.1]
     exact fun e => e.1 rfl
    have R := hid (fun r => mst_var (sg := sg) (r := r) HKT.out (show ¬ 0 ≤ -1 - (v : Int) by omega) hno)
    have P := hid (HM.out.put (j := v) (D := some ⟨b, off + k, none⟩) (dn := j) (dc := mc - k) (ys := ys) hv24 (by rw [HSUB.out]; exact cut.out) HC.out (by rw [HSL.out]; omega))
    have BP := hid (HB.out.trans (Btw.of_grown (lo := g) (hi := g + 2) (grown_put (World.grownBy.refl w3 (some g)) v (.slice (some ⟨b, off + k, none⟩) j (mc - k))) (fun k e => by injection e; omega)))
    have ce := World.cell?_setCell_same w3 ⟨g, v, none⟩ (.slice (some ⟨b, off + k, none⟩) j (mc - k)) (show w3.cell? ⟨g, v, none⟩ = some (.slice D 0 dc) from ch)
    have PS := hid (show Seg (w3.setCell ⟨g, v, none⟩ (.slice (some ⟨b, off + k, none⟩) j (mc - k))) (w3.setCell ⟨g, v, none⟩ (.slice (some ⟨b, off + k, none⟩) j (mc - k))).heap.size (some ⟨b, off + k, none⟩) j ys from by
     have q := cut.out.put (p := ⟨g, v, none⟩) (Nat.le_refl _) (.slice (some ⟨b, off + k, none⟩) j (mc - k))
     rw [← HSUB.out] at q
     exact q.more (by have := P.out.lt; omega))
    clear HM HB hno
    go_wp2_with fail
    refine (implSame _ _ j j _ _ ys ys _ PS.out PS.out hj60 hj60).mono ?_
    rintro e w5 ⟨rfl, d, rfl⟩
    rw [decide_eq_true (show ys = ys from rfl)]
    have F : AnsTake w g A n c (some ⟨b, off, none⟩) m mc sg t k s (-1 - (v : Int)) (.returned (.bool true)) ((w3.setCell ⟨g, v, none⟩ (.slice (some ⟨b, off + k, none⟩) j (mc - k))).drewN d) :=
     ⟨BP.out.trans (btw_drewN _ _ _ d), .inl ⟨k + j, s.set v ys, rfl, P.out.drewN d, .inr ⟨by omega, by rw [HYS.out, HSL.out]⟩, fun r => by rw [R.out r, HVR.out, HYS.out, HSL.out]⟩⟩
    have HF := hid F
    clear F R P BP ce PS cut
    go_wp2
    go_ret
    exact HF.out
   ·have hdz : ((dn : Int) == 0) = false := by simp; omega
    have hwg := hid (show g ≤ w3.heap.size by have := HM.out.lt; omega)
    have PS := hid (show Seg w3 w3.heap.size (some ⟨b, off + k, none⟩) j ys from by
     have q := cut.out
     rw [← HSUB.out] at q
     exact q.more hwg.out)
    have PO := hid (show Seg w3 w3.heap.size D dn os from HSH.out.more hwg.out)
    by_cases hoy : os = ys
    ·have hno : ¬ ((s.getD (vr (-1 - (v : Int))) []).length ≠ 0 ∧ s.getD (vr (-1 - (v : Int))) [] ≠ subL sg t k) := by
      rw [HVR.out, HOS.out, HYS.out]
      exact fun e => e.2 hoy
     have R := hid (fun r => mst_var (sg := sg) (r := r) HKT.out (show ¬ 0 ≤ -1 - (v : Int) by omega) hno)
     have SS := hid (show s.set v ys = s from set_same (HOS.out.trans hoy) (by rw [HM.out.len]; exact hv24))
     have DS := hid (decide_eq_true hoy)
     clear cut hno hoy
     go_wp2_with fail
     refine (implSame _ _ dn j _ _ os ys _ PO.out PS.out hdn hj60).mono ?_
     rintro e w5 ⟨rfl, d, rfl⟩
     rw [DS.out]
     have F : AnsTake w g A n c (some ⟨b, off, none⟩) m mc sg t k s (-1 - (v : Int)) (.returned (.bool true)) (w3.drewN d) :=
      ⟨HB.out.trans (btw_drewN _ _ _ d), .inl ⟨k + j, s, rfl, HM.out.drewN d, .inr ⟨by omega, by rw [HYS.out, HSL.out]⟩, fun r => by rw [R.out r, HVR.out, HYS.out, HSL.out, SS.out]⟩⟩
     have HF := hid F
     clear F R SS DS PS PO HM HB
     go_wp2
     go_ret
     exact HF.out
    ·have hyes : (s.getD (vr (-1 - (v : Int))) []).length ≠ 0 ∧ s.getD (vr (-1 - (v : Int))) [] ≠ subL sg t k := by
      rw [HVR.out, HOS.out, HYS.out]
      exact ⟨by rw [HSH.out.1]; exact hd0, hoy⟩
     have R := hid (fun r => mst_varNo (sg := sg) (r := r) HKT.out (show ¬ 0 ≤ -1 - (v : Int) by omega) hyes)
     have DS := hid (decide_eq_false hoy)
     clear cut hyes hoy
     go_wp2_with fail
     refine (implSame _ _ dn j _ _ os ys _ PO.out PS.out hdn hj60).mono ?_
     rintro e w5 ⟨rfl, d, rfl⟩
     rw [DS.out]
     have F : AnsTake w g A n c (some ⟨b, off, none⟩) m mc sg t k s (-1 - (v : Int)) (.returned (.bool false)) (w3.drewN d) :=
      ⟨HB.out.trans (btw_drewN _ _ _ d), .inr ⟨rfl, R.out⟩⟩
     have HF := hid F
     clear F R DS PS PO HM HB
     go_wp2
     go_ret
     exact HF.out
end take
end
section
open Go.Lib (hid)
namespace extended
open Go.RowKit base ints sig same term termOk endAt marks app sym sub segs termFacts termMath posMath cursor matchMath matchSpec whole takeMath take segsHelp kinds plainMath plain plainOf gives Go.Proofs.YtmoidijngeijkaaGreat.look fillMath
set_option maxRecDepth 100000
def AnsExt (w : World) (R : Option (List (List Int))) (e : Ending) (w' : World) : Prop :=
 ∃ cs, e = .returned (.tuple #[.agg cs, .bool R.isSome]) ∧ TabR w' w.heap.size cs (R.getD s0) ∧ (∀ j, ((R.getD s0).getD j []).length ≤ 60) ∧ Below w.heap.size w w'
def HeadX (w : World) (A : Option Addr) (n c : Nat) (Q : Option Addr) (m mc : Nat) (sg t : List Int) (P : Option Addr) (pn : Nat) (p : List Int) (R : Option (List (List Int))) (i : Value) (wr : World) : Prop :=
 ∃ (j k : Nat) (s : List (List Int)), i = .int .i64 j ∧ j ≤ pn ∧ Tk wr w.heap.size A n c Q m mc sg t k s ∧ Row wr (w.heap.size + 1 + 1) 138 z24 ∧ Seg wr w.heap.size P pn p ∧ Below w.heap.size w wr ∧ Sync sg p t j k ∧ mst sg t (p.drop j) k s = R
theorem seg_btw {w w' : World} {lo hi : Nat} {A : Option Addr} {n : Nat} {xs : List Int} (h : Seg w lo A n xs) (hb : Btw lo hi w w') (hl : lo ≤ w.heap.size) : Seg w' lo A n xs :=
 h.keep fun p hp => World.cell?_of_block (hb.block p.block (by omega) (.inl hp))
set_option maxHeartbeats 1000000 in
theorem extended (A P Q : Option Addr) (n c pn pc m mc : Nat) (sg p t : List Int) (at_ : Nat) (cs : Array Value) (s : List (List Int)) (w : World) (h : Seg w w.heap.size A n sg) (hp : Seg w w.heap.size P pn p) (ht : Seg w w.heap.size Q m t)
  (hn : n ≤ 1048576) (hpn : pn ≤ 60) (hm : m ≤ 60) (hmc : m ≤ mc) (hmc2 : mc ≤ 9223372036854775807) (hat : at_ < m) (hokp : termOkB sg p = true) (hokt : termOkB sg t = true) (htab : TabR w w.heap.size cs s) (hs : ∀ j, (s.getD j []).length ≤ m) :
  Calls Tryz.prog 142 #[.agg cs, .slice P pn pc, .agg #[.slice A n c, .slice Q m mc, .int .i64 (at_ : Int)]] w (AnsExt w (mst sg t p at_ s)) := by
 obtain ⟨W, hW⟩ : ∃ W, W = ((w.alloc (.cells cs 138)).alloc (.cells #[.slice A n c, .slice Q m mc, .int .i64 (at_ : Int)] 133)).alloc (.cells z24 138) := ⟨_, rfl⟩
 have b0 : Below w.heap.size w W := by rw [hW]; exact (((Below.refl _ _).alloc (Nat.le_refl _) _).alloc (by simp) _).alloc (by simp; omega) _
 have r0 : Row W w.heap.size 138 cs := by rw [hW]; exact ((Row.new w _ _).alloc _).alloc _
 have r1 : Row W (w.heap.size + 1) 133 #[.slice A n c, .slice Q m mc, .int .i64 (at_ : Int)] := by
  rw [hW]
  have := (Row.new (w.alloc (.cells cs 138)) 133 #[.slice A n c, .slice Q m mc, .int .i64 (at_ : Int)]).alloc (.cells z24 138)
  simpa using this
 have r2 : Row W (w.heap.size + 1 + 1) 138 z24 := by
  rw [hW]
  have := Row.new ((w.alloc (.cells cs 138)).alloc (.cells #[.slice A n c, .slice Q m mc, .int .i64 (at_ : Int)] 133)) 138 z24
  simpa using this
 have HX : HeadX w A n c Q m mc sg t P pn p (mst sg t p at_ s) (.int .i64 0) W :=
  ⟨0, at_, s, rfl, Nat.zero_le _, ⟨r1, ⟨cs, r0, htab.below b0⟩, h.below b0, ht.below b0, Nat.le_of_lt hat, hn, by omega, (sig_arities (termOk_parts hokt).1).1, hs⟩, r2, hp.below b0, b0, Sync.start hokp hokt (by rw [ht.1]; exact hat), by rw [List.drop_zero]⟩
 have HH := hid HX
 have HW := hid hW
 have HT := hid hokt
 have HL := hid ht.1
 have HPL := hid hp.1
 have HPM : Hid (∀ i, i < pn → -24 ≤ p.getD i 0) := hid (fun i hi => (term_num hokp (by rw [hp.1]; exact hi)).1)
 generalize mst sg t p at_ s = R at *
 clear hW HX r0 r1 r2 b0 htab hs hokt hokp h hp ht
 go_enter Tryz.func142, Tryz.ntmps142
 go_wp2_with (first
  | (refine rowBox rfl 138 _ rfl cs rfl ?_)
  | (refine rowAlloc rfl 138 rfl z24 zero_b ?_))
 rw [← HW.out]
 go_loopw [12] (fun i wr => HeadX w A n c Q m mc sg t P pn p R i wr) (fun i _ => pn - (intOf i).toNat)
 case atStart => exact HH.out
 case round =>
  obtain ⟨j, k, s, rfl, hj, M, r2, sp, hb, hsy, hm1⟩ := hrel
  clear HH
  have HM1 := hid hm1
  have HSY := hid hsy
  clear hm1 hsy
  by_cases hlt : j < pn
  ·obtain ⟨bp, op, x, rfl, hbp, hx, ex⟩ := sp.spot hlt
   have hx24 : -24 ≤ x := by rw [← ex.out]; exact HPM.out j hlt
   have hkm : k < m := by have := HSY.out.lt (by rw [HPL.out]; exact hlt); rw [HL.out] at this; exact this
   have HD := hid (show p.drop j = x :: p.drop (j + 1) by rw [drop_cons (by rw [HPL.out]; exact hlt), ex.out])
   have LT := hid (take w.heap.size A Q n c m mc sg t k s x wr M hkm hmc hmc2 hx24 HT.out)
   have gl := M.lt
   have HR := hid r2
   have HB := hid hb
   have HP := hid sp
   clear M r2 hb sp
   go_wp2_with fail
   refine LT.out.mono ?_
   rintro e w2 ⟨bb, ⟨k', s', rfl, M, hmv, hr⟩ | ⟨rfl, hr⟩⟩
   ·have hsync : Sync sg p t (j + 1) k' := by
     rcases hmv with ⟨h0, h1, rfl⟩ | ⟨h0, rfl⟩
     ·exact HSY.out.sym (by rw [HPL.out]; exact hlt) ex.out h1
     ·exact HSY.out.var (by rw [HPL.out]; exact hlt) ex.out hx24 h0 HT.out
    have S : HeadX w A n c Q m mc sg t (some ⟨bp, op, none⟩) pn p R (.int .i64 ((j : Int) + 1)) w2 :=
     ⟨j + 1, k', s', by simp, hlt, M, segs.Row.btw HR.out bb (.inr (Nat.le_refl _)), seg_btw HP.out bb (by omega), Below.btw HB.out bb (Nat.le_refl _) (by omega), hsync, by rw [← hr, ← HD.out]; exact HM1.out⟩
    have HS := hid S
    clear S M hsync hmv hr bb HR HP HB LT ex HD hx
    go_wp2
    go_roundw
    case rel => exact HS.out
    case measure => simp [intOf]; omega
   ·have hR : R = none := by rw [← HM1.out, HD.out]; exact hr _
    have r2 := segs.Row.btw HR.out bb (.inr (Nat.le_refl _))
    have b2 := Below.btw HB.out bb (Nat.le_refl _) (by omega)
    have hz := r2
    unfold Row at hz
    have r3 := Row.setRow r2 z24
    have F : AnsExt w R (.returned (.tuple #[.agg z24, .bool false])) (w2.setRow (w.heap.size + 1 + 1) z24) :=
     ⟨z24, by rw [hR]; rfl, by rw [hR]; exact TabR.new _ _, fun i => by rw [hR]; simp only [Option.getD_none]; rw [s0_get]; simp, Below.btw b2 (Btw.of_grown (lo := w.heap.size) (hi := w.heap.size + 1 + 1 + 1) (grown_setRow w2 (w.heap.size + 1 + 1) z24) (fun k e => by injection e; omega)) (Nat.le_refl _) b2.size⟩
    have HF := hid F
    have H3 := hid r3
    have HZ := hid hz
    clear F r3 r2 b2 hz hr bb HR HP HB LT ex HD hx hR
    go_wp2_with (first
     | (refine rowBuild rfl 138 rfl z24 built_b ?_)
     | (refine rowStore rfl 138 _ _ rfl (w.heap.size + 1 + 1) z24 z24 138 rfl rfl HZ.out (by rw [z24_size]; exact size_b) rfl z24_one ?_))
    (try simp only [Exit.inBlock, Exit.then])
    refine bodyPost_ret (v := .tuple #[.agg z24, .bool false]) ?_ rfl HF.out
    exact results_row_tmp Tryz.results142 _ (w.heap.size + 1 + 1) 138 z24 _ rfl H3.out Tryz.underlying138 rfl (by rw [z24_size]; exact size_b)
  ·have hjp : j = pn := by omega
   have hR : R = some s := by rw [← HM1.out, hjp, List.drop_eq_nil_of_le (by rw [HPL.out]; exact Nat.le_refl _)]; rfl
   obtain ⟨cs', h1, h2⟩ := M.tab
   have hz1 := h1
   have hz2 := r2
   unfold Row at hz1 hz2
   have r3 := Row.setRow r2 cs'
   have hl := M.lt
   have F : AnsExt w R (.returned (.tuple #[.agg cs', .bool true])) (wr.setRow (w.heap.size + 1 + 1) cs') :=
    ⟨cs', by rw [hR]; rfl, by rw [hR]; exact h2.keep (keep_of (grown_setRow wr (w.heap.size + 1 + 1) cs') (by omega) (fun k e => by injection e; omega)), by rw [hR]; exact fun j => Nat.le_trans (M.hs j) hm,
     Below.btw hb (Btw.of_grown (lo := w.heap.size) (hi := w.heap.size + 1 + 1 + 1) (grown_setRow wr (w.heap.size + 1 + 1) cs') (fun k e => by injection e; omega)) (Nat.le_refl _) hb.size⟩
   have HF := hid F
   have H3 := hid r3
   have HZ1 := hid hz1
   have HZ2 := hid hz2
   have HSZ := hid h2.1
   have HON := hid h2.one
   clear F r3 r2 hz1 hz2 h1 h2 hR M sp hb hjp
   go_wp2_with (first
    | (refine wpList_load_row rfl 138 _ rfl w.heap.size rfl 138 cs' (0, 0) _ HZ1.out Tryz.underlying138 rfl (by rw [HSZ.out]; exact size_b) ?_)
    | (refine rowStore rfl 138 _ _ rfl (w.heap.size + 1 + 1) cs' z24 138 rfl rfl HZ2.out (by rw [HSZ.out]; exact size_b) (by rw [HSZ.out]; rfl) HON.out ?_))
   (try simp only [Exit.inBlock, Exit.then])
   refine bodyPost_ret (v := .tuple #[.agg cs', .bool true]) ?_ rfl HF.out
   exact results_row_tmp Tryz.results142 _ (w.heap.size + 1 + 1) 138 cs' _ rfl H3.out Tryz.underlying138 rfl (by rw [HSZ.out]; exact size_b)
end extended
end
section
open List (setIfInBounds_toArray set_cons_zero set_cons_succ getElem_toArray getElem_cons_zero getElem_cons_succ)
namespace stepImpl
open Go.RowKit base ints sig term termOk endAt marks app sym sub segs segsHelp kinds termFacts termMath posMath plainMath gives fillMath matchMath matchSpec whole takeMath take extended varsOf shape kindsR ruleMath ruleSpec stepMath walkMath stepSpec heldT
set_option maxRecDepth 100000
theorem wp_rowStore {P : Program} {o : Oper} {a : Act} {w : World} {K : Act → World → Prop} {Q : Exit → Act → World → Prop} (ty : TypeId) (x y : Operand) (ho : o.op = .store ty x y) (g : Nat) (cells old : Array Value) (t : TypeId) (hx : a.eval x = .pointer (some ⟨g, 0, none⟩)) (hy : a.eval y = .agg cells)
  (hg : w.heap[g]? = some (.cells old t (0, 0))) (hi : (P.info? ty).map (·.size) = some cells.size) (hs : old.size = cells.size) (h1 : cells.all (·.oneCell') = true) (h : K (a.put o.dst undef) (w.setRow g cells)) : Oper.wp P o a w K Q := by
 unfold Oper.wp execOp
 simp only [ho, hx, hy, Instr.storeAt, Instr.sureAddr, Sem.run_bind, Sem.run_pure, Result.andThen_ok, run_storeVar_row w g t ty old cells hg hi hs h1]
 exact h
theorem run_build0 {P : Program} {o : Oper} {a : Act} {w : World} (t : TypeId) (ho : o.op = .build t #[]) (z : Array Value) (hz : P.built t [] = some z) : (execOp a.eval o).run P w = .ok (.value (.agg z)) w := by
 unfold execOp
 simp [ho, Sem.run_bind, run_build w t #[] z hz, Result.andThen_ok]
theorem seg_down {w : World} {g n : Nat} {A : Option Addr} {xs : List Int} {T : TypeId} {cs : Array Value} (h : Seg w (g + 1) A n xs) (hr : Row w g T cs) (hc : ∀ (i : Nat) (x : Int), cs[i]? ≠ some (Value.int .i64 x)) : Seg w g A n xs := by
 refine ⟨h.1, fun hn => ?_⟩
 obtain ⟨b, off, e, hb, hcell⟩ := h.2 hn
 refine ⟨b, off, e, ?_, hcell⟩
 by_cases hbg : b = g
 ·exfalso
  subst hbg
  have := hcell 0 hn
  rw [hr.cell] at this
  exact hc _ _ this
 ·omega
theorem tab_down {w : World} {g : Nat} {rs : Array Value} {s : List (List Int)} {T : TypeId} {cs : Array Value} (h : TabR w (g + 1) rs s) (hr : Row w g T cs) (hc : ∀ (i : Nat) (x : Int), cs[i]? ≠ some (Value.int .i64 x)) : TabR w g rs s := by
 refine ⟨h.1, h.2.1, fun j hj => ?_⟩
 obtain ⟨A, n, c, e, hs, hcap⟩ := h.2.2 j hj
 exact ⟨A, n, c, e, seg_down hs hr hc, hcap⟩
theorem z24_nums (i : Nat) (x : Int) : z24[i]? ≠ some (Value.int .i64 x) := by
 unfold z24
 rw [Array.getElem?_replicate]
 split
 ·intro e; injection e with e; cases e
 ·intro e; cases e
theorem two_nums {A V : Option Addr} {n c q cv : Nat} (i : Nat) (x : Int) : (#[.slice A n c, .slice V q cv] : Array Value)[i]? ≠ some (Value.int .i64 x) := by
 match i with
 | 0 => intro e; injection e with e; cases e
 | 1 => intro e; injection e with e; cases e
 | i + 2 => intro e; simp at e
set_option maxHeartbeats 4000000 in
theorem matchAt (a v u : Value) (d : Dat sSystem) (t : List Int) (x k : Nat) (w : World) (h : Rd w w.heap.size sSystem [a, v] d) (ht : Rd w w.heap.size sI [u] t) (hz : sz sSystem d ≤ 1048576) (hok : rightB d.1 d.2 t = true) (hx : x < t.length) (hk : k < d.2.length) :
  Calls Tryz.prog 101 #[.agg #[a, v], u, .int .i64 (x : Int), .int .i64 (k : Int)] w (AnsExt w (mst d.1 t (d.2.getD k ([], [])).1 x s0)) := by
 obtain ⟨T, m, c, rfl, hT, hcT⟩ := rd_ints.1 ht
 obtain ⟨oks, okt⟩ := right_parts hok
 have hm : m ≤ 60 := by have := (term_len okt).2; have := hT.1; omega
 obtain ⟨A, n, cs, V, q, cv, rfl, rfl, hs, hc, hcv, hq, hn, hq1, hrs, hsg, hE⟩ := rd_sys h hz
 rw [hq] at hk
 obtain ⟨b, off, l, rr, y, rfl, hb, ey, cl, cr, hry⟩ := rd_at hrs (Below.refl _ _) hq hk
 have hzy : sz sRule y ≤ 1048576 := by rw [← ey.out]; exact hE k hk
 have okr : ruleOkB d.1 y = true := by rw [← ey.out]; exact sys_rule oks (by rw [hq]; exact hk)
 obtain ⟨P, pn, pc, P', pn', pc', rfl, rfl, sP, kP, sP', kP', hpn, hpn'⟩ := rd_rule hry hzy
 rw [ey.out]
 obtain ⟨W, hW, rA, rB, bel⟩ := box2 w 65 138 #[.slice A n cs, .slice (some ⟨b, off, none⟩) q cv] z24
 have HW := Lib.hid hW
 have okl := (rule_parts okr).1
 have hpn60 : pn ≤ 60 := by have := (term_len okl).2; have := sP.1; omega
 have LX := Lib.hid (extended A P T n cs pn pc m c d.1 y.1 t x z24 s0 W.drew (hs.next bel.drew) (sP.next bel.drew) (hT.next bel.drew) hn hpn60 hm hcT.1 hcT.2.1 (by rw [← hT.1]; exact hx) okl okt (TabR.new _ _) (fun j => by rw [s0_get]; simp))
 obtain ⟨R, hR⟩ : ∃ R, mst d.1 t y.1 x s0 = R := ⟨_, rfl⟩
 rw [hR] at LX ⊢
 have zA : w.heap.size < W.heap.size := rA.lt
 have zB : b < W.heap.size := by omega
 have K0 : W.cell? ⟨w.heap.size, 0, none⟩ = some (.slice A n cs) := rA.cell 0
 have K1 : W.cell? ⟨w.heap.size, 1, none⟩ = some (.slice (some ⟨b, off, none⟩) q cv) := rA.cell 1
 have K2 : W.cell? ⟨b, off + k * 2, none⟩ = some (.slice P pn pc) := (bel.cell (p := ⟨b, off + k * 2, none⟩) hb).trans cl
 have i0 : (0 : Int) ≤ (k : Int) := by omega
 have i1 : (k : Int) < (q : Int) := by omega
 have zW : W.heap.size = w.heap.size + 1 + 1 := by rw [hW]; simp
 have RA := Lib.hid rA
 have BEL := Lib.hid bel
 clear hW h hs hc hcv hq hrs hsg hE ht hT hcT oks okt okr okl sP kP sP' kP' hry hzy hx hok hz ey rA bel cl cr hR hpn hpn' hpn60 hq1
 go_enter Tryz.func101, Tryz.ntmps101
 go_upto_region 1 with (refine rowAlloc rfl 138 rfl z24 zero_b ?_)
 rw [← HW.out]
 refine AnyT.start (S := (fun w' => w'.cell? ⟨w.heap.size, 0, none⟩ = some (.slice A n cs) ∧ w'.cell? ⟨w.heap.size, 1, none⟩ = some (.slice (some ⟨b, off, none⟩) q cv) ∧ w'.cell? ⟨b, off + k * 2, none⟩ = some (.slice P pn pc))) (fun j => j == 15) (by kernel_rfl) ⟨K0, K1, K2⟩ (fun hHeld => ?_)
 refine AnyT.takeA (i := 0) (v := .agg z24) rfl (by kernel_rfl) (by kernel_rfl) (by kernel_rfl) (fun _ _ _ h => h) (Or.inl ⟨by rfl, fun w0 _ => run_build0 138 rfl z24 built_b⟩) ?_
 try simp only [Act.put, setIfInBounds_toArray, set_cons_zero, set_cons_succ, getElem_toArray, getElem_cons_zero, getElem_cons_succ]
 refine AnyT.takeA (i := 1) (v := ?_) rfl (by kernel_rfl) (by kernel_rfl) (by kernel_rfl) (fun _ _ _ h => h) (Or.inl ⟨by rfl, ?_⟩) ?_
 rotate_left 1
 ·(intro w0 _; go_simp; try with_reducible rfl)
 try simp only [Act.put, setIfInBounds_toArray, set_cons_zero, set_cons_succ, getElem_toArray, getElem_cons_zero, getElem_cons_succ]
 refine AnyT.take (i := 2) (v := ?_) rfl (by kernel_rfl) (by kernel_rfl) (by kernel_rfl) (by kernel_rfl) (fun _ _ _ h => h) (Or.inl ⟨by rfl, ?_⟩) (by assumption) ?_
 rotate_left 1
 ·(intro w0 hSw; (try dsimp only at hSw); go_simp; try with_reducible rfl)
 try simp only [Act.put, setIfInBounds_toArray, set_cons_zero, set_cons_succ, getElem_toArray, getElem_cons_zero, getElem_cons_succ]
 refine AnyT.takeA (i := 3) (v := ?_) rfl (by kernel_rfl) (by kernel_rfl) (by kernel_rfl) (fun _ _ _ h => h) (Or.inl ⟨by rfl, ?_⟩) ?_
 rotate_left 1
 ·(intro w0 _; go_simp; try with_reducible rfl)
 try simp only [Act.put, setIfInBounds_toArray, set_cons_zero, set_cons_succ, getElem_toArray, getElem_cons_zero, getElem_cons_succ]
 refine AnyT.takeA (i := 4) (v := ?_) rfl (by kernel_rfl) (by kernel_rfl) (by kernel_rfl) (fun _ _ _ h => h) (Or.inl ⟨by rfl, ?_⟩) ?_
 rotate_left 1
 ·(intro w0 _; go_simp; try with_reducible rfl)
 try simp only [Act.put, setIfInBounds_toArray, set_cons_zero, set_cons_succ, getElem_toArray, getElem_cons_zero, getElem_cons_succ]
 refine AnyT.takeA (i := 5) (v := ?_) rfl (by kernel_rfl) (by kernel_rfl) (by kernel_rfl) (fun _ _ _ h => h) (Or.inl ⟨by rfl, ?_⟩) ?_
 rotate_left 1
 ·(intro w0 _; go_simp; try with_reducible rfl)
 try simp only [Act.put, setIfInBounds_toArray, set_cons_zero, set_cons_succ, getElem_toArray, getElem_cons_zero, getElem_cons_succ]
 refine AnyT.take (i := 6) (v := ?_) rfl (by kernel_rfl) (by kernel_rfl) (by kernel_rfl) (by kernel_rfl) (fun _ _ _ h => h) (Or.inl ⟨by rfl, ?_⟩) (by assumption) ?_
 rotate_left 1
 ·(intro w0 hSw; (try dsimp only at hSw); go_simp; try with_reducible rfl)
 try simp only [Act.put, setIfInBounds_toArray, set_cons_zero, set_cons_succ, getElem_toArray, getElem_cons_zero, getElem_cons_succ]
 refine AnyT.takeA (i := 7) (v := ?_) rfl (by kernel_rfl) (by kernel_rfl) (by kernel_rfl) (fun _ _ _ h => h) (Or.inl ⟨by rfl, ?_⟩) ?_
 rotate_left 1
 ·(intro w0 _; go_simp; try with_reducible rfl)
 try simp only [Act.put, setIfInBounds_toArray, set_cons_zero, set_cons_succ, getElem_toArray, getElem_cons_zero, getElem_cons_succ]
 refine AnyT.take (i := 8) (v := ?_) rfl (by kernel_rfl) (by kernel_rfl) (by kernel_rfl) (by kernel_rfl) (fun _ _ _ h => h) (Or.inl ⟨by rfl, ?_⟩) (by assumption) ?_
 rotate_left 1
 ·(intro w0 hSw; (try dsimp only at hSw); go_simp; try with_reducible rfl)
 try simp only [Act.put, setIfInBounds_toArray, set_cons_zero, set_cons_succ, getElem_toArray, getElem_cons_zero, getElem_cons_succ]
 refine AnyT.takeA (i := 9) (v := ?_) rfl (by kernel_rfl) (by kernel_rfl) (by kernel_rfl) (fun _ _ _ h => h) (Or.inl ⟨by rfl, ?_⟩) ?_
 rotate_left 1
 ·(intro w0 _; go_simp; try with_reducible rfl)
 try simp only [Act.put, setIfInBounds_toArray, set_cons_zero, set_cons_succ, getElem_toArray, getElem_cons_zero, getElem_cons_succ]
 refine AnyT.takeA (i := 10) (v := ?_) rfl (by kernel_rfl) (by kernel_rfl) (by kernel_rfl) (fun _ _ _ h => h) (Or.inl ⟨by rfl, ?_⟩) ?_
 rotate_left 1
 ·(intro w0 _; go_simp; try with_reducible rfl)
 try simp only [Act.put, setIfInBounds_toArray, set_cons_zero, set_cons_succ, getElem_toArray, getElem_cons_zero, getElem_cons_succ]
 refine AnyT.takeA (i := 11) (v := ?_) rfl (by kernel_rfl) (by kernel_rfl) (by kernel_rfl) (fun _ _ _ h => h) (Or.inl ⟨by rfl, ?_⟩) ?_
 rotate_left 1
 ·(intro w0 _; go_simp; try with_reducible rfl)
 try simp only [Act.put, setIfInBounds_toArray, set_cons_zero, set_cons_succ, getElem_toArray, getElem_cons_zero, getElem_cons_succ]
 refine AnyT.call (i := 12) (by kernel_rfl) rfl (fun K hK => ?_)
 try simp only [Act.put, setIfInBounds_toArray, set_cons_zero, set_cons_succ, getElem_toArray, getElem_cons_zero, getElem_cons_succ]
 rw [if_pos (by rfl)]
 go_simp
 (go_at_call 142; refine LX.out.mono ?_; rintro e w3 ⟨rs, rfl, tab, hsz, bb⟩; have K03 : w3.cell? ⟨w.heap.size, 0, none⟩ = some (.slice A n cs) := (bb.cell (p := ⟨w.heap.size, 0, none⟩) zA).trans K0; have K13 : w3.cell? ⟨w.heap.size, 1, none⟩ = some (.slice (some ⟨b, off, none⟩) q cv) := (bb.cell (p := ⟨w.heap.size, 1, none⟩) zA).trans K1; have K23 : w3.cell? ⟨b, off + k * 2, none⟩ = some (.slice P pn pc) := (bb.cell (p := ⟨b, off + k * 2, none⟩) zB).trans K2; have one := Lib.hid tab.one; have h24 := Lib.hid tab.1; have r3 := Lib.hid (Row.next (Row.drew rB) bb); go_wp2_with fail)
 refine hK.out _ _ (fun _ _ => ?_) (fun hKeep => ?_)
 ·exact ⟨K03, K13, K23⟩
 replace hHeld := hKeep (by rfl) hHeld
 clear hK K hKeep
 try simp only [Act.put, setIfInBounds_toArray, set_cons_zero, set_cons_succ, getElem_toArray, getElem_cons_zero, getElem_cons_succ]
 refine AnyT.takeA (i := 13) (v := ?_) rfl (by kernel_rfl) (by kernel_rfl) (by kernel_rfl) (fun _ _ _ h => h) (Or.inl ⟨by rfl, ?_⟩) ?_
 rotate_left 1
 ·(intro w0 _; go_simp; try with_reducible rfl)
 try simp only [Act.put, setIfInBounds_toArray, set_cons_zero, set_cons_succ, getElem_toArray, getElem_cons_zero, getElem_cons_succ]
 refine AnyT.takeA (i := 14) (v := ?_) rfl (by kernel_rfl) (by kernel_rfl) (by kernel_rfl) (fun _ _ _ h => h) (Or.inl ⟨by rfl, ?_⟩) ?_
 rotate_left 1
 ·(intro w0 _; go_simp; try with_reducible rfl)
 try simp only [Act.put, setIfInBounds_toArray, set_cons_zero, set_cons_succ, getElem_toArray, getElem_cons_zero, getElem_cons_succ]
 refine AnyT.call (i := 15) (by kernel_rfl) rfl (fun K hK => ?_)
 try simp only [Act.put, setIfInBounds_toArray, set_cons_zero, set_cons_succ, getElem_toArray, getElem_cons_zero, getElem_cons_succ]
 rw [if_pos (by rfl)]
 refine wp_rowStore 138 _ _ rfl (w.heap.size + 1) rs z24 138 rfl rfl r3.out (by rw [h24.out]; exact size_b) (by rw [h24.out]; rfl) one.out ?_
 refine hK.out _ _ (fun h => by cases h) (fun _ => ?_)
 clear hK K
 try simp only [Act.put, setIfInBounds_toArray, set_cons_zero, set_cons_succ, getElem_toArray, getElem_cons_zero, getElem_cons_succ]
 refine AnyT.takeA (i := 16) (v := ?_) rfl (by kernel_rfl) (by kernel_rfl) (by kernel_rfl) (fun _ _ _ h => h) (Or.inl ⟨by rfl, ?_⟩) ?_
 rotate_left 1
 ·(intro w0 _; go_simp; try with_reducible rfl)
 try simp only [Act.put, setIfInBounds_toArray, set_cons_zero, set_cons_succ, getElem_toArray, getElem_cons_zero, getElem_cons_succ]
 refine AnyT.done (by kernel_rfl) ?_ _
 have r1 := r3.out
 have r0 := RA.out.drew.next bb
 have bx : Below w.heap.size w w3 := BEL.out.drew.trans (bb.mono BEL.out.size)
 have tab2 : TabR w3 w.heap.size rs (R.getD s0) := tab_down (tab_down (by have := tab; rw [show W.drew.heap.size = W.heap.size from rfl, zW] at this; exact this) r1 z24_nums) r0 two_nums
 have F : AnsExt w R (.returned (.tuple #[.agg rs, .bool R.isSome])) (w3.setRow (w.heap.size + 1) rs) :=
  ⟨rs, rfl, tab2.keep (keep_of (grown_setRow w3 (w.heap.size + 1) rs) bx.size (fun k e => by injection e; omega)), hsz, Below.btw bx (Btw.of_grown (lo := w.heap.size) (hi := w.heap.size + 1 + 1) (grown_setRow w3 (w.heap.size + 1) rs) (fun k e => by injection e; omega)) (Nat.le_refl _) bx.size⟩
 have HF := Lib.hid F
 have H3 := Lib.hid (Row.setRow r1 rs)
 clear F r1 r0 bx tab2 tab bb
 go_wp2
 (try simp only [Exit.inBlock, Exit.then])
 refine bodyPost_ret (v := .tuple #[.agg rs, .bool R.isSome]) ?_ rfl HF.out
 exact results_row_tmp Tryz.results101 _ (w.heap.size + 1) 138 rs _ rfl H3.out Tryz.underlying138 rfl (by rw [h24.out]; exact size_b)
end stepImpl
end
section
open Go.Lib (hid)
namespace anyR
open Go.RowKit base ints sig segs varsOf shape kindsR ruleMath
set_option maxRecDepth 100000
theorem any_of {α : Type} [Inhabited α] {f : α → Bool} {xs : List α} {k : Nat} {x z : α} (hk : k < xs.length) (ex : xs.getD k z = x) (h : f x = true) : xs.any f = true := by
 rw [List.any_eq_true]
 refine ⟨xs[k], List.getElem_mem hk, ?_⟩
 have : xs.getD k z = xs[k] := by simp [List.getD, hk]
 rw [← this, ex]; exact h
theorem none_of {α : Type} {f : α → Bool} {xs : List α} {z : α} (h : ∀ j, j < xs.length → f (xs.getD j z) = false) : xs.any f = false := by
 rw [List.any_eq_false]
 intro x hx
 obtain ⟨i, hi, rfl⟩ := List.getElem_of_mem hx
 have := h i hi
 simpa [List.getD, hi] using this
theorem mem_at {α : Type} {xs : List α} {k : Nat} {x z : α} (hk : k < xs.length) (ex : xs.getD k z = x) : x ∈ xs := by
 have : xs.getD k z = xs[k] := by simp [List.getD, hk]
 rw [← ex, this]; exact List.getElem_mem hk
def TestsI (g : Nat) (fa lb : Array Value) (w : World) (xs : List Int) (f : Int → Bool) : Prop := ∀ (W : World) (x : Int), Below w.heap.size w W → x ∈ xs → Calls Tryz.prog g (fa ++ #[.int .i64 x] ++ lb) W (AnsB W (f x))
def AnsIxI (w : World) (f : Int → Bool) (xs : List Int) (e : Ending) (w' : World) : Prop := ∃ z : Int, e = .returned (.int .i64 z) ∧ -1 ≤ z ∧ z ≤ 1048576 ∧ decide (0 ≤ z) = xs.any f ∧ Below w.heap.size w w'
def HeadIxI (w : World) (n : Nat) (f : Int → Bool) (xs : List Int) (i : Value) (wr : World) : Prop := ∃ k : Nat, k ≤ n ∧ i = .int .i64 k ∧ (∀ j, j < k → f (xs.getD j 0) = false) ∧ Below w.heap.size w wr
set_option maxHeartbeats 2000000 in
theorem indexFuncI (g : Nat) (fa lb : Array Value) (eg : ∀ args w, (callFunc g args).run Tryz.prog w = .ok (.enter g args) w) (f : Int → Bool) (A : Option Addr) (n c : Nat) (xs : List Int) (w : World) (hT : TestsI g fa lb w xs f)
  (h : Rd w w.heap.size sI [.slice A n c] xs) (hl : xs.length = n) (hn : n ≤ 1048576) :
  Calls Tryz.prog 159 #[.slice A n c, .func (.func g) fa lb] w (AnsIxI w f xs) := by
 have HL := hid hl
 have HK := hid hT
 have HR := hid h
 have HH : Hid (HeadIxI w n f xs (.int .i64 0) w) := hid ⟨0, Nat.zero_le _, rfl, fun j hj => absurd hj (Nat.not_lt_zero _), Below.refl _ _⟩
 clear hT h hl
 go_enter Tryz.func159, Tryz.ntmps159
 go_wp2_with fail
 go_loopw [8] (fun i wr => HeadIxI w n f xs i wr) (fun i _ => n - (intOf i).toNat)
 case atStart => exact HH.out
 case round =>
  obtain ⟨k, hk, rfl, hlow, hb⟩ := hrel
  have HLOW := hid hlow
  clear hlow HH
  by_cases hlt : k < n
  ·have hkD : k < xs.length := by rw [HL.out]; exact hlt
   obtain ⟨b, off, x, rfl, hbB, hx0, ex⟩ := HR.out.seg.spot hlt
   have hx : wr.cell? ⟨b, off + k, none⟩ = some (.int .i64 x) := (hb.cell (p := ⟨b, off + k, none⟩) hbB).trans hx0
   have hcall := HK.out wr x hb (mem_at hkD ex.out)
   obtain ⟨v, hv⟩ : ∃ v, f x = v := ⟨_, rfl⟩
   rw [hv] at hcall
   have HV := hid hv
   have HC := hid hcall
   have i0 : (0 : Int) ≤ (k : Int) := by omega
   have i1 : (k : Int) < (n : Int) := by omega
   clear hv hcall
   cases v with
   | true =>
    go_wp2_with (first
     | (go_at_fn g; refine HC.out.mono ?_; rintro e w1 ⟨rfl, bb⟩))
    have F : AnsIxI w f xs (.returned (.int .i64 (k : Int))) w1 := ⟨k, rfl, by omega, by omega, by rw [decide_eq_true (by omega)]; exact (any_of hkD ex.out HV.out).symm, next_trans hb bb⟩
    have HF := hid F
    clear F bb hb HC
    go_wp2
    go_ret
    exact HF.out
   | false =>
    go_wp2_with (first
     | (go_at_fn g; refine HC.out.mono ?_; rintro e w1 ⟨rfl, bb⟩))
    have S1 : HeadIxI w n f xs (.int .i64 ((k : Int) + 1)) w1 := ⟨k + 1, hlt, by simp, fun j hj => by
     by_cases e : j = k
     ·rw [e, ex.out]; exact HV.out
     ·exact HLOW.out j (by omega), next_trans hb bb⟩
    have HS1 := hid S1
    clear S1 bb hb HC
    go_wp2
    go_roundw
    case rel => exact HS1.out
    case measure => simp [intOf]; omega
  ·have F : AnsIxI w f xs (.returned (.int .i64 (-1))) wr := ⟨-1, rfl, by omega, by omega, (none_of (fun j hj => HLOW.out j (by rw [HL.out] at hj; omega))).symm, hb⟩
   have HF := hid F
   clear F hb
   go_wp2
   go_ret
   exact HF.out
theorem containsFuncI (g : Nat) (fa lb : Array Value) (eg : ∀ args w, (callFunc g args).run Tryz.prog w = .ok (.enter g args) w) (f : Int → Bool) (A : Option Addr) (n c : Nat) (xs : List Int) (w : World) (hT : TestsI g fa lb w xs f)
  (h : Rd w w.heap.size sI [.slice A n c] xs) (hl : xs.length = n) (hn : n ≤ 1048576) :
  Calls Tryz.prog 139 #[.slice A n c, .func (.func g) fa lb] w (AnsB w (xs.any f)) := by
 have L := hid (indexFuncI g fa lb eg f A n c xs w hT h hl hn)
 clear h hl hT
 go_enter Tryz.func139, Tryz.ntmps139
 go_wp2_with fail
 refine L.out.mono ?_
 rintro e w' ⟨z, rfl, h1, h2, hz, bb⟩
 have HZ := hid hz
 have HB := hid bb
 clear hz L bb
 go_wp2
 go_ret
 exact ⟨by rw [← HZ.out]; rfl, HB.out⟩
end anyR
end
section
open Go.Lib (hid)
namespace ruleImpl
open Go.RowKit base ints sig term termOk marks app sym segs termFacts varsMath varsOf rename same count linear shape kindsR ruleMath ruleSpec anyR
set_option maxRecDepth 100000
theorem containsI (A : Option Addr) (n c : Nat) (xs : List Int) (x : Int) (w : World) (h : Seg w w.heap.size A n xs) (hn : n ≤ 1048576) :
  Calls Tryz.prog 138 #[.slice A n c, .int .i64 x] w fun e w' => w = w' ∧ e = .returned (.bool (decide (x ∈ xs))) := by
 have L := hid (indexOf A n c xs x w h hn)
 clear h
 go_enter Tryz.func138, Tryz.ntmps138
 go_wp2_with fail
 refine L.out.mono ?_
 rintro e w' ⟨rfl, rfl⟩
 have E : decide (0 ≤ indexI xs x) = decide (x ∈ xs) := decide_eq_decide.2 (by unfold indexI; split <;> simp_all)
 have HE := hid E
 clear L E
 generalize indexI xs x = z at *
 go_wp2
 go_ret
 exact ⟨rfl, by rw [← HE.out]; rfl⟩
set_option maxHeartbeats 1000000 in
theorem ruleNew (g : Nat) (A1 : Option Addr) (n1 c1 : Nat) (r : Value) (t : List Int) (x : Int) (W : World) (hr : Row W g 126 #[.slice A1 n1 c1, r]) (h : Seg W W.heap.size A1 n1 t) (hn : n1 ≤ 1048576) :
  Calls Tryz.prog 137 #[.int .i64 x, .pointer (some ⟨g, 0, none⟩)] W (AnsB W (newB t x)) := by
 have L := hid (containsI A1 n1 c1 t x W h hn)
 have c0 : W.cell? ⟨g, 0, none⟩ = some (.slice A1 n1 c1) := hr.cell 0
 clear h hr
 by_cases hx : x < 0
 ·have hd : decide (x < 0) = true := decide_eq_true hx
  have E : (!decide (x ∈ t)) = newB t x := by unfold newB; by_cases h : x ∈ t <;> simp [h, hx]
  have HE := hid E
  clear E
  go_enter Tryz.func137, Tryz.ntmps137
  go_wp2_with fail
  refine L.out.mono ?_
  rintro e w' ⟨rfl, rfl⟩
  have F : AnsB W (newB t x) (.returned (.bool (!decide (x ∈ t)))) W := ⟨by rw [HE.out], Below.refl _ _⟩
  have HF := hid F
  clear L F
  generalize decide (x ∈ t) = z at *
  go_wp2
  go_ret
  exact HF.out
 ·have hd : decide (x < 0) = false := decide_eq_false hx
  have F : AnsB W (newB t x) (.returned (.bool false)) W := ⟨by unfold newB; rw [decide_eq_false (fun h => hx h.1)], Below.refl _ _⟩
  have HF := hid F
  clear F L
  go_enter Tryz.func137, Tryz.ntmps137
  go_wp2
  go_ret
  exact HF.out
theorem rule_all {sg : List Int} {d : Rl} (h1 : termOkB sg d.1 = true) (h2 : termOkB sg d.2 = true) (h0 : ¬ hd d.1 < 0) : ruleOkB sg d = !d.2.any (newB d.1) := by
 unfold ruleOkB; rw [h1, h2, decide_eq_false h0]; rfl
set_option maxHeartbeats 4000000 in
theorem implRuleOk (a l r : Value) (sg : List Int) (d : Dat sRule) (w : World) (h : Rd w w.heap.size sI [a] sg) (h' : Rd w w.heap.size sRule [l, r] d) (hz : sz sI sg ≤ 1048576) (hz' : sz sRule d ≤ 1048576) :
  Calls Tryz.prog 97 #[.agg #[a], .agg #[l, r]] w (AnsB w (ruleOkB sg d)) := by
 have g1 := (parts_Rule h').2
 obtain ⟨A, n, c, rfl, hs, hc⟩ := rd_ints.1 h
 have hn := len_ints hs.1 hz
 obtain ⟨A1, n1, c1, A2, n2, c2, rfl, rfl, s1, k1, s2, k2, hn1, hn2⟩ := rd_rule h' hz'
 obtain ⟨W, hW, rA, rR, bel⟩ := box2 w 26 126 #[.slice A n c] #[.slice A1 n1 c1, .slice A2 n2 c2]
 have HW := hid hW
 have HL1 := hid s1.1
 have HL2 := hid s2.1
 have L1 := hid (implTermOk A A1 n c n1 c1 sg d.1 W (hs.next bel) (s1.next bel) hn hn1)
 have L2 := hid (fun (w1 : World) (bb : Below w.heap.size w w1) => implTermOk A A2 n c n2 c2 sg d.2 w1 (hs.next bb) (s2.next bb) hn hn2)
 have LC := hid (fun (w1 : World) (bb : Below w.heap.size w w1) (hr : Row w1 (w.heap.size + 1) 126 #[.slice A1 n1 c1, .slice A2 n2 c2]) => containsFuncI 137 #[] #[.pointer (some ⟨w.heap.size + 1, 0, none⟩)] (fun _ _ => rfl) (newB d.1) A2 n2 c2 d.2 w1
  (fun W x hW _ => ruleNew (w.heap.size + 1) A1 n1 c1 (.slice A2 n2 c2) d.1 x W (hr.next hW) (s1.next (next_trans bb hW)) hn1) (g1.next bb) s2.1 hn2)
 clear hW h h' hz hz' hs hc k1 k2 g1
 cases ok1 : termOkB sg d.1 with
 | false =>
  have HS := hid ok1
  clear ok1 s1 s2
  go_enter Tryz.func97, Tryz.ntmps97
  go_wp2_with fail
  rw [← HW.out]
  refine L1.out.mono ?_
  rintro e w1 ⟨he, bb⟩
  rw [HS.out] at he
  subst he
  have F := hid (ansB (b := ruleOkB sg d) (a := false) (by rw [rule_noL HS.out]) (next_trans bel bb))
  clear bb bel rA rR
  go_wp2
  go_ret
  exact F.out
 | true =>
  have hp1 := (term_len ok1).1
  rw [s1.1] at hp1
  obtain ⟨b, off, x, rfl, hbB, hx, ex⟩ := s1.spot (k := 0) (by omega)
  have HS := hid ok1
  have EX := hid (show hd d.1 = x from ex.out)
  have i0 : (0 : Int) < (n1 : Int) := by omega
  clear ok1 ex
  go_enter Tryz.func97, Tryz.ntmps97
  go_wp2_with fail
  rw [← HW.out]
  refine L1.out.mono ?_
  rintro e w1 ⟨he, bb⟩
  rw [HS.out] at he
  subst he
  replace rA := rA.next bb
  replace rR := rR.next bb
  replace bel := next_trans bel bb
  have cA : w1.cell? ⟨w.heap.size, 0, none⟩ = some (.slice A n c) := rA.cell 0
  have cR : w1.cell? ⟨w.heap.size + 1, 1, none⟩ = some (.slice A2 n2 c2) := rR.cell 1
  clear bb L1
  go_wp2_with fail
  refine (L2.out w1 bel).mono ?_
  cases ok2 : termOkB sg d.2 with
  | false =>
   have HS2 := hid ok2
   clear ok2
   rintro e w2 ⟨he, bb⟩
   rw [HS2.out] at he
   subst he
   have F := hid (ansB (b := ruleOkB sg d) (a := false) (by rw [rule_noR HS2.out]) (next_trans bel bb))
   clear bb bel rA rR cA cR s1 s2
   go_wp2
   go_ret
   exact F.out
  | true =>
   have HS2 := hid ok2
   clear ok2
   rintro e w2 ⟨he, bb⟩
   rw [HS2.out] at he
   subst he
   replace rR := rR.next bb
   replace bel := next_trans bel bb
   have cR0 : w2.cell? ⟨w.heap.size + 1, 0, none⟩ = some (.slice (some ⟨b, off, none⟩) n1 c1) := rR.cell 0
   have cX : w2.cell? ⟨b, off, none⟩ = some (.int .i64 x) := by have := (bel.cell (p := ⟨b, off + 0, none⟩) hbB).trans hx; simpa using this
   clear bb rA cA cR L2
   by_cases hneg : x < 0
   ·have F := hid (ansB (b := ruleOkB sg d) (a := false) (by rw [rule_var (by rw [EX.out]; exact hneg)]) bel)
    have hdx : decide (x < 0) = true := decide_eq_true hneg
    clear bel rR s1 s2 LC
    go_wp2
    go_ret
    exact F.out
   ·have hdx : decide (x < 0) = false := decide_eq_false hneg
    have cR1 : w2.cell? ⟨w.heap.size + 1, 1, none⟩ = some (.slice A2 n2 c2) := rR.cell 1
    have LC2 := hid (LC.out w2 bel rR)
    have hmf : ∀ (fn : Fn) (first cap : Array Value) (w : World), (Instr.makeFunc fn first cap).run Tryz.prog w = .ok (.func fn first cap) w := fun _ _ _ _ => rfl
    have E := hid (rule_all HS.out HS2.out (by rw [EX.out]; exact hneg))
    clear LC s1 s2
    go_wp2_with fail
    refine LC2.out.mono ?_
    obtain ⟨z, hzz⟩ : ∃ z, d.2.any (newB d.1) = z := ⟨_, rfl⟩
    rw [hzz] at E
    rintro e w3 ⟨he, bb⟩
    rw [hzz] at he
    subst he
    have F := hid (ansB (b := ruleOkB sg d) (a := !z) E.out.symm (next_trans bel bb))
    clear bb bel rR cR0 cR1 cX LC2 E hzz
    go_wp2
    go_ret
    exact F.out
end ruleImpl
end
section
open Go.Lib (hid)
namespace ruleImpl
open Go.RowKit base ints sig term termOk marks app sym segs termFacts varsMath varsOf rename same count linear shape kindsR ruleMath ruleSpec anyR
set_option maxRecDepth 100000
def sysV (a v : Value) (ok : Bool) : Value := if ok = true then .agg #[a, v] else .agg #[.slice none 0 0, .slice none 0 0]
def AnsSys (w : World) (a v : Value) (ok : Bool) (e : Ending) (w' : World) : Prop := e = .returned (.tuple #[sysV a v ok, .bool ok]) ∧ Below w.heap.size w w'
def HeadSO (w : World) (T T' : TypeId) (cs cs' : Array Value) (n : Nat) (f : Rl → Bool) (rs : List Rl) (i : Value) (wr : World) : Prop :=
 ∃ k : Nat, k ≤ n ∧ i = .int .i64 k ∧ (∀ j, j < k → f (rs.getD j ([], [])) = true) ∧ Row wr w.heap.size T cs ∧ Row wr (w.heap.size + 1) T' cs' ∧ Below w.heap.size w wr
theorem headSO_step {w wr : World} {T T' : TypeId} {cs cs' : Array Value} {n k : Nat} {f : Rl → Bool} {rs : List Rl} {x : Rl} (hk : k < n) (hlow : ∀ j, j < k → f (rs.getD j ([], [])) = true) (ex : Hid (rs.getD k ([], []) = x)) (h : f x = true) (hr : Row wr w.heap.size T cs) (hr' : Row wr (w.heap.size + 1) T' cs') (hb : Below w.heap.size w wr) : HeadSO w T T' cs cs' n f rs (.int .i64 ((k : Int) + 1)) wr :=
 ⟨k + 1, hk, by simp, fun j hj => by
  by_cases e : j = k
  ·subst e; rw [ex.out]; exact h
  ·exact hlow j (by omega), hr, hr', hb⟩
set_option maxHeartbeats 8000000 in
theorem systemOf (a v : Value) (d : Dat sSystem) (w : World) (h : Rd w w.heap.size sSystem [a, v] d) (hz : sz sSystem d ≤ 1048576) :
  Calls Tryz.prog 44 #[.agg #[a, v]] w (AnsSys w a v (sysOkB d.1 d.2)) := by
 have hzs := hid (sys_szs hz)
 obtain ⟨A, n, c, V, m, cv, rfl, rfl, hs, hc, hcv, hm, hn, hm1, hrs, hsg, hE⟩ := rd_sys h hz
 obtain ⟨W, hW, rA, rR, bel⟩ := box2 w 29 65 #[.slice A n c, .slice V m cv] #[.slice none 0 0, .slice none 0 0]
 have HW := hid hW
 have HM := hid hm
 have HE := hid hE
 have HR := hid hrs
 have L1 := hid (implSigOk A n c d.1 W (hs.next bel) hn)
 have LR := hid (fun (w1 : World) (l r : Value) (x : Dat sRule) (bb : Below w.heap.size w w1) (hx : Rd w1 w1.heap.size sRule [l, r] x) (hzx : sz sRule x ≤ 1048576) => implRuleOk (.slice A n c) l r d.1 x w1 (hsg.next bb) hx hzs.out.1 hzx)
 clear hW h hz hs hc hcv hm hE hrs hsg
 cases ok1 : sigOkB d.1 with
 | false =>
  have HS := hid ok1
  clear ok1
  go_enter Tryz.func44, Tryz.ntmps44
  go_wp2_with fail
  rw [← HW.out]
  refine L1.out.mono ?_
  rintro e w1 ⟨he, bb⟩
  rw [HS.out] at he
  subst he
  replace rR := rR.next bb
  replace bel := next_trans bel bb
  have y0 : w1.cell? ⟨w.heap.size + 1, 0, none⟩ = some (.slice none 0 0) := rR.cell 0
  have y1 : w1.cell? ⟨w.heap.size + 1, 1, none⟩ = some (.slice none 0 0) := rR.cell 1
  have f0 := rR.free 0
  have f1 := rR.free 1
  have r1 := rR.put 0 (.slice none 0 0)
  have y2 : (w1.setCell ⟨w.heap.size + 1, 0, none⟩ (.slice none 0 0)).cell? ⟨w.heap.size + 1, 1, none⟩ = some (.slice none 0 0) := r1.cell 1
  have f2 := r1.free 1
  have r2 := r1.put 1 (.slice none 0 0)
  have u0 : ((w1.setCell ⟨w.heap.size + 1, 0, none⟩ (.slice none 0 0)).setCell ⟨w.heap.size + 1, 1, none⟩ (.slice none 0 0)).cell? ⟨w.heap.size + 1, 0, none⟩ = some (.slice none 0 0) := r2.cell 0
  have u1 : ((w1.setCell ⟨w.heap.size + 1, 0, none⟩ (.slice none 0 0)).setCell ⟨w.heap.size + 1, 1, none⟩ (.slice none 0 0)).cell? ⟨w.heap.size + 1, 1, none⟩ = some (.slice none 0 0) := r2.cell 1
  have F : AnsSys w (.slice A n c) (.slice V m cv) (sysOkB d.1 d.2) (.returned (.tuple #[.agg #[.slice none 0 0, .slice none 0 0], .bool false])) ((w1.setCell ⟨w.heap.size + 1, 0, none⟩ (.slice none 0 0)).setCell ⟨w.heap.size + 1, 1, none⟩ (.slice none 0 0)) :=
   ⟨by rw [sys_sig HS.out]; rfl, (bel.setCell (by simp) _).setCell (by simp) _⟩
  have HF := hid F
  clear F bel rA rR bb r1 r2 LR
  go_wp2
  exact bodyPost_ret (v := .tuple #[.agg #[.slice none 0 0, .slice none 0 0], .bool false]) (by simp [results, Tryz.results44, go_sem, u0, u1]) rfl HF.out
 | true =>
  have HS := hid ok1
  clear ok1
  go_enter Tryz.func44, Tryz.ntmps44
  go_wp2_with fail
  rw [← HW.out]
  refine L1.out.mono ?_
  rintro e w1 ⟨he, bb⟩
  rw [HS.out] at he
  subst he
  replace rA := rA.next bb
  replace rR := rR.next bb
  replace bel := next_trans bel bb
  have cR : w1.cell? ⟨w.heap.size, 1, none⟩ = some (.slice V m cv) := rA.cell 1
  clear bb L1
  by_cases h12 : m ≤ 12
  ·have H0 : Hid (HeadSO w 29 65 #[.slice A n c, .slice V m cv] #[.slice none 0 0, .slice none 0 0] m (ruleOkB d.1) d.2 (.int .i64 0) w1) := hid ⟨0, Nat.zero_le _, rfl, fun j hj => absurd hj (Nat.not_lt_zero _), rA, rR, bel⟩
   clear rA rR bel
   go_wp2_with fail
   go_loopw [20] (fun i wr => HeadSO w 29 65 #[.slice A n c, .slice V m cv] #[.slice none 0 0, .slice none 0 0] m (ruleOkB d.1) d.2 i wr) (fun i _ => m - (intOf i).toNat)
   case atStart => exact H0.out
   case round =>
    obtain ⟨k, hk, rfl, hlow, rr, rs, hb⟩ := hrel
    have HLOW := hid hlow
    clear hlow H0 cR
    have cA0 : wr.cell? ⟨w.heap.size, 0, none⟩ = some (.slice A n c) := rr.cell 0
    have cA1 : wr.cell? ⟨w.heap.size, 1, none⟩ = some (.slice V m cv) := rr.cell 1
    by_cases hlt : k < m
    ·obtain ⟨b, off, l, r, x, rfl, hbB, ex, hc0, hc1, hx⟩ := rd_at HR.out hb HM.out hlt
     have hzx : sz sRule x ≤ 1048576 := by have := HE.out k hlt; rw [ex.out] at this; exact this
     obtain ⟨A1, n1, c1, A2, n2, c2, rfl, rfl, s1, k1, s2, k2, hn1, hn2⟩ := rd_rule hx hzx
     obtain ⟨w2, hw2⟩ : ∃ x, x = wr.alloc (.cells #[.slice A1 n1 c1, .slice A2 n2 c2] 126) := ⟨_, rfl⟩
     have bb : Below wr.heap.size wr w2 := by rw [hw2]; exact (Below.refl _ _).alloc (Nat.le_refl _) _
     have rx : Row w2 wr.heap.size 126 #[.slice A1 n1 c1, .slice A2 n2 c2] := by rw [hw2]; exact Row.new wr 126 #[.slice A1 n1 c1, .slice A2 n2 c2]
     have rr2 := rr.next bb
     have rs2 := rs.next bb
     have hb2 := next_trans hb bb
     have L := hid (LR.out w2 (.slice A1 n1 c1) (.slice A2 n2 c2) x hb2 ((hx.more hb.size).next bb) hzx)
     have x0 : w2.cell? ⟨wr.heap.size, 0, none⟩ = some (.slice A1 n1 c1) := rx.cell 0
     have x1 : w2.cell? ⟨wr.heap.size, 1, none⟩ = some (.slice A2 n2 c2) := rx.cell 1
     have x2 : w2.cell? ⟨w.heap.size, 0, none⟩ = some (.slice A n c) := rr2.cell 0
     have X0 := x0
     have X1 := x1
     have X2 := x2
     rw [hw2] at X0 X1 X2
     have HW2 := hid hw2
     have i0 : (0 : Int) ≤ (k : Int) := by omega
     have i1 : (k : Int) < (m : Int) := by omega
     clear hx hzx s1 s2 k1 k2 rr rs hb bb rx hw2
     go_wp2_with fail
     rw [← HW2.out]
     refine L.out.mono ?_
     cases ok : ruleOkB d.1 x with
     | false =>
      have HO := hid ok
      clear ok
      rintro e w3 ⟨he, bb⟩
      subst he
      have rR := rs2.next bb
      have bel := next_trans hb2 bb
      have y0 : w3.cell? ⟨w.heap.size + 1, 0, none⟩ = some (.slice none 0 0) := rR.cell 0
      have y1 : w3.cell? ⟨w.heap.size + 1, 1, none⟩ = some (.slice none 0 0) := rR.cell 1
      have f0 := rR.free 0
      have f1 := rR.free 1
      have r1 := rR.put 0 (.slice none 0 0)
      have y2 : (w3.setCell ⟨w.heap.size + 1, 0, none⟩ (.slice none 0 0)).cell? ⟨w.heap.size + 1, 1, none⟩ = some (.slice none 0 0) := r1.cell 1
      have f2 := r1.free 1
      have r2 := r1.put 1 (.slice none 0 0)
      have u0 : ((w3.setCell ⟨w.heap.size + 1, 0, none⟩ (.slice none 0 0)).setCell ⟨w.heap.size + 1, 1, none⟩ (.slice none 0 0)).cell? ⟨w.heap.size + 1, 0, none⟩ = some (.slice none 0 0) := r2.cell 0
      have u1 : ((w3.setCell ⟨w.heap.size + 1, 0, none⟩ (.slice none 0 0)).setCell ⟨w.heap.size + 1, 1, none⟩ (.slice none 0 0)).cell? ⟨w.heap.size + 1, 1, none⟩ = some (.slice none 0 0) := r2.cell 1
      have F : AnsSys w (.slice A n c) (.slice (some ⟨b, off, none⟩) m cv) (sysOkB d.1 d.2) (.returned (.tuple #[.agg #[.slice none 0 0, .slice none 0 0], .bool false])) ((w3.setCell ⟨w.heap.size + 1, 0, none⟩ (.slice none 0 0)).setCell ⟨w.heap.size + 1, 1, none⟩ (.slice none 0 0)) :=
       ⟨by rw [sys_bad (k := k) (by rw [HM.out]; exact hlt) (by rw [ex.out]; exact HO.out)]; rfl, (bel.setCell (by simp) _).setCell (by simp) _⟩
      have HF := hid F
      clear F bel rR bb r1 r2 LR rr2 rs2 hb2 x0 x1 x2 X0 X1 X2 cA0 cA1 hc0 hc1 L
      go_wp2
      exact bodyPost_ret (v := .tuple #[.agg #[.slice none 0 0, .slice none 0 0], .bool false]) (by simp [results, Tryz.results44, go_sem, u0, u1]) rfl HF.out
     | true =>
      have HO := hid ok
      clear ok
      rintro e w3 ⟨he, bb⟩
      subst he
      have F := hid (headSO_step (f := ruleOkB d.1) (w := w) hlt HLOW.out ex HO.out (rr2.next bb) (rs2.next bb) (next_trans hb2 bb))
      clear bb rr2 rs2 hb2 L x0 x1 x2 X0 X1 X2 cA0 cA1 hc0 hc1
      go_wp2
      go_roundw
      case rel => exact F.out
      case measure => simp [intOf]; omega
    ·have OK := hid (show sysOkB d.1 d.2 = true from sys_good HS.out (by rw [HM.out]; exact h12) (fun j hj => HLOW.out j (by rw [HM.out] at hj; omega)))
     have y0 : wr.cell? ⟨w.heap.size + 1, 0, none⟩ = some (.slice none 0 0) := rs.cell 0
     have f0 := rs.free 0
     have r1 := rs.put 0 (.slice A n c)
     have y2 : (wr.setCell ⟨w.heap.size + 1, 0, none⟩ (.slice A n c)).cell? ⟨w.heap.size + 1, 1, none⟩ = some (.slice none 0 0) := r1.cell 1
     have f2 := r1.free 1
     have r2 := r1.put 1 (.slice V m cv)
     have u0 : ((wr.setCell ⟨w.heap.size + 1, 0, none⟩ (.slice A n c)).setCell ⟨w.heap.size + 1, 1, none⟩ (.slice V m cv)).cell? ⟨w.heap.size + 1, 0, none⟩ = some (.slice A n c) := r2.cell 0
     have u1 : ((wr.setCell ⟨w.heap.size + 1, 0, none⟩ (.slice A n c)).setCell ⟨w.heap.size + 1, 1, none⟩ (.slice V m cv)).cell? ⟨w.heap.size + 1, 1, none⟩ = some (.slice V m cv) := r2.cell 1
     have F : AnsSys w (.slice A n c) (.slice V m cv) (sysOkB d.1 d.2) (.returned (.tuple #[.agg #[.slice A n c, .slice V m cv], .bool true])) ((wr.setCell ⟨w.heap.size + 1, 0, none⟩ (.slice A n c)).setCell ⟨w.heap.size + 1, 1, none⟩ (.slice V m cv)) :=
      ⟨by rw [OK.out]; rfl, (hb.setCell (by simp) _).setCell (by simp) _⟩
     have HF := hid F
     clear F hb rr rs r1 r2 LR
     go_wp2
     exact bodyPost_ret (v := .tuple #[.agg #[.slice A n c, .slice V m cv], .bool true]) (by simp [results, Tryz.results44, go_sem, u0, u1]) rfl HF.out
  ·have i1 : (12 : Int) < (m : Int) := by omega
   have y0 : w1.cell? ⟨w.heap.size + 1, 0, none⟩ = some (.slice none 0 0) := rR.cell 0
   have y1 : w1.cell? ⟨w.heap.size + 1, 1, none⟩ = some (.slice none 0 0) := rR.cell 1
   have f0 := rR.free 0
   have f1 := rR.free 1
   have r1 := rR.put 0 (.slice none 0 0)
   have y2 : (w1.setCell ⟨w.heap.size + 1, 0, none⟩ (.slice none 0 0)).cell? ⟨w.heap.size + 1, 1, none⟩ = some (.slice none 0 0) := r1.cell 1
   have f2 := r1.free 1
   have r2 := r1.put 1 (.slice none 0 0)
   have u0 : ((w1.setCell ⟨w.heap.size + 1, 0, none⟩ (.slice none 0 0)).setCell ⟨w.heap.size + 1, 1, none⟩ (.slice none 0 0)).cell? ⟨w.heap.size + 1, 0, none⟩ = some (.slice none 0 0) := r2.cell 0
   have u1 : ((w1.setCell ⟨w.heap.size + 1, 0, none⟩ (.slice none 0 0)).setCell ⟨w.heap.size + 1, 1, none⟩ (.slice none 0 0)).cell? ⟨w.heap.size + 1, 1, none⟩ = some (.slice none 0 0) := r2.cell 1
   have F : AnsSys w (.slice A n c) (.slice V m cv) (sysOkB d.1 d.2) (.returned (.tuple #[.agg #[.slice none 0 0, .slice none 0 0], .bool false])) ((w1.setCell ⟨w.heap.size + 1, 0, none⟩ (.slice none 0 0)).setCell ⟨w.heap.size + 1, 1, none⟩ (.slice none 0 0)) :=
    ⟨by rw [sys_long HM.out h12]; rfl, (bel.setCell (by simp) _).setCell (by simp) _⟩
   have HF := hid F
   clear F bel rA rR r1 r2 LR
   go_wp2
   exact bodyPost_ret (v := .tuple #[.agg #[.slice none 0 0, .slice none 0 0], .bool false]) (by simp [results, Tryz.results44, go_sem, u0, u1]) rfl HF.out
end ruleImpl
end
section
open Go.Lib (hid)
open List (setIfInBounds_toArray set_cons_zero set_cons_succ getElem_toArray getElem_cons_zero getElem_cons_succ)
namespace stepImpl
open Go.RowKit base ints sig term termOk endAt inside marks app sym sub segs segsHelp kinds termFacts termMath posMath plainMath gives Go.Proofs.YtmoidijngeijkaaGreat.look fillMath matchMath matchSpec whole takeMath take extended varsOf shape kindsR ruleMath ruleSpec ruleImpl stepMath walkMath stepSpec heldT
set_option maxRecDepth 100000
theorem step_by {sg : List Int} {x : Rl} {t : List Int} {a : Nat} {L : Nat → List Int} (hx : ruleOkB sg x = true) (ht : termOkB sg t = true) (ha : a < t.length) (hL : Turns sg x.1 (subL sg t a) L) :
  stepO sg x t a = if (fillL L x.2).length ≤ 60 ∧ (putAt sg t (fillL L x.2) a).length ≤ 60 then some (putAt sg t (fillL L x.2) a) else none := by
 obtain ⟨h1, h2, h3, h4⟩ := rule_parts hx
 have hs := sub_ok ht ha
 obtain ⟨ss, hm, hg⟩ := turns_match h1 hs hL
 rw [match_yes h1 hs] at hm
 have g := gives_of h1 hs hm
 have e : fillL (givesL ss) x.2 = fillL L x.2 := fill_ext (fun y hy h0 => by
  have hy1 := h4 y hy h0
  show givesL ss (vr y) = L (vr y)
  rw [g.2 y hy1 h0]
  exact hg y hy1 h0)
 unfold stepO
 rw [hm]
 dsimp only
 rw [e]
theorem at_turns {sg p t : List Int} {k : Nat} {s : List (List Int)} (h1 : termOkB sg p = true) (h2 : termOkB sg t = true) (h : mst sg t p k s0 = some s) : Turns sg p (subL sg t k) (givesL s) := by
 have hx : ∀ x ∈ p, -24 ≤ x := fun x hx => (term_mem h1 hx).1
 obtain ⟨⟨rest, e⟩, hv⟩ := mst_sound h2 h (by rfl) hx
 have hg : ∀ x ∈ p, x < 0 → givesL s (vr x) = s.getD (vr x) [] := fun x hx h0 => by
  have this : scan sg 1 (s.getD (vr x) []) = some (s.getD (vr x) []).length := hv x hx h0
  unfold givesL
  rw [if_neg ?_]
  intro e0
  have e1 : s.getD (vr x) [] = [] := List.length_eq_zero_iff.1 e0
  rw [e1] at this
  exact absurd this (by simp [scan])
 have ef : fillL (givesL s) p = fillL (fun i => s.getD i []) p := fill_ext fun x hx h0 => hg x hx h0
 refine ⟨?_, fun x hx h0 => by rw [hg x hx h0]; exact hv x hx h0⟩
 rw [ef]
 have a := scan_append (r := rest) (scan_fill (L := fun i => s.getD i []) (term_parts h1).2.2 hv)
 rw [← e] at a
 unfold subL
 rw [len1_eq a, e, List.take_left' rfl]
theorem reduce_by {sg : List Int} {x : Rl} {t : List Int} {a : Nat} {s : List (List Int)} (hx : ruleOkB sg x = true) (ht : termOkB sg t = true) (ha : a < t.length) (h : mst sg t x.1 a s0 = some s) :
  (stepO sg x t a).getD [] = put.putR sg t (fillL (givesL s) x.2) (a : Int) ∧ (stepO sg x t a).isSome = put.putB sg t (fillL (givesL s) x.2) (a : Int) := by
 obtain ⟨h1, h2, h3, h4⟩ := rule_parts hx
 obtain ⟨s1, s2, s3⟩ := term_parts ht
 have hT := at_turns h1 ht h
 have hth : thereB sg t (a : Int) = true := there_yes ht (by omega) (by omega)
 have hterm : termOkB sg (fillL (givesL s) x.2) = decide ((fillL (givesL s) x.2).length ≤ 60) := by
  by_cases hl : (fillL (givesL s) x.2).length ≤ 60
  ·rw [decide_eq_true hl]
   exact term_mk s1 hl (scan_fill (term_parts h2).2.2 (fun y hy h0 => hT.2 y (h4 y hy h0) h0))
  ·rw [decide_eq_false hl]
   cases e : termOkB sg (fillL (givesL s) x.2) with
   | false => rfl
   | true => exact absurd (term_len e).2 hl
 rw [step_by hx ht ha hT]
 unfold put.putR put.putB
 rw [hth, hterm, Bool.true_and, Int.toNat_natCast]
 unfold put.fitB
 have e1 : put.putI sg t (fillL (givesL s) x.2) a = putAt sg t (fillL (givesL s) x.2) a := rfl
 rw [e1]
 by_cases hl : (fillL (givesL s) x.2).length ≤ 60
 ·by_cases hh : (putAt sg t (fillL (givesL s) x.2) a).length ≤ 60
  ·rw [if_pos ⟨hl, hh⟩, decide_eq_true hl, decide_eq_true hh]; exact ⟨rfl, rfl⟩
  ·rw [if_neg (fun h => hh h.2), decide_eq_true hl, decide_eq_false hh]; exact ⟨rfl, rfl⟩
 ·rw [if_neg (fun h => hl h.1), decide_eq_false hl]; exact ⟨rfl, rfl⟩
theorem red_at {sg : List Int} {x : Rl} {t : List Int} {a : Nat} (hx : ruleOkB sg x = true) (ht : termOkB sg t = true) (ha : a < t.length) : (mst sg t x.1 a s0).isSome = redB sg x t a := by
 obtain ⟨h1, _⟩ := rule_parts hx
 rw [mst_at h1 ht ha]
 unfold redB instB
 rw [match_yes h1 (sub_ok ht ha)]
set_option maxHeartbeats 1000000 in
theorem lookB (cs : Array Value) (s : List (List Int)) (w : World) (htab : TabR w w.heap.size cs s) :
  Calls Tryz.prog 133 #[.agg cs] w fun e w' => ∃ g, e = .returned (.func (.func 119) #[] #[.pointer (some ⟨g, 0, none⟩)]) ∧ Row w' g 51 #[.slice (some ⟨w.heap.size, 0, none⟩) 24 24] ∧ Segs w' w'.heap.size (some ⟨w.heap.size, 0, none⟩) 24 s ∧ Below w.heap.size w w' ∧ w.heap.size ≤ g := by
 obtain ⟨W, hW⟩ : ∃ W, W = w.alloc (.cells cs 138) := ⟨_, rfl⟩
 have b0 : Below w.heap.size w W := by rw [hW]; exact (Below.refl _ _).alloc (Nat.le_refl _) _
 have r0 : Row W w.heap.size 138 cs := by rw [hW]; exact Row.new w _ _
 have s1 : Segs W W.heap.size (some ⟨w.heap.size, 0, none⟩) 24 s := (htab.below b0).segs r0 b0.size
 have HW := hid hW
 clear hW htab r0
 go_enter Tryz.func133, Tryz.ntmps133
 go_wp2_with (first
  | (refine rowBox rfl 138 _ rfl cs rfl ?_))
 rw [← HW.out]
 refine (lookupIn (some ⟨w.heap.size, 0, none⟩) 24 24 W).mono ?_
 rintro e w3 ⟨rfl, hw3⟩
 have b3 : Below W.heap.size W w3 := by rw [hw3]; exact (Below.refl _ _).alloc (Nat.le_refl _) _
 have r3 : Row w3 W.heap.size 51 #[.slice (some ⟨w.heap.size, 0, none⟩) 24 24] := by rw [hw3]; exact Row.new _ _ _
 have F := hid (show ∃ g, Ending.returned (.func (.func 119) #[] #[.pointer (some ⟨W.heap.size, 0, none⟩)]) = .returned (.func (.func 119) #[] #[.pointer (some ⟨g, 0, none⟩)]) ∧ Row w3 g 51 #[.slice (some ⟨w.heap.size, 0, none⟩) 24 24] ∧ Segs w3 w3.heap.size (some ⟨w.heap.size, 0, none⟩) 24 s ∧ Below w.heap.size w w3 ∧ w.heap.size ≤ g from ⟨_, rfl, r3, s1.next b3, next_trans b0 b3, b0.size⟩)
 clear hw3 b3 r3 s1 b0
 go_wp2
 go_ret
 exact F.out
theorem run_loadRow {P : Program} {o : Oper} {a : Act} {w : World} (ty : TypeId) (x : Operand) (ho : o.op = .load ty x) (g : Nat) (hx : a.eval x = .pointer (some ⟨g, 0, none⟩)) (t : TypeId) (cs : Array Value) (fz : Nat × Nat) (d : TypeDesc) (hg : w.heap[g]? = some (.cells cs t fz)) (hu : P.underlying ty = some d) (hd : (match d with | .struct _ | .array _ _ => true | _ => false) = true) (hi : (P.info? ty).map (·.size) = some cs.size) :
  (execOp a.eval o).run P w = .ok (.value (.agg cs)) w := by
 unfold execOp
 simp [ho, hx, Instr.loadAt, Instr.sureAddr, Sem.run_bind, Result.andThen_ok, run_loadVar_row w g t ty cs fz d hg hu hd hi]
set_option maxHeartbeats 4000000 in
theorem reduced (a v u : Value) (d : Dat sSystem) (t : List Int) (x k : Nat) (w : World) (h : Rd w w.heap.size sSystem [a, v] d) (ht : Rd w w.heap.size sI [u] t) (hz : sz sSystem d ≤ 1048576) (hok : rightB d.1 d.2 t = true) (hx : x < t.length) (hk : k < d.2.length) (hred : redB d.1 (d.2.getD k ([], [])) t x = true) :
  Calls Tryz.prog 90 #[.agg #[a, v], u, .int .i64 (x : Int), .int .i64 (k : Int)] w (AnsStep w (stepO d.1 (d.2.getD k ([], [])) t x)) := by
 obtain ⟨oks, okt⟩ := right_parts hok
 have h0 := h
 have ht0 := ht
 have hk0 := hk
 obtain ⟨T, m, c, rfl, hT, hcT⟩ := rd_ints.1 ht
 have hm : m ≤ 60 := by have := (term_len okt).2; have := hT.1; omega
 obtain ⟨A, n, cs, V, q, cv, rfl, rfl, hs, hc, hcv, hq, hn, hq1, hrs, hsg, hE⟩ := rd_sys h hz
 rw [hq] at hk
 obtain ⟨b, off, l, rr, y, rfl, hb, ey, cl, cr, hry⟩ := rd_at hrs (Below.refl _ _) hq hk
 have hzy : sz sRule y ≤ 1048576 := by rw [← ey.out]; exact hE k hk
 have okr : ruleOkB d.1 y = true := by rw [← ey.out]; exact sys_rule oks (by rw [hq]; exact hk)
 obtain ⟨P, pn, pc, P', pn', pc', rfl, rfl, sP, kP, sP', kP', hpn, hpn'⟩ := rd_rule hry hzy
 rw [ey.out] at hred ⊢
 obtain ⟨W, hW, rA, bel⟩ := box1 w 65 #[.slice A n cs, .slice (some ⟨b, off, none⟩) q cv]
 have HW := hid hW
 have okR := (rule_parts okr).2.1
 have hpn60 : pn' ≤ 60 := by have := (term_len okR).2; have := sP'.1; omega
 have LM := hid (matchAt _ _ _ d t x k W (h0.next bel) (ht0.next bel) hz hok hx hk0)
 rw [ey.out] at LM
 obtain ⟨s, hs0⟩ := Option.isSome_iff_exists.1 (show (mst d.1 t y.1 x s0).isSome = true by rw [red_at okr okt hx]; exact hred)
 rw [hs0] at LM
 have HRB := hid (reduce_by okr okt hx hs0)
 have zA0 : w.heap.size < W.heap.size := rA.lt
 have SS := hid (show Seg w w.heap.size A n d.1 ∧ Seg w w.heap.size T m t ∧ Seg w w.heap.size P' pn' y.2 ∧ m ≤ c ∧ c ≤ 9223372036854775807 from ⟨hs, hT, sP', hcT.1, hcT.2.1⟩)
 have HVS := hid (fun z (hz : z ∈ y.2) => (term_mem okR hz).1)
 have HFL := hid (fun (hM : ∀ i, (givesL s i).length ≤ 60) => (show (fillL (givesL s) y.2).length ≤ 1048576 by
  have h1 := fill_bound (L := givesL s) (t := y.2) (m := pn') (k := pn') (fun i => Nat.le_trans (hM i) (by omega)) sP'.1 hpn60
  rw [List.take_of_length_le (by rw [sP'.1]; exact Nat.le_refl _)] at h1
  omega))
 have K2w : w.cell? ⟨b, off + k * 2 + 1, none⟩ = some (.slice P' pn' pc') := cr
 have i0 : (0 : Int) ≤ (k : Int) := by omega
 have i1 : (k : Int) < (q : Int) := by omega
 have x1 : -9223372036854775808 ≤ (x : Int) := by omega
 have x2 : (x : Int) ≤ 9223372036854775807 := by have := hT.1; omega
 have BEL := hid bel
 have RA := hid rA
 clear hW h h0 ht ht0 hk0 hs hc hcv hq hrs hsg hE hT hcT oks okt okr okR sP kP sP' kP' hry hzy hx hok hz ey rA bel cl cr hs0 hpn hpn' hq1 hred
 go_enter Tryz.func90, Tryz.ntmps90
 go_wp2_with fail
 rw [← HW.out]
 refine LM.out.mono ?_
 rintro e w1 ⟨rs, rfl, tab, hsz, bb⟩
 have tab : TabR w1 W.heap.size rs s := tab
 have hsz : ∀ j, (s.getD j []).length ≤ 60 := hsz
 have h24 := hid tab.1
 have one := hid tab.one
 have HGV := hid (fun i => (show (givesL s i).length ≤ 60 by
  unfold givesL
  split
  ·simp [vt]
  ·exact hsz i))
 have TAB := hid tab
 have HB1 := hid bb
 clear LM tab hsz bb
 go_upto_region 2 with (first
  | (refine rowAlloc rfl 138 rfl z24 zero_b ?_)
  | (refine rowStore rfl 138 _ _ rfl w1.heap.size rs z24 138 rfl rfl (heap_alloc_new w1 _) (by rw [h24.out]; exact size_b) (by rw [h24.out]; rfl) one.out ?_; rw [World.setRow_alloc_new]))
 obtain ⟨w2, hw2⟩ : ∃ w2, w2 = w1.alloc (.cells rs 138) := ⟨_, rfl⟩
 rw [← hw2]
 have b12 : Below w1.heap.size w1 w2 := by rw [hw2]; exact (Below.refl _ _).alloc (Nat.le_refl _) _
 have b2 := next_trans HB1.out b12
 have zA : w.heap.size < w2.heap.size := Nat.lt_of_lt_of_le zA0 b2.size
 have zB : b < w2.heap.size := by omega
 have zC : w1.heap.size < w2.heap.size := by rw [hw2]; simp
 have rA2 := RA.out.next b2
 have bel2 := BEL.out.trans (b2.mono BEL.out.size)
 have K0 : w2.cell? ⟨w.heap.size, 0, none⟩ = some (.slice A n cs) := rA2.cell 0
 have K1 : w2.cell? ⟨w.heap.size, 1, none⟩ = some (.slice (some ⟨b, off, none⟩) q cv) := rA2.cell 1
 have K2 : w2.cell? ⟨b, off + k * 2 + 1, none⟩ = some (.slice P' pn' pc') := (bel2.cell (p := ⟨b, off + k * 2 + 1, none⟩) hb).trans K2w
 have K3 : w2.heap[w1.heap.size]? = some (.cells rs 138 (0, 0)) := by rw [hw2]; exact heap_alloc_new w1 _
 have LK := hid (lookB rs s w2.drew ((TAB.out.below (b12.mono HB1.out.size)).more (Nat.le_trans HB1.out.size b12.size)))
 have LFILL := hid (fun g (w3 : World) rg sg (bx : Below w2.drew.heap.size w2.drew w3) => fill 119 #[.pointer (some ⟨g, 0, none⟩)] (enters_of Tryz.func119 (by kernel_rfl) rfl) P' pn' pc' y.2 (givesL s) w3 (lookSubst g (some ⟨w2.heap.size, 0, none⟩) 24 24 s w3 rg sg (by omega)) (SS.out.2.2.1.next (bel2.drew.trans (bx.mono bel2.size))) hpn60 HVS.out (fun i => Nat.le_trans (HGV.out i) (by omega)))
 have LPUT := hid (fun O on oc (w4 : World) (bx : Below w2.drew.heap.size w2.drew w4) {lo : Nat} (oO : Own w4 lo (.slice O on oc) (fillL (givesL s) y.2)) => put.implPutAt A T O n cs m c on oc d.1 t (x : Int) (fillL (givesL s) y.2) w4 (SS.out.1.next (bel2.drew.trans (bx.mono bel2.size))) (SS.out.2.1.next (bel2.drew.trans (bx.mono bel2.size))) (Own.seg oO) hn (by omega) (by rw [Own.len oO]; exact HFL.out HGV.out) x1 x2 (own_cap oO) SS.out.2.2.2.1 SS.out.2.2.2.2)
 have BEL2 := hid bel2
 clear hw2 b12 b2 rA2 bel2 TAB BEL RA zA0
 refine AnyT.start (S := (fun w' => w'.cell? ⟨w.heap.size, 0, none⟩ = some (.slice A n cs) ∧ w'.cell? ⟨w.heap.size, 1, none⟩ = some (.slice (some ⟨b, off, none⟩) q cv) ∧ w'.cell? ⟨b, off + k * 2 + 1, none⟩ = some (.slice P' pn' pc') ∧ w'.heap[w1.heap.size]? = some (.cells rs 138 (0, 0)))) (fun _ => false) (by kernel_rfl) ⟨K0, K1, K2, K3⟩ (fun hHeld => ?_)
 refine AnyT.takeA (i := 0) (v := ?_) rfl (by kernel_rfl) (by kernel_rfl) (by kernel_rfl) (fun _ _ _ h => h) (Or.inl ⟨by rfl, ?_⟩) ?_
 rotate_left 1
 ·(intro w0 _; go_simp; try with_reducible rfl)
 try simp only [Act.put, setIfInBounds_toArray, set_cons_zero, set_cons_succ, getElem_toArray, getElem_cons_zero, getElem_cons_succ]
 refine AnyT.take (i := 1) (v := ?_) rfl (by kernel_rfl) (by kernel_rfl) (by kernel_rfl) (by kernel_rfl) (fun _ _ _ h => h) (Or.inl ⟨by rfl, ?_⟩) (by assumption) ?_
 rotate_left 1
 ·(intro w0 hSw; (try dsimp only at hSw); go_simp; try with_reducible rfl)
 try simp only [Act.put, setIfInBounds_toArray, set_cons_zero, set_cons_succ, getElem_toArray, getElem_cons_zero, getElem_cons_succ]
 refine AnyT.takeA (i := 2) (v := ?_) rfl (by kernel_rfl) (by kernel_rfl) (by kernel_rfl) (fun _ _ _ h => h) (Or.inl ⟨by rfl, ?_⟩) ?_
 rotate_left 1
 ·(intro w0 _; go_simp; try with_reducible rfl)
 try simp only [Act.put, setIfInBounds_toArray, set_cons_zero, set_cons_succ, getElem_toArray, getElem_cons_zero, getElem_cons_succ]
 refine AnyT.takeA (i := 3) (v := ?_) rfl (by kernel_rfl) (by kernel_rfl) (by kernel_rfl) (fun _ _ _ h => h) (Or.inl ⟨by rfl, ?_⟩) ?_
 rotate_left 1
 ·(intro w0 _; go_simp; try with_reducible rfl)
 try simp only [Act.put, setIfInBounds_toArray, set_cons_zero, set_cons_succ, getElem_toArray, getElem_cons_zero, getElem_cons_succ]
 refine AnyT.take (i := 4) (v := .agg rs) rfl (by kernel_rfl) (by kernel_rfl) (by kernel_rfl) (by kernel_rfl) (fun _ _ _ h => h) (Or.inl ⟨by rfl, ?_⟩) (by assumption) ?_
 ·(intro w0 hSw; exact run_loadRow 138 _ rfl w1.heap.size rfl 138 rs (0, 0) _ hSw.2.2.2 Tryz.underlying138 rfl (by rw [h24.out]; exact size_b))
 try simp only [Act.put, setIfInBounds_toArray, set_cons_zero, set_cons_succ, getElem_toArray, getElem_cons_zero, getElem_cons_succ]
 refine AnyT.takeA (i := 6) (v := ?_) rfl (by kernel_rfl) (by kernel_rfl) (by kernel_rfl) (fun _ _ _ h => h) (Or.inl ⟨by rfl, ?_⟩) ?_
 rotate_left 1
 ·(intro w0 _; go_simp; try with_reducible rfl)
 try simp only [Act.put, setIfInBounds_toArray, set_cons_zero, set_cons_succ, getElem_toArray, getElem_cons_zero, getElem_cons_succ]
 refine AnyT.take (i := 7) (v := ?_) rfl (by kernel_rfl) (by kernel_rfl) (by kernel_rfl) (by kernel_rfl) (fun _ _ _ h => h) (Or.inl ⟨by rfl, ?_⟩) (by assumption) ?_
 rotate_left 1
 ·(intro w0 hSw; (try dsimp only at hSw); go_simp; try with_reducible rfl)
 try simp only [Act.put, setIfInBounds_toArray, set_cons_zero, set_cons_succ, getElem_toArray, getElem_cons_zero, getElem_cons_succ]
 refine AnyT.takeA (i := 8) (v := ?_) rfl (by kernel_rfl) (by kernel_rfl) (by kernel_rfl) (fun _ _ _ h => h) (Or.inl ⟨by rfl, ?_⟩) ?_
 rotate_left 1
 ·(intro w0 _; go_simp; try with_reducible rfl)
 try simp only [Act.put, setIfInBounds_toArray, set_cons_zero, set_cons_succ, getElem_toArray, getElem_cons_zero, getElem_cons_succ]
 refine AnyT.takeA (i := 9) (v := ?_) rfl (by kernel_rfl) (by kernel_rfl) (by kernel_rfl) (fun _ _ _ h => h) (Or.inl ⟨by rfl, ?_⟩) ?_
 rotate_left 1
 ·(intro w0 _; go_simp; try with_reducible rfl)
 try simp only [Act.put, setIfInBounds_toArray, set_cons_zero, set_cons_succ, getElem_toArray, getElem_cons_zero, getElem_cons_succ]
 refine AnyT.takeA (i := 10) (v := ?_) rfl (by kernel_rfl) (by kernel_rfl) (by kernel_rfl) (fun _ _ _ h => h) (Or.inl ⟨by rfl, ?_⟩) ?_
 rotate_left 1
 ·(intro w0 _; go_simp; try with_reducible rfl)
 try simp only [Act.put, setIfInBounds_toArray, set_cons_zero, set_cons_succ, getElem_toArray, getElem_cons_zero, getElem_cons_succ]
 refine AnyT.take (i := 11) (v := ?_) rfl (by kernel_rfl) (by kernel_rfl) (by kernel_rfl) (by kernel_rfl) (fun _ _ _ h => h) (Or.inl ⟨by rfl, ?_⟩) (by assumption) ?_
 rotate_left 1
 ·(intro w0 hSw; (try dsimp only at hSw); go_simp; try with_reducible rfl)
 try simp only [Act.put, setIfInBounds_toArray, set_cons_zero, set_cons_succ, getElem_toArray, getElem_cons_zero, getElem_cons_succ]
 refine AnyT.call (i := 5) (by kernel_rfl) rfl (fun K hK => ?_)
 try simp only [Act.put, setIfInBounds_toArray, set_cons_zero, set_cons_succ, getElem_toArray, getElem_cons_zero, getElem_cons_succ]
 rw [if_pos (by rfl)]
 go_simp
 (go_at_call 133; refine LK.out.mono ?_; rintro e w3 ⟨g, rfl, rg, sg, bx, zg⟩; have B1 := bx; have K01 : w3.cell? ⟨w.heap.size, 0, none⟩ = some (.slice A n cs) := (B1.cell (p := ⟨w.heap.size, 0, none⟩) zA).trans K0; have K11 : w3.cell? ⟨w.heap.size, 1, none⟩ = some (.slice (some ⟨b, off, none⟩) q cv) := (B1.cell (p := ⟨w.heap.size, 1, none⟩) zA).trans K1; have K21 : w3.cell? ⟨b, off + k * 2 + 1, none⟩ = some (.slice P' pn' pc') := (B1.cell (p := ⟨b, off + k * 2 + 1, none⟩) zB).trans K2; have K31 : w3.heap[w1.heap.size]? = some (.cells rs 138 (0, 0)) := (B1.block _ zC).trans K3; have LFI := hid (LFILL.out g w3 rg sg B1); go_wp2_with fail)
 refine hK.out _ _ (fun _ _ => ?_) (fun hKeep => ?_)
 ·exact ⟨K01, K11, K21, K31⟩
 replace hHeld := hKeep (by first | rfl | trivial) hHeld
 clear hK K hKeep
 try simp only [Act.put, setIfInBounds_toArray, set_cons_zero, set_cons_succ, getElem_toArray, getElem_cons_zero, getElem_cons_succ]
 refine AnyT.call (i := 12) (by kernel_rfl) rfl (fun K hK => ?_)
 try simp only [Act.put, setIfInBounds_toArray, set_cons_zero, set_cons_succ, getElem_toArray, getElem_cons_zero, getElem_cons_succ]
 rw [if_pos (by rfl)]
 go_simp
 (go_at_call 71; refine LFI.out.mono ?_; rintro e w4 ⟨O, on, oc, rfl, oO, by4⟩; have B2 := next_trans B1 by4; have K02 : w4.cell? ⟨w.heap.size, 0, none⟩ = some (.slice A n cs) := (B2.cell (p := ⟨w.heap.size, 0, none⟩) zA).trans K0; have K12 : w4.cell? ⟨w.heap.size, 1, none⟩ = some (.slice (some ⟨b, off, none⟩) q cv) := (B2.cell (p := ⟨w.heap.size, 1, none⟩) zA).trans K1; have K22 : w4.cell? ⟨b, off + k * 2 + 1, none⟩ = some (.slice P' pn' pc') := (B2.cell (p := ⟨b, off + k * 2 + 1, none⟩) zB).trans K2; have K32 : w4.heap[w1.heap.size]? = some (.cells rs 138 (0, 0)) := (B2.block _ zC).trans K3; have LPU := hid (LPUT.out O on oc w4 B2 oO); go_wp2_with fail)
 refine hK.out _ _ (fun _ _ => ?_) (fun hKeep => ?_)
 ·exact ⟨K02, K12, K22, K32⟩
 replace hHeld := hKeep (by first | rfl | trivial) hHeld
 clear hK K hKeep
 try simp only [Act.put, setIfInBounds_toArray, set_cons_zero, set_cons_succ, getElem_toArray, getElem_cons_zero, getElem_cons_succ]
 refine AnyT.call (i := 13) (by kernel_rfl) rfl (fun K hK => ?_)
 try simp only [Act.put, setIfInBounds_toArray, set_cons_zero, set_cons_succ, getElem_toArray, getElem_cons_zero, getElem_cons_succ]
 rw [if_pos (by rfl)]
 go_simp
 (go_at_call 56; refine LPU.out.mono ?_; rintro e w5 ⟨X, xn, xc, rfl, oX, by5⟩; have B3 := next_trans B2 by5; have K03 : w5.cell? ⟨w.heap.size, 0, none⟩ = some (.slice A n cs) := (B3.cell (p := ⟨w.heap.size, 0, none⟩) zA).trans K0; have K13 : w5.cell? ⟨w.heap.size, 1, none⟩ = some (.slice (some ⟨b, off, none⟩) q cv) := (B3.cell (p := ⟨w.heap.size, 1, none⟩) zA).trans K1; have K23 : w5.cell? ⟨b, off + k * 2 + 1, none⟩ = some (.slice P' pn' pc') := (B3.cell (p := ⟨b, off + k * 2 + 1, none⟩) zB).trans K2; have K33 : w5.heap[w1.heap.size]? = some (.cells rs 138 (0, 0)) := (B3.block _ zC).trans K3; go_wp2_with fail)
 refine hK.out _ _ (fun _ _ => ?_) (fun hKeep => ?_)
 ·exact ⟨K03, K13, K23, K33⟩
 replace hHeld := hKeep (by first | rfl | trivial) hHeld
 clear hK K hKeep
 try simp only [Act.put, setIfInBounds_toArray, set_cons_zero, set_cons_succ, getElem_toArray, getElem_cons_zero, getElem_cons_succ]
 refine AnyT.takeA (i := 14) (v := ?_) rfl (by kernel_rfl) (by kernel_rfl) (by kernel_rfl) (fun _ _ _ h => h) (Or.inl ⟨by rfl, ?_⟩) ?_
 rotate_left 1
 ·(intro w0 _; go_simp; try with_reducible rfl)
 try simp only [Act.put, setIfInBounds_toArray, set_cons_zero, set_cons_succ, getElem_toArray, getElem_cons_zero, getElem_cons_succ]
 refine AnyT.takeA (i := 15) (v := ?_) rfl (by kernel_rfl) (by kernel_rfl) (by kernel_rfl) (fun _ _ _ h => h) (Or.inl ⟨by rfl, ?_⟩) ?_
 rotate_left 1
 ·(intro w0 _; go_simp; try with_reducible rfl)
 try simp only [Act.put, setIfInBounds_toArray, set_cons_zero, set_cons_succ, getElem_toArray, getElem_cons_zero, getElem_cons_succ]
 refine AnyT.takeA (i := 16) (v := ?_) rfl (by kernel_rfl) (by kernel_rfl) (by kernel_rfl) (fun _ _ _ h => h) (Or.inl ⟨by rfl, ?_⟩) ?_
 rotate_left 1
 ·(intro w0 _; go_simp; try with_reducible rfl)
 try simp only [Act.put, setIfInBounds_toArray, set_cons_zero, set_cons_succ, getElem_toArray, getElem_cons_zero, getElem_cons_succ]
 refine AnyT.takeA (i := 17) (v := ?_) rfl (by kernel_rfl) (by kernel_rfl) (by kernel_rfl) (fun _ _ _ h => h) (Or.inl ⟨by rfl, ?_⟩) ?_
 rotate_left 1
 ·(intro w0 _; go_simp; try with_reducible rfl)
 try simp only [Act.put, setIfInBounds_toArray, set_cons_zero, set_cons_succ, getElem_toArray, getElem_cons_zero, getElem_cons_succ]
 refine AnyT.done (by kernel_rfl) ?_ _
 have F : AnsStep w (stepO d.1 y t x) (.returned (.tuple #[.slice X xn xc, .bool (put.putB d.1 t (fillL (givesL s) y.2) (x : Int))])) w5 := ⟨X, xn, xc, by rw [HRB.out.2], by rw [HRB.out.1]; exact Own.lower oX (Nat.le_trans BEL2.out.size B2.size), BEL2.out.drew.trans (B3.mono BEL2.out.size)⟩
 have HF := hid F
 clear F oX by5 B1 B2 B3 LK LFILL LPUT LFI LPU oO by4
 generalize put.putB d.1 t (fillL (givesL s) y.2) (x : Int) = bz at *
 go_wp2
 go_ret2
 exact HF.out
end stepImpl
end
section
open Go.Lib (hid)
namespace stepImpl
open Go.RowKit base ints sig term termOk endAt inside marks app sym sub segs segsHelp kinds termFacts matchMath whole takeMath take extended varsOf shape kindsR ruleMath ruleSpec ruleImpl stepMath walkMath stepSpec
set_option maxRecDepth 100000
theorem right_of {sg : List Int} {rs : List Rl} {t : List Int} (h : sysOkB sg rs = true) : rightB sg rs t = termOkB sg t := by unfold rightB; rw [h]; rfl
theorem there_eq {sg : List Int} {rs : List Rl} {t : List Int} {a r : Int} (h : sysOkB sg rs = true) : thereR sg rs t a r = (thereB sg t a && walkMath.inB r rs.length) := by
 unfold thereR thereB walkMath.inB endAt.inB
 rw [right_of h, Bool.and_assoc]
theorem hasRule (a : Value) (V : Option Addr) (q cv : Nat) (r : Int) (w : World) (hq : q ≤ 1048576) :
  Calls Tryz.prog 157 #[.agg #[a, .slice V q cv], .int .i64 r] w (AnsB w (walkMath.inB r q)) := by
 obtain ⟨W, hW, rA, bel⟩ := box1 w 65 #[a, .slice V q cv]
 have HW := hid hW
 have R := hid rA
 have FF := hid (fun (b : Bool) (h : walkMath.inB r q = b) => (ansB (b := walkMath.inB r q) (a := b) h.symm bel))
 clear hW rA bel
 by_cases h0 : r < 0
 ·have F := hid (FF.out false (by unfold walkMath.inB; exact decide_eq_false (by omega)))
  go_enter Tryz.func157, Tryz.ntmps157
  go_wp2_with fail
  try rw [← HW.out]
  go_wp2
  go_ret
  exact F.out
 ·by_cases h1 : r < (q : Int)
  ·have F := hid (FF.out true (by unfold walkMath.inB; exact decide_eq_true (by omega)))
   have h0' : (0 : Int) ≤ r := by omega
   have K1 : (w.alloc (.cells #[a, .slice V q cv] 65)).cell? ⟨w.heap.size, 1, none⟩ = some (.slice V q cv) := by rw [← HW.out]; exact R.out.cell 1
   go_enter Tryz.func157, Tryz.ntmps157
   go_wp2
   rw [← HW.out]
   go_ret
   exact F.out
  ·have F := hid (FF.out false (by unfold walkMath.inB; exact decide_eq_false (by omega)))
   have h0' : (0 : Int) ≤ r := by omega
   have K1 : (w.alloc (.cells #[a, .slice V q cv] 65)).cell? ⟨w.heap.size, 1, none⟩ = some (.slice V q cv) := by rw [← HW.out]; exact R.out.cell 1
   go_enter Tryz.func157, Tryz.ntmps157
   go_wp2
   rw [← HW.out]
   go_ret
   exact F.out
set_option maxHeartbeats 4000000 in
theorem hasRedex (a v u : Value) (d : Dat sSystem) (t : List Int) (x r : Int) (w : World) (h : Rd w w.heap.size sSystem [a, v] d) (ht : Rd w w.heap.size sI [u] t) (hz : sz sSystem d ≤ 1048576) (hz' : sz sI t ≤ 1048576) (oks : sysOkB d.1 d.2 = true) :
  Calls Tryz.prog 132 #[.agg #[a, v], u, .int .i64 x, .int .i64 r] w (AnsB w (redexB d.1 d.2 t x r)) := by
 have h0 := h
 have ht0 := ht
 obtain ⟨T, m, c, rfl, hT, hcT⟩ := rd_ints.1 ht
 have hm := len_ints hT.1 hz'
 obtain ⟨A, n, cs, V, q, cv, rfl, rfl, hs, hc, hcv, hq, hn, hq1, hrs, hsg, hE⟩ := rd_sys h hz
 obtain ⟨W, hW, rA, bel⟩ := box1 w 65 #[.slice A n cs, .slice V q cv]
 have HW := hid hW
 have LP := hid (placeIn A T n cs m c d.1 t x W (hs.next bel) (hT.next bel) hn hm)
 have HQ := hid hq
 have LHR := hid (fun (w1 : World) => hasRule (.slice A n cs) V q cv r w1 hq1)
 have LMA := hid (fun (w1 : World) (bb : Below w.heap.size w w1) (x k : Nat) hok hx hk => matchAt _ _ _ d t x k w1 (h0.next bb) (ht0.next bb) hz hok hx hk)
 have OKS := hid oks
 clear hW h h0 ht ht0 hz hz' hs hc hcv hq hrs hsg hE hT hcT oks
 obtain ⟨bp, hbp⟩ : ∃ bp, thereB d.1 t x = bp := ⟨_, rfl⟩
 have HP := hid hbp
 have HTH := hid (show thereR d.1 d.2 t x r = (bp && walkMath.inB r d.2.length) by rw [there_eq OKS.out, hbp])
 rw [hbp] at LP
 clear hbp
 cases bp with
 | false =>
  go_enter Tryz.func132, Tryz.ntmps132
  go_wp2_with fail
  rw [← HW.out]
  refine LP.out.mono ?_
  rintro e w1 ⟨rfl, bb⟩
  have F := hid (ansB (b := redexB d.1 d.2 t x r) (a := false) (by rw [redex_no (by rw [HTH.out]; rfl)]) (next_trans bel bb))
  clear bb bel rA LMA
  go_wp2
  go_ret
  exact F.out
 | true =>
  go_enter Tryz.func132, Tryz.ntmps132
  go_wp2_with fail
  rw [← HW.out]
  refine LP.out.mono ?_
  rintro e w1 ⟨rfl, bb⟩
  replace rA := rA.next bb
  replace bel := next_trans bel bb
  have K0 : w1.cell? ⟨w.heap.size, 0, none⟩ = some (.slice A n cs) := rA.cell 0
  have K1 : w1.cell? ⟨w.heap.size, 1, none⟩ = some (.slice V q cv) := rA.cell 1
  have LH1 := hid (LHR.out w1)
  clear bb LP LHR
  obtain ⟨bi, hbi⟩ : ∃ bi, walkMath.inB r q = bi := ⟨_, rfl⟩
  have HBI := hid hbi
  rw [hbi] at LH1
  clear hbi
  go_wp2_with fail
  refine LH1.out.mono ?_
  rintro e w2 ⟨rfl, bb⟩
  cases bi with
  | false =>
   have F := hid (ansB (b := redexB d.1 d.2 t x r) (a := false) (by rw [redex_no (by rw [HTH.out, HQ.out, HBI.out]; rfl)]) (next_trans bel bb))
   clear bb bel rA LMA K0 K1 LH1
   go_wp2
   go_ret
   exact F.out
  | true =>
   have hkk : 0 ≤ r ∧ r < (q : Int) := of_decide_eq_true HBI.out
   obtain ⟨k, rfl⟩ := Int.eq_ofNat_of_zero_le hkk.1
   have hkq : k < q := by omega
   have hx := endAt.there_parts HP.out
   obtain ⟨i, rfl⟩ := Int.eq_ofNat_of_zero_le hx.2.1
   have hix : i < t.length := by omega
   have okR : rightB d.1 d.2 t = true := by rw [right_of OKS.out]; exact hx.1
   have hkl : k < d.2.length := by rw [HQ.out]; exact hkq
   have HRE := hid (show redexB d.1 d.2 t (i : Int) (k : Int) = (mst d.1 t (d.2.getD k ([], [])).1 i s0).isSome by
    rw [redex_yes (by rw [HTH.out]; unfold walkMath.inB; rw [decide_eq_true (by omega)]; rfl), red_at (sys_rule OKS.out hkl) hx.1 hix]
    unfold rl
    rw [Int.toNat_natCast, Int.toNat_natCast])
   replace rA := rA.next bb
   replace bel := next_trans bel bb
   have LM1 := hid (LMA.out w2 bel i k okR hix hkl)
   clear K0 K1
   have K0 : w2.cell? ⟨w.heap.size, 0, none⟩ = some (.slice A n cs) := rA.cell 0
   have K1 : w2.cell? ⟨w.heap.size, 1, none⟩ = some (.slice V q cv) := rA.cell 1
   clear hx okR LMA HTH hkk hix hkl bb rA LH1
   obtain ⟨R, hR⟩ : ∃ R, mst d.1 t (d.2.getD k ([], [])).1 i s0 = R := ⟨_, rfl⟩
   rw [hR] at LM1 HRE
   clear hR
   go_wp2_with fail
   refine LM1.out.mono ?_
   rintro e w3 ⟨rs, rfl, tab, hsz, bb⟩
   have one := hid tab.one
   have h24 := hid tab.1
   obtain ⟨bo, hbo⟩ : ∃ bo, R.isSome = bo := ⟨_, rfl⟩
   rw [hbo]
   have F := hid (show AnsB w (redexB d.1 d.2 t (i : Int) (k : Int)) (.returned (.bool bo)) (w3.alloc (.cells rs 138)) from ⟨by rw [HRE.out, hbo], (next_trans bel bb).alloc (next_trans bel bb).size _⟩)
   clear tab hsz bb bel K0 K1 hbo LM1 HRE
   go_wp2_with (first
    | (refine rowAlloc rfl 138 rfl z24 zero_b ?_)
    | (refine rowStore rfl 138 _ _ rfl w3.heap.size rs z24 138 rfl rfl (heap_alloc_new w3 _) (by rw [h24.out]; exact size_b) (by rw [h24.out]; rfl) one.out ?_; rw [World.setRow_alloc_new]))
   go_ret
   exact F.out
set_option maxHeartbeats 4000000 in
theorem stepAt (a v u : Value) (d : Dat sSystem) (t : List Int) (x r : Int) (w : World) (h : Rd w w.heap.size sSystem [a, v] d) (ht : Rd w w.heap.size sI [u] t) (hz : sz sSystem d ≤ 1048576) (hz' : sz sI t ≤ 1048576) (oks : sysOkB d.1 d.2 = true) :
  Calls Tryz.prog 141 #[.agg #[a, v], u, .int .i64 x, .int .i64 r] w (AnsStep w (stepAtO d.1 d.2 t x r)) := by
 obtain ⟨W, hW, rA, bel⟩ := box1 w 65 #[a, v]
 have HW := hid hW
 have LH := hid (hasRedex a v u d t x r W (h.next bel) (ht.next bel) hz hz' oks)
 have LR := hid (fun (w1 : World) (bb : Below w.heap.size w w1) (x k : Nat) hok hx hk hred => reduced a v u d t x k w1 (h.next bb) (ht.next bb) hz hok hx hk hred)
 clear hW h ht hz hz'
 obtain ⟨bp, hbp⟩ : ∃ bp, redexB d.1 d.2 t x r = bp := ⟨_, rfl⟩
 rw [hbp] at LH
 cases bp with
 | false =>
  have HN := hid (show stepAtO d.1 d.2 t x r = none by
   cases e : stepAtO d.1 d.2 t x r with
   | none => rfl
   | some y => rw [stepAt_redex e] at hbp; cases hbp)
  clear hbp
  go_enter Tryz.func141, Tryz.ntmps141
  go_wp2_with fail
  rw [← HW.out]
  refine LH.out.mono ?_
  rintro e w1 ⟨rfl, bb⟩
  have F := hid (ansStep_nil (o := stepAtO d.1 d.2 t x r) HN.out (next_trans bel bb))
  clear bb bel rA LR
  go_wp2
  go_ret2
  exact F.out
 | true =>
  have hth : thereR d.1 d.2 t x r = true := by
   unfold redexB at hbp
   rw [Bool.and_eq_true] at hbp
   exact hbp.1
  obtain ⟨p1, p2, p3, p4⟩ := walkMath.there_parts hth
  obtain ⟨i, rfl⟩ := Int.eq_ofNat_of_zero_le p3.1
  obtain ⟨k, rfl⟩ := Int.eq_ofNat_of_zero_le p4.1
  rw [redex_yes hth] at hbp
  unfold rl at hbp
  rw [Int.toNat_natCast, Int.toNat_natCast] at hbp
  have LR1 := hid (fun w1 bb => LR.out w1 bb i k (right_yes p1 p2) (by omega) (by omega) hbp)
  have HE := hid (show stepAtO d.1 d.2 t (i : Int) (k : Int) = stepO d.1 (d.2.getD k ([], [])) t i by rw [at_yes hth]; unfold rl; rw [Int.toNat_natCast, Int.toNat_natCast])
  clear hth p1 p2 p3 p4 hbp LR oks
  go_enter Tryz.func141, Tryz.ntmps141
  go_wp2_with fail
  rw [← HW.out]
  refine LH.out.mono ?_
  rintro e w1 ⟨rfl, bb⟩
  replace rA := rA.next bb
  replace bel := next_trans bel bb
  have K0 : w1.cell? ⟨w.heap.size, 0, none⟩ = some a := rA.cell 0
  have K1 : w1.cell? ⟨w.heap.size, 1, none⟩ = some v := rA.cell 1
  have LR2 := hid (LR1.out w1 bel)
  clear bb LH LR1 rA
  go_wp2_with fail
  refine LR2.out.mono ?_
  rintro e w2 ⟨X, xn, xc, rfl, oX, bb⟩
  have F : AnsStep w (stepAtO d.1 d.2 t (i : Int) (k : Int)) (.returned (.tuple #[.slice X xn xc, .bool (stepO d.1 (d.2.getD k ([], [])) t i).isSome])) w2 := ⟨X, xn, xc, by rw [HE.out], by rw [HE.out]; exact Own.lower oX bel.size, next_trans bel bb⟩
  have HF := hid F
  clear F oX bb bel K0 K1 LR2
  generalize (stepO d.1 (d.2.getD k ([], [])) t i).isSome = bz at *
  go_wp2
  go_ret2
  exact HF.out
end stepImpl
end
section
namespace stepsMath
open sig term termOk termFacts ruleMath stepMath walkMath
section
variable {sg : List Int} {rs : List Rl} {t : List Int} {i k : Nat}
end
def rdN (sg : List Int) (rs : List Rl) (t : List Int) (i k : Nat) : Nat := ((List.range i).map fun a => rs.countP fun x => redB sg x t a).sum + (rs.take k).countP fun x => redB sg x t i
section
variable {sg : List Int} {rs : List Rl} {t : List Int} {i k : Nat}
theorem rd_zero : rdN sg rs t 0 0 = 0 := rfl
theorem rd_row : rdN sg rs t i rs.length = rdN sg rs t (i + 1) 0 := by
 unfold rdN
 rw [List.take_of_length_le (Nat.le_refl _), List.range_succ, List.map_append, List.sum_append]
 simp
theorem rd_step (h : k < rs.length) : rdN sg rs t i (k + 1) = rdN sg rs t i k + if redB sg (rs.getD k ([], [])) t i = true then 1 else 0 := by
 unfold rdN
 rw [List.take_succ_eq_append_getElem h, List.countP_append]
 have : rs.getD k ([], []) = rs[k] := by simp [List.getD, h]
 rw [this, List.countP_cons, List.countP_nil]
 omega
theorem rd_le : rdN sg rs t i k ≤ i * rs.length + k := by
 unfold rdN
 have h1 : (rs.take k).countP (fun x => redB sg x t i) ≤ k := Nat.le_trans (List.countP_le_length) (by rw [List.length_take]; omega)
 have h2 : ∀ i : Nat, ((List.range i).map fun a => rs.countP fun x => redB sg x t a).sum ≤ i * rs.length := fun i => by
  induction i with
  | zero => simp
  | succ i ih =>
   rw [List.range_succ, List.map_append, List.sum_append, Nat.add_mul]
   have : rs.countP (fun x => redB sg x t i) ≤ rs.length := List.countP_le_length
   simp only [List.map_cons, List.map_nil, List.sum_cons, List.sum_nil]
   omega
 have := h2 i
 omega
theorem rd_none : (rdN sg rs t t.length 0 = 0) ↔ ((List.range t.length).all fun a => rs.all fun x => !redB sg x t a) = true := by
 unfold rdN
 rw [List.take_zero, List.countP_nil, Nat.add_zero, List.sum_eq_zero_iff_forall_eq_nat]
 constructor
 ·intro h
  rw [List.all_eq_true]
  intro a ha
  rw [List.all_eq_true]
  intro x hx
  have h1 := h _ (List.mem_map.2 ⟨a, ha, rfl⟩)
  rw [List.countP_eq_zero] at h1
  have := h1 x hx
  simpa using this
 ·intro h y hy
  obtain ⟨a, ha, rfl⟩ := List.mem_map.1 hy
  rw [List.all_eq_true] at h
  have h1 := h a ha
  rw [List.all_eq_true] at h1
  rw [List.countP_eq_zero]
  intro x hx
  have := h1 x hx
  simpa using this
theorem normal_eq (h : rightB sg rs t = true) : normalB sg rs t = decide (rdN sg rs t t.length 0 = 0) := by
 unfold normalB
 rw [h, Bool.true_and, Bool.eq_iff_iff, decide_eq_true_iff, rd_none]
end
end stepsMath
end
end Go.Proofs.YtmoidijngeijkaaGreat
