/-
  MERGED: my texts StepSpec, WalkSpec, StepsMath, OwnL, StepSpecB, WalkSpecB, WalkSpecC, WalkSpecD, WalkX2, KindsT, Und, UndX, one behind the other, as they are. By an AI agent.
-/
import Derived.Test.YtpcnjcgglonifaaGreatMFnWalksGoOn5
import Derived.Deep.RegionHeld3
import Derived.Deep.DeepCutAuto
section
namespace Go.Proofs.YtpcnjcgglonifaaGreat.stepSpec
open Go.RowKit base ints sig term termOk endAt endOf marks app sym sub segs segsHelp kinds termFacts termMath posMath plainMath plainFacts plain gives fillMath shifted matchMath matchSpec putMath varsOf shape kindsR kindsW ruleMath ruleSpec stepMath walkMath
set_option maxRecDepth 100000

theorem right_sys {sg : List Int} {rs : List Rl} {t : List Int} (h : sysOkB sg rs = false) : rightB sg rs t = false := by unfold rightB; rw [h]; rfl
theorem right_term {sg : List Int} {rs : List Rl} {t : List Int} (h : termOkB sg t = false) : rightB sg rs t = false := by unfold rightB; rw [h, Bool.and_false]
theorem right_yes {sg : List Int} {rs : List Rl} {t : List Int} (h : sysOkB sg rs = true) (h' : termOkB sg t = true) : rightB sg rs t = true := by unfold rightB; rw [h, h']; rfl
theorem right_parts {sg : List Int} {rs : List Rl} {t : List Int} (h : rightB sg rs t = true) : sysOkB sg rs = true ∧ termOkB sg t = true := by unfold rightB at h; rw [Bool.and_eq_true] at h; exact h
theorem there_r {sg : List Int} {rs : List Rl} {t : List Int} {a r : Int} (h : rightB sg rs t = false) : thereR sg rs t a r = false := by unfold thereR; rw [h]; rfl
theorem there_a {sg : List Int} {rs : List Rl} {t : List Int} {a r : Int} {m : Nat} (hm : t.length = m) (h : decide (0 ≤ a ∧ a < (m : Int)) = false) : thereR sg rs t a r = false := by
  unfold thereR walkMath.inB
  rw [hm, h, Bool.false_and, Bool.and_false]
theorem there_x {sg : List Int} {rs : List Rl} {t : List Int} {a r : Int} (h : ¬ (0 ≤ r ∧ r < (rs.length : Int))) : thereR sg rs t a r = false := by
  unfold thereR walkMath.inB
  rw [decide_eq_false h, Bool.and_false, Bool.and_false]
theorem redex_no {sg : List Int} {rs : List Rl} {t : List Int} {a r : Int} (h : thereR sg rs t a r = false) : redexB sg rs t a r = false := by unfold redexB; rw [h]; rfl
theorem redex_yes {sg : List Int} {rs : List Rl} {t : List Int} {a r : Int} (h : thereR sg rs t a r = true) : redexB sg rs t a r = redB sg (rl rs r) t a.toNat := by unfold redexB; rw [h]; rfl
theorem at_no {sg : List Int} {rs : List Rl} {t : List Int} {a r : Int} (h : thereR sg rs t a r = false) : stepAtO sg rs t a r = none := by unfold stepAtO; rw [if_neg (by rw [h]; simp)]
theorem at_yes {sg : List Int} {rs : List Rl} {t : List Int} {a r : Int} (h : thereR sg rs t a r = true) : stepAtO sg rs t a r = stepO sg (rl rs r) t a.toNat := by unfold stepAtO; rw [if_pos h]
theorem sys_rule {sg : List Int} {rs : List Rl} (h : sysOkB sg rs = true) {r : Nat} (hr : r < rs.length) : ruleOkB sg (rs.getD r ([], [])) = true := by
  have := rl_ok (r := (r : Int)) h (by omega)
  unfold rl at this
  simpa using this
theorem step_len {sg : List Int} {x : Rl} {t v : List Int} {a : Nat} (h : stepO sg x t a = some v) : v.length ≤ 60 := by
  unfold stepO at h
  split at h
  · cases h
  · split at h
    · rename_i hf
      injection h with h
      subst h
      exact hf.2
    · cases h
def AnsStep (w : World) (o : Option (List Int)) (e : Ending) (w' : World) : Prop := AnsPairO w (o.getD []) o.isSome e w'
theorem ansStep_no {w w' : World} {o : Option (List Int)} (h : o = none) (hb : Below w.heap.size w w') : AnsStep w o (.returned (.tuple #[.slice (some ⟨w'.heap.size, 0, none⟩) 0 0, .bool false])) (w'.alloc (.cells #[] 2)) :=
  ⟨_, 0, 0, by rw [h]; rfl, by rw [h]; exact own_empty w' w.heap.size hb.size, hb.alloc hb.size _⟩
theorem ansStep_nil {w w' : World} {o : Option (List Int)} (h : o = none) (hb : Below w.heap.size w w') : AnsStep w o (.returned (.tuple #[.slice none 0 0, .bool false])) w' :=
  ⟨_, 0, 0, by rw [h]; rfl, by rw [h]; exact Own.nil _ _, hb⟩

set_option maxHeartbeats 2000000 in
theorem l7Right (a v : Value) (d : Dat sSystem) (T : Option Addr) (m c : Nat) (t : List Int) (w : World) (h : Rd w w.heap.size sSystem [a, v] d) (hz : sz sSystem d ≤ 1048576) (ht : Seg w w.heap.size T m t) (hm : m ≤ 1048576) :
    Calls Tryz.prog 69 #[.agg #[a, v], .slice T m c] w (AnsB w (rightB d.1 d.2 t)) := by
  obtain ⟨A, n, cs, V, q, cv, rfl, rfl, hs, hc, hcv, hq, hn, hq1, hrs, hsg, hE⟩ := rd_sys h hz
  obtain ⟨W, hW, rA, bel⟩ := box1 w 29 #[.slice A n cs, .slice V q cv]
  have HW := Lib.hid hW
  have L1 := Lib.hid (specSystemOk _ _ d W (h.next bel) hz)
  have L2 := Lib.hid (fun (w1 : World) (bb : Below w.heap.size w w1) => specTermOk A T n cs m c d.1 t w1 (hs.next bb) (ht.next bb) hn hm)
  clear hW h hz hs hc hcv hq hrs hsg hE ht
  cases ok1 : sysOkB d.1 d.2 with
  | false =>
    have HS := Lib.hid ok1
    clear ok1
    go_enter Tryz.func69, Tryz.ntmps69
    go_wp2_with fail
    rw [← HW.out]
    refine L1.out.mono ?_
    rintro e w1 ⟨he, bb⟩
    rw [HS.out] at he
    subst he
    have F := Lib.hid (ansB (b := rightB d.1 d.2 t) (a := false) (by rw [right_sys HS.out]) (next_trans bel bb))
    clear bb bel rA
    go_wp2
    go_ret
    exact F.out
  | true =>
    obtain ⟨bt, hbt⟩ : ∃ b, termOkB d.1 t = b := ⟨_, rfl⟩
    have HS := Lib.hid (show rightB d.1 d.2 t = bt by unfold rightB; rw [ok1, hbt]; rfl)
    have HB := Lib.hid hbt
    have H1 := Lib.hid ok1
    clear ok1 hbt
    go_enter Tryz.func69, Tryz.ntmps69
    go_wp2_with fail
    rw [← HW.out]
    refine L1.out.mono ?_
    rintro e w1 ⟨he, bb⟩
    rw [H1.out] at he
    subst he
    replace rA := rA.next bb
    replace bel := next_trans bel bb
    have cA : w1.cell? ⟨w.heap.size, 0, none⟩ = some (.slice A n cs) := rA.cell 0
    clear bb L1
    go_wp2_with fail
    refine (L2.out _ bel).mono ?_
    rintro e w2 ⟨he, bb⟩
    rw [HB.out] at he
    subst he
    have F := Lib.hid (ansB (b := rightB d.1 d.2 t) (a := bt) (by rw [HS.out]) (next_trans bel bb))
    clear bb bel rA cA
    cases bt <;> (go_wp2; go_ret; exact F.out)
-- REST
def SubIn (W : World) (A : Option Addr) (n cs : Nat) (T : Option Addr) (m c : Nat) (x : Int) (ys : List Int) : Prop := ∀ X, Below W.heap.size W X → Calls Tryz.prog 140 #[.agg #[.slice A n cs], .slice T m c, .int .i64 x] X fun e w' => ∃ D dn dc, e = .returned (.slice D dn dc) ∧ Own w' W.heap.size (.slice D dn dc) ys ∧ Below W.heap.size W w' ∧ Below X.heap.size X w'
def MatchIn (W : World) (A : Option Addr) (n cs : Nat) (P : Option Addr) (pn pc : Nat) (ys : List Int) (R : Option (List (List Int))) : Prop := ∀ X D dn dc, Below W.heap.size W X → Own X W.heap.size (.slice D dn dc) ys → Calls Tryz.prog 139 #[.agg #[.slice A n cs], .slice P pn pc, .slice D dn dc] X fun e w' => ∃ G gn gc, e = .returned (.tuple #[.agg #[.slice G gn gc], .bool R.isSome]) ∧ Owns w' X.heap.size w'.heap.size G gn gc (resL R) ∧ Below W.heap.size W w' ∧ Below X.heap.size X w'
theorem subIn {W : World} {A : Option Addr} {n cs : Nat} {T : Option Addr} {m c : Nat} {sg t : List Int} {a : Nat} (h : Seg W W.heap.size A n sg) (h' : Seg W W.heap.size T m t) (hn : n ≤ 1048576) (hm : m ≤ 1048576) (hc : m ≤ c) (hc2 : c ≤ 9223372036854775807) (ht : termOkB sg t = true) (ha : a < t.length) : SubIn W A n cs T m c (a : Int) (subL sg t a) := fun X hX => by
  obtain ⟨t1, t2, t3⟩ := term_at ht ha
  have hl := h'.1
  refine (l1Sub A T n cs m c sg t a (len1 sg t a) X (h.next hX) (h'.next hX) hn hm hc hc2 (sig_arities (termOk_parts ht).1).1 (by omega) t1 t2 (by omega)).mono ?_
  rintro e w3 ⟨D, dn, dc, rfl, od, b3⟩
  exact ⟨D, dn, dc, rfl, Own.lower od hX.size, next_trans hX b3, b3⟩
theorem matchIn {W : World} {A : Option Addr} {n cs : Nat} {P : Option Addr} {pn pc : Nat} {sg p ys : List Int} (h : Seg W W.heap.size A n sg) (h' : Seg W W.heap.size P pn p) (hn : n ≤ 1048576) (hp : termOkB sg p = true) (ht : termOkB sg ys = true) : MatchIn W A n cs P pn pc ys (mst sg ys p 0 s0) := fun X D dn dc hX ho => by
  have hpn : pn ≤ 60 := by have := (term_len hp).2; have := h'.1; omega
  have hdn : dn ≤ 60 := by have := (term_len ht).2; have := Own.len ho; omega
  have hcd := look.own_cap ho
  refine (l4Match A P D n cs pn pc dn dc sg p ys X (h.next hX) (h'.next hX) (Own.seg ho) hn hpn hdn hcd.1 hcd.2.1 hp ht).mono ?_
  rintro e w4 ⟨G, gn, gc, rfl, og, b4⟩
  exact ⟨G, gn, gc, rfl, og, next_trans hX b4, b4⟩

theorem step_none {sg : List Int} {x : Rl} {t : List Int} {a : Nat} (h : mst sg (subL sg t a) x.1 0 s0 = none) : stepO sg x t a = none := by unfold stepO; rw [h]
theorem fill_res {s : List (List Int)} (hl : s.length = 24) (p : List Int) : fillL (givesL (resL (some s))) p = fillL (givesL s) p := fill_ext fun _ _ _ => matchFacts.res_gives hl _
theorem step_long {sg : List Int} {x : Rl} {t : List Int} {a : Nat} {s : List (List Int)} (h : mst sg (subL sg t a) x.1 0 s0 = some s) (hl : s.length = 24) (hf : filled.fitsB (resL (some s)) x.2 = false) : stepO sg x t a = none := by
  unfold filled.fitsB at hf
  rw [fill_res hl] at hf
  have := of_decide_eq_false hf
  unfold stepO
  rw [h]
  dsimp only
  rw [if_neg (fun hh => this hh.1)]
theorem step_fits {sg : List Int} {x : Rl} {t : List Int} {a : Nat} {s : List (List Int)} (h : mst sg (subL sg t a) x.1 0 s0 = some s) (hl : s.length = 24) (hf : filled.fitsB (resL (some s)) x.2 = true) : (stepO sg x t a).getD [] = put.fitL sg t (filled.fitL (resL (some s)) x.2) a ∧ (stepO sg x t a).isSome = put.fitB sg t (filled.fitL (resL (some s)) x.2) a := by
  have e0 : filled.fitL (resL (some s)) x.2 = fillL (givesL s) x.2 := by unfold filled.fitL; rw [if_pos hf, fill_res hl]
  unfold filled.fitsB at hf
  rw [fill_res hl] at hf
  have hf := of_decide_eq_true hf
  rw [e0]
  unfold stepO
  rw [h]
  dsimp only
  unfold put.fitL put.fitB
  have e1 : put.putI sg t (fillL (givesL s) x.2) a = putAt sg t (fillL (givesL s) x.2) a := rfl
  rw [e1]
  by_cases hh : (putAt sg t (fillL (givesL s) x.2) a).length ≤ 60
  · rw [if_pos ⟨hf, hh⟩, if_pos (decide_eq_true hh), decide_eq_true hh]; exact ⟨rfl, rfl⟩
  · rw [if_neg (fun h => hh h.2), if_neg (by rw [decide_eq_false hh]; simp), decide_eq_false hh]; exact ⟨rfl, rfl⟩
theorem sz_lt (w : World) (o : Obj) : w.heap.size < (w.alloc o).heap.size := by simp
def StepBox (W : World) (bo : Bool) (xss : List (List Int)) (s11 s12 : Value) (wx : World) : Prop := ∃ g G gn gc, s11 = .pointer (some ⟨g, 0, none⟩) ∧ s12 = .bool bo ∧ Row wx g 59 #[.slice G gn gc] ∧ Segs wx wx.heap.size G gn xss ∧ Below W.heap.size W wx
theorem sbox_a {W w : World} {bo : Bool} {xss : List (List Int)} {lo : Nat} {G : Option Addr} {gn gc : Nat} (h : Owns w lo w.heap.size G gn gc xss) (hb : Below W.heap.size W w) : StepBox W bo xss (.pointer (some ⟨w.heap.size, 0, none⟩)) (.bool bo) (w.alloc (.cells #[.slice G gn gc] 59)) :=
  ⟨_, _, _, _, rfl, rfl, Row.new _ _ _, (h.segs.alloc (Nat.le_refl _) _).more (by simp), hb.alloc hb.size _⟩
theorem sbox_b {W w : World} {bo : Bool} {xss : List (List Int)} {lo g : Nat} {G : Option Addr} {gn gc : Nat} (h : Owns w lo w.heap.size G gn gc xss) (hr : Row w g 59 #[.slice none 0 0]) (hg : g < lo) (hW : W.heap.size ≤ g) (hb : Below W.heap.size W w) : StepBox W bo xss (.pointer (some ⟨g, 0, none⟩)) (.bool bo) (w.setCell ⟨g, 0, none⟩ (.slice G gn gc)) := by
  have h2 : Owns (w.setCell ⟨g, 0, none⟩ (.slice G gn gc)) lo w.heap.size G gn gc xss := h.btw (lo' := g) (hi' := g + 1) ⟨rfl, rfl, rfl, by simp, fun k hk ho => Below.heap_setCell w _ _ k (by show k ≠ g; omega)⟩ (.inr (by omega))
  exact ⟨_, _, _, _, rfl, rfl, hr.put 0 _, h2.segs, hb.setCell hW _⟩

set_option maxHeartbeats 4000000 in
theorem l7Step (a v u : Value) (d : Dat sSystem) (t : List Int) (x k : Nat) (w : World) (h : Rd w w.heap.size sSystem [a, v] d) (ht : Rd w w.heap.size sI [u] t) (hz : sz sSystem d ≤ 1048576) (hok : rightB d.1 d.2 t = true) (hx : x < t.length) (hk : k < d.2.length) :
    Calls Tryz.prog 122 #[.agg #[a, v], u, .int .i64 (x : Int), .int .i64 (k : Int)] w (AnsStep w (stepO d.1 (d.2.getD k ([], [])) t x)) := by
  obtain ⟨T, m, c, rfl, hT, hcT⟩ := rd_ints.1 ht
  obtain ⟨oks, okt⟩ := right_parts hok
  have hm : m ≤ 60 := by have := (term_len okt).2; have := hT.1; omega
  obtain ⟨A, n, cs, V, q, cv, rfl, rfl, hs, hc, hcv, hq, hn, hq1, hrs, hsg, hE⟩ := rd_sys h hz
  rw [hq] at hk
  obtain ⟨b, off, l, rr, y, rfl, hb, ey, cl, cr, hry⟩ := rd_at hrs (Below.refl _ _) hq hk
  have hzy : sz sRule y ≤ 1048576 := by rw [← ey.out]; exact hE k hk
  have okr : ruleOkB d.1 y = true := by rw [← ey.out]; exact sys_rule oks (by rw [hq]; exact hk)
  obtain ⟨P, pn, pc, P', pn', pc', rfl, rfl, sP, kP, sP', kP', hpn, hpn'⟩ := rd_rule hry hzy
  rw [ey.out]
  obtain ⟨W, hW, rA, rR, bel⟩ := box2 w 29 145 #[.slice A n cs, .slice (some ⟨b, off, none⟩) q cv] #[.slice P pn pc, .slice P' pn' pc']
  have HW := Lib.hid hW
  have zA : w.heap.size < W.heap.size := rA.lt
  have zR : w.heap.size + 1 < W.heap.size := rR.lt
  have LS := Lib.hid (subIn (cs := cs) (c := c) (hs.next bel) (hT.next bel) hn (by omega) hcT.1 hcT.2.1 okt hx)
  have LM := Lib.hid (matchIn (cs := cs) (pc := pc) (hs.next bel) (sP.next bel) hn (rule_parts okr).1 (sub_ok okt hx))
  obtain ⟨R, hR⟩ : ∃ R, mst d.1 (subL d.1 t x) y.1 0 s0 = R := ⟨_, rfl⟩
  rw [hR] at LM
  have HRE := Lib.hid hR
  obtain ⟨bo, hbo⟩ : ∃ bo, R.isSome = bo := ⟨_, rfl⟩
  have HR := Lib.hid hbo
  have HOK := Lib.hid (show ruleOkB d.1 y = true ∧ termOkB d.1 t = true ∧ x < t.length from ⟨okr, okt, hx⟩)
  have SS := Lib.hid (show Seg w w.heap.size A n d.1 ∧ Seg w w.heap.size T m t ∧ Seg w w.heap.size P' pn' y.2 ∧ m ≤ c ∧ c ≤ 9223372036854775807 from ⟨hs, hT, sP', hcT.1, hcT.2.1⟩)
  have c0 : (w.alloc (.cells #[.slice A n cs, .slice (some ⟨b, off, none⟩) q cv] 29)).cell? ⟨b, off + k * 2, none⟩ = some (.slice P pn pc) := (((Below.refl w.heap.size w).alloc (Nat.le_refl _) _).cell (p := ⟨b, off + k * 2, none⟩) hb).trans cl
  have c1 : (w.alloc (.cells #[.slice A n cs, .slice (some ⟨b, off, none⟩) q cv] 29)).cell? ⟨b, off + k * 2 + 1, none⟩ = some (.slice P' pn' pc') := (((Below.refl w.heap.size w).alloc (Nat.le_refl _) _).cell (p := ⟨b, off + k * 2 + 1, none⟩) hb).trans cr
  have i0 : (0 : Int) ≤ (k : Int) := by omega
  have i1 : (k : Int) < (q : Int) := by omega
  have K0 : W.cell? ⟨w.heap.size, 0, none⟩ = some (.slice A n cs) := rA.cell 0
  have K1 : W.cell? ⟨w.heap.size + 1, 0, none⟩ = some (.slice P pn pc) := rR.cell 0
  have hneA : ¬ w.heap.size = W.heap.size := by omega
  have hnfA : ¬ W.heap.size = w.heap.size := by omega
  have hneR : ¬ w.heap.size + 1 = W.heap.size := by omega
  have hnfR : ¬ W.heap.size = w.heap.size + 1 := by omega
  have BEL := Lib.hid bel
  have RA := Lib.hid rA
  have RR := Lib.hid rR
  have B0 := Below.refl W.heap.size W
  clear hW h hs hc hcv hq hrs hsg hE ht hT hcT oks okt okr sP kP sP' kP' hry hzy hR hbo hx hok hz ey bel rA rR cl cr
  go_enter Tryz.func122, Tryz.ntmps122
  go_upto_region 2 with fail
  rw [← HW.out]
  clear c0 c1 i0 i1
  go_cut [11, 12] (fun s11 s12 wx => StepBox W bo (resL R) s11 s12 wx)
  case first =>
    go_region_held3 (fun w' => w'.cell? ⟨w.heap.size, 0, none⟩ = some (.slice A n cs) ∧ w'.cell? ⟨w.heap.size + 1, 0, none⟩ = some (.slice P pn pc))
      (go_keep)
      (first
        | (go_at_call 140; refine (LS.out _ ?_).mono ?_; (first | exact B0 | exact B0.drew | exact (B0.alloc B0.size _) | exact (B0.alloc B0.size _).drew | exact (B0.drew.alloc B0.drew.size _)); rintro e w3 ⟨D, dn, dc, rfl, od, B3, b3⟩; have z3 := B3.size; (first | have r8 := Row.next (Row.drew (Row.new W 59 #[.slice none 0 0])) b3 | have r8 := Row.next (Row.new W.drew 59 #[.slice none 0 0]) b3 | skip); have ne30 : ¬ w.heap.size = w3.heap.size := Nat.ne_of_lt (Nat.lt_of_lt_of_le zA B3.size); have nf30 : ¬ w3.heap.size = w.heap.size := Nat.ne_of_gt (Nat.lt_of_lt_of_le zA B3.size); have ne31 : ¬ (w.heap.size + 1) = w3.heap.size := Nat.ne_of_lt (Nat.lt_of_lt_of_le zR B3.size); have nf31 : ¬ w3.heap.size = (w.heap.size + 1) := Nat.ne_of_gt (Nat.lt_of_lt_of_le zR B3.size); have k0_3 : w3.cell? ⟨w.heap.size, 0, none⟩ = some (.slice A n cs) := (B3.cell (p := ⟨w.heap.size, 0, none⟩) zA).trans K0; have k1_3 : w3.cell? ⟨w.heap.size + 1, 0, none⟩ = some (.slice P pn pc) := (B3.cell (p := ⟨w.heap.size + 1, 0, none⟩) zR).trans K1)
        | (go_at_call 139; refine (LM.out _ _ _ _ ?_ ?_).mono ?_; (first | exact B3 | exact B3.alloc B3.size _); (first | exact od | exact Own.alloc od _); rintro e w4 ⟨G, gn, gc, rfl, og, B4, b4⟩; rw [HR.out]; have z4 := B4.size; (first | have r9 := Row.next r8 b4 | have r9 := Row.next (Row.new w3 59 #[.slice none 0 0]) b4 | skip); (first | (have c9 : _ = some (Value.slice none 0 0) := r9.cell 0; have f9 := r9.free 0) | skip); have ne40 : ¬ w.heap.size = w4.heap.size := Nat.ne_of_lt (Nat.lt_of_lt_of_le zA B4.size); have nf40 : ¬ w4.heap.size = w.heap.size := Nat.ne_of_gt (Nat.lt_of_lt_of_le zA B4.size); have ne41 : ¬ (w.heap.size + 1) = w4.heap.size := Nat.ne_of_lt (Nat.lt_of_lt_of_le zR B4.size); have nf41 : ¬ w4.heap.size = (w.heap.size + 1) := Nat.ne_of_gt (Nat.lt_of_lt_of_le zR B4.size); have k0_4 : w4.cell? ⟨w.heap.size, 0, none⟩ = some (.slice A n cs) := (B4.cell (p := ⟨w.heap.size, 0, none⟩) zA).trans K0; have k1_4 : w4.cell? ⟨w.heap.size + 1, 0, none⟩ = some (.slice P pn pc) := (B4.cell (p := ⟨w.heap.size + 1, 0, none⟩) zR).trans K1))
    all_goals
      go_wp2_with fail
      go_meet
      first | (with_reducible exact sbox_a og B4) | (with_reducible exact sbox_b og r9 (sz_lt _ _) z3 B4) | (with_reducible exact sbox_b og r9 r8.lt (Nat.le_refl _) B4)
  case rest =>
    rename World => wc
    obtain ⟨g, G, gn, gc, rfl, rfl, rS, sg, bx⟩ := hcut
    have bel := BEL.out.trans (bx.mono BEL.out.size)
    replace rA := RA.out.next bx
    replace rR := RR.out.next bx
    clear K0 K1 B0 hneA hnfA hneR hnfR
    cases R with
    | none =>
      obtain rfl : bo = false := HR.out.symm
      have F := Lib.hid (ansStep_no (o := stepO d.1 y t x) (step_none HRE.out) bel)
      clear bx bel rA rR rS sg
      go_wp2
      go_ret2
      exact F.out
    | some s =>
      obtain rfl : bo = true := HR.out.symm
      have hmo : matchO d.1 y.1 (subL d.1 t x) = some s := by rw [match_yes (rule_parts HOK.out.1).1 (sub_ok HOK.out.2.1 HOK.out.2.2)]; exact HRE.out
      have hl24 := (match_turns hmo).1
      have hmt := matchFacts.match_terms hmo
      have HGV := Lib.hid (fun i => (show (givesL (resL (some s)) i).length ≤ 60 by
        rw [matchFacts.res_gives hl24]
        unfold givesL
        split
        · simp [vt]
        · rcases hmt.2.2.2 i with e | e
          · omega
          · exact (term_len e).2))
      have HTT := Lib.hid (show tot (resL (some s)) ≤ 1048576 by rw [← hmo]; exact matchTot.match_tot)
      have HL24 := Lib.hid hl24
      have hv := (rule_parts HOK.out.1).2.1
      have hpn60 : pn' ≤ 60 := by have := (term_len hv).2; have := SS.out.2.2.1.1; omega
      have LF := Lib.hid (filled.l2Filled G P' gn gc pn' pc' (resL (some s)) y.2 wc sg (SS.out.2.2.1.next bel) HTT.out hpn60 (fun z hz => (term_mem hv hz).1) HGV.out)
      obtain ⟨bf, hbf⟩ : ∃ bf, filled.fitsB (resL (some s)) y.2 = bf := ⟨_, rfl⟩
      have HBF := Lib.hid hbf
      have k0 : wc.cell? ⟨g, 0, none⟩ = some (.slice G gn gc) := rS.cell 0
      have k1 : wc.cell? ⟨w.heap.size + 1, 1, none⟩ = some (.slice P' pn' pc') := rR.cell 1
      clear hmo hl24 hmt hv hbf bx sg LS LM
      go_wp2_with fail
      refine LF.out.mono ?_
      rintro e w5 ⟨O, on, oc, rfl, oO, bb⟩
      rw [HBF.out]
      replace rA := rA.next bb
      replace bel := next_trans bel bb
      clear k0 k1 LF rS rR bb
      cases bf with
      | false =>
        have F := Lib.hid (ansStep_no (o := stepO d.1 y t x) (step_long HRE.out HL24.out HBF.out) bel)
        clear bel rA oO
        go_wp2
        go_ret2
        exact F.out
      | true =>
        have E := Lib.hid (step_fits HRE.out HL24.out HBF.out)
        have hon : on ≤ 60 := by
          have h1 := Own.len oO
          have h2 : (filled.fitL (resL (some s)) y.2).length ≤ 60 := by
            unfold filled.fitL
            rw [if_pos HBF.out]
            have := HBF.out
            unfold filled.fitsB at this
            exact of_decide_eq_true this
          omega
        have hco := look.own_cap oO
        have LP := Lib.hid (put.l3Put A T O n cs m c on oc d.1 t (filled.fitL (resL (some s)) y.2) x w5 (SS.out.1.next bel) (SS.out.2.1.next bel) (Own.seg oO) hco.2.2 hn (by omega) hon SS.out.2.2.2.1 SS.out.2.2.2.2 HOK.out.2.1 HOK.out.2.2)
        have k0 : w5.cell? ⟨w.heap.size, 0, none⟩ = some (.slice A n cs) := rA.cell 0
        clear oO hco rA
        go_wp2_with fail
        refine LP.out.mono ?_
        rintro e w6 ⟨X, xn, xc, rfl, oX, bb⟩
        have F : AnsStep w (stepO d.1 y t x) (.returned (.tuple #[.slice X xn xc, .bool (put.fitB d.1 t (filled.fitL (resL (some s)) y.2) x)])) w6 := ⟨X, xn, xc, by rw [E.out.2], by rw [E.out.1]; exact Own.lower oX bel.size, next_trans bel bb⟩
        have HF := Lib.hid F
        clear F oX bb bel k0 LP
        go_wp2
        go_ret2
        exact HF.out

set_option maxHeartbeats 4000000 in
theorem specStepAt0 (a v u : Value) (d : Dat sSystem) (t : List Int) (x r : Int) (w : World) (h : Rd w w.heap.size sSystem [a, v] d) (ht : Rd w w.heap.size sI [u] t) (hz : sz sSystem d ≤ 1048576) (hz' : sz sI t ≤ 1048576) :
    Calls Tryz.prog 72 #[.agg #[a, v], u, .int .i64 x, .int .i64 r] w (AnsStep w (stepAtO d.1 d.2 t x r)) := by
  have htv := ht
  obtain ⟨T, m, c, rfl, hT, hcT⟩ := rd_ints.1 ht
  have hm := len_ints hT.1 hz'
  have h0 := h
  obtain ⟨A, n, cs, V, q, cv, rfl, rfl, hs, hc, hcv, hq, hn, hq1, hrs, hsg, hE⟩ := rd_sys h hz
  obtain ⟨W, hW, rA, bel⟩ := box1 w 29 #[.slice A n cs, .slice V q cv]
  have HW := Lib.hid hW
  have L1 := Lib.hid (l7Right _ _ d T m c t W (h0.next bel) hz (hT.next bel) hm)
  have HQ := Lib.hid hq
  have HTL := Lib.hid hT.1
  have LST := Lib.hid (fun (w1 : World) (bb : Below w.heap.size w w1) (x k : Nat) hok hx hk => l7Step _ _ _ d t x k w1 (h0.next bb) (htv.next bb) hz hok hx hk)
  clear hW h h0 hz hz' hs hc hcv hq hrs hsg hE ht hT hcT htv
  cases ok1 : rightB d.1 d.2 t with
  | false =>
    have HR := Lib.hid ok1
    clear ok1
    go_enter Tryz.func72, Tryz.ntmps72
    go_wp2_with fail
    rw [← HW.out]
    refine L1.out.mono ?_
    rintro e w1 ⟨he, bb⟩
    rw [HR.out] at he
    subst he
    have F := Lib.hid (ansStep_no (o := stepAtO d.1 d.2 t x r) (at_no (there_r HR.out)) (next_trans bel bb))
    clear bb bel rA LST
    go_wp2
    go_ret2
    exact F.out
  | true =>
    have HR := Lib.hid ok1
    clear ok1
    go_enter Tryz.func72, Tryz.ntmps72
    go_wp2_with fail
    rw [← HW.out]
    refine L1.out.mono ?_
    rintro e w1 ⟨he, bb⟩
    rw [HR.out] at he
    subst he
    replace rA := rA.next bb
    replace bel := next_trans bel bb
    have K0 : w1.cell? ⟨w.heap.size, 0, none⟩ = some (.slice A n cs) := rA.cell 0
    have K1 : w1.cell? ⟨w.heap.size, 1, none⟩ = some (.slice V q cv) := rA.cell 1
    clear bb L1
    cases hx : decide (0 ≤ x ∧ x < (m : Int)) with
    | false =>
      have HX := Lib.hid hx
      clear hx
      go_wp2_with fail
      refine (there T m c x _ _ hm HX.out).mono ?_
      rintro e w2 ⟨rfl, rfl⟩
      have F := Lib.hid (ansStep_no (o := stepAtO d.1 d.2 t x r) (at_no (there_a HTL.out HX.out)) bel)
      clear bel rA LST K0 K1
      go_wp2
      go_ret2
      exact F.out
    | true =>
      have HX := Lib.hid hx
      have hx0 := of_decide_eq_true hx
      clear hx
      by_cases hr : 0 ≤ r ∧ r ≤ (q : Int) - 1
      case neg =>
        have HNR := Lib.hid hr
        clear hr
        go_wp2_with fail
        refine (there T m c x _ _ hm HX.out).mono ?_
        rintro e w2 ⟨rfl, rfl⟩
        go_wp2_with fail
        refine (inNo _ _ _ _ HNR.out).mono ?_
        rintro e w2 ⟨rfl, rfl⟩
        have F := Lib.hid (ansStep_no (o := stepAtO d.1 d.2 t x r) (at_no (there_x (by rw [HQ.out]; have := HNR.out; omega))) bel)
        clear bel rA K0 K1 LST
        go_wp2
        go_ret2
        exact F.out
      case pos =>
      have HYR := Lib.hid hr
      have F0 := Lib.hid (show thereR d.1 d.2 t x r = true from there_mk (right_parts HR.out).1 (right_parts HR.out).2 (by rw [HTL.out]; exact hx0) (by rw [HQ.out]; omega))
      obtain ⟨a', rfl⟩ := Int.eq_ofNat_of_zero_le hx0.1
      obtain ⟨k, rfl⟩ := Int.eq_ofNat_of_zero_le hr.1
      have hk : k < q := by omega
      have hat : a' < m := by omega
      have LS := Lib.hid (LST.out w1 bel a' k HR.out (by rw [HTL.out]; exact hat) (by rw [HQ.out]; exact hk))
      have HE := Lib.hid (show stepAtO d.1 d.2 t (a' : Int) (k : Int) = stepO d.1 (d.2.getD k ([], [])) t a' by rw [at_yes F0.out]; unfold rl; rw [Int.toNat_natCast, Int.toNat_natCast])
      clear hr hx0 LST
      go_wp2_with fail
      refine (there T m c _ _ _ hm HX.out).mono ?_
      rintro e w2 ⟨rfl, rfl⟩
      go_wp2_with fail
      refine (inYes _ _ _ _ HYR.out).mono ?_
      rintro e w2 ⟨rfl, rfl⟩
      go_wp2_with fail
      refine LS.out.mono ?_
      rintro e w2 ⟨X, xn, xc, rfl, oX, bb⟩
      have F : AnsStep w (stepAtO d.1 d.2 t (a' : Int) (k : Int)) (.returned (.tuple #[.slice X xn xc, .bool (stepO d.1 (d.2.getD k ([], [])) t a').isSome])) w2 := ⟨X, xn, xc, by rw [HE.out], by rw [HE.out]; exact Own.lower oX bel.size, next_trans bel bb⟩
      have HF := Lib.hid F
      clear F oX bb bel rA K0 K1 LS
      generalize (stepO d.1 (d.2.getD k ([], [])) t a').isSome = bz at *
      go_wp2
      go_ret2
      exact HF.out
end Go.Proofs.YtpcnjcgglonifaaGreat.stepSpec
end

section
namespace Go.Proofs.YtpcnjcgglonifaaGreat.walkSpec
open Go.RowKit base ints sig term termOk endAt endOf marks app sym sub segs segsHelp kinds termFacts same shifted shape kindsR kindsW varsOf ruleMath ruleSpec stepMath walkMath stepSpec
set_option maxRecDepth 100000

theorem rd_own {w : World} {lo : Nat} {A : Option Addr} {n c : Nat} {xs : List Int} (h : Own w lo (.slice A n c) xs) : Rd w w.heap.size sI [.slice A n c] xs := rd_ints.2 ⟨A, n, c, rfl, Own.seg h, look.own_cap h⟩
theorem rd_step {w wr : World} {B : Nat} {A : Option Addr} {n c : Nat} {L : List St} {k : Nat} (h : Rd w B sStepS [.slice A n c] L) (hb : Below B w wr) (hl : L.length = n) (hk : k < n) :
    ∃ b off u x, A = some ⟨b, off, none⟩ ∧ b < B ∧ Hid (L.getD k (0, 0, []) = x) ∧ wr.cell? ⟨b, off + k * 3, none⟩ = some (.int .i64 x.1) ∧ wr.cell? ⟨b, off + k * 3 + 1, none⟩ = some (.int .i64 x.2.1) ∧ wr.cell? ⟨b, off + k * 3 + 2, none⟩ = some u ∧ Rd wr B sI [u] x.2.2 := by
  obtain ⟨b, off, n2, c2, es, ev, -, -, hbB, hel, hp, hr⟩ := h.elem (j := k) (by rw [hl]; exact hk)
  injection ev with e1 e2 e3
  subst e1
  obtain ⟨v0, rfl⟩ := cells_Step hr
  have hpw := hp.keep (w' := wr) (fun p hp => hb.cell (p := p) (by rw [hp]; exact hbB))
  obtain ⟨-, -, p2⟩ := parts_Step hr
  exact ⟨b, off, v0, _, rfl, hbB, Lib.hid rfl, hpw 0 (by simp), hpw 1 (by simp), hpw 2 (by simp), p2.below hb⟩
theorem rd_walk {w : World} {B : Nat} {f s : Value} {k : Dat sWalk} (h : Rd w B sWalk [f, s] k) (hz : sz sWalk k ≤ 1048576) :
    ∃ F fn fc S sn sc, f = .slice F fn fc ∧ s = .slice S sn sc ∧ Seg w B F fn k.1 ∧ Cap F fn fc ∧ fn ≤ 1048576 ∧ k.2.length = sn ∧ sn ≤ 1048576 ∧ Cap S sn sc ∧ Rd w B sI [.slice F fn fc] k.1 ∧ Rd w B sStepS [.slice S sn sc] k.2 ∧ sz sI k.1 ≤ 1048576 ∧ ∀ i, i < sn → sz sI (k.2.getD i (0, 0, [])).2.2 ≤ 1048576 := by
  have hz0 : sz sI k.1 + sz sStepS k.2 ≤ 1048576 := hz
  obtain ⟨p1, p2⟩ := parts_Walk h
  obtain ⟨F, fn, fc, rfl, hs, hc⟩ := rd_ints.1 p1
  obtain ⟨S, sc, rfl, hc2⟩ := p2.slice
  have hz1 : sz sI k.1 ≤ 1048576 := by omega
  have hz2 : sz sStepS k.2 ≤ 1048576 := by omega
  refine ⟨F, fn, fc, S, List.length k.2, sc, rfl, rfl, hs, hc, len_ints hs.1 hz1, rfl, sz_len hz2, hc2, p1, p2, hz1, fun i hi => ?_⟩
  have h1 := sz_each hz2 hi
  have h2 : sz sStep (k.2.getD i (0, 0, [])) = 0 + (0 + sz sI (k.2.getD i (0, 0, [])).2.2) := rfl
  have h3 : sz sStep (k.2.getD i (0, 0, [])) ≤ 1048576 := h1
  omega

theorem walk_noR {sg : List Int} {rs : List Rl} {k : Wk} (h : rightB sg rs k.1 = false) : walkB sg rs k = false := by unfold walkB; rw [h]; rfl
theorem walk_long {sg : List Int} {rs : List Rl} {k : Wk} {n : Nat} (hn : k.2.length = n) (h : ¬ n ≤ 60) : walkB sg rs k = false := by unfold walkB; rw [hn, decide_eq_false h]; simp
theorem walk_yes {sg : List Int} {rs : List Rl} {k : Wk} {n : Nat} (hr : rightB sg rs k.1 = true) (hn : k.2.length = n) (h : n ≤ 60) : walkB sg rs k = (goOn sg rs k.1 k.2).isSome := by unfold walkB; rw [hr, hn, decide_eq_true h]; rfl
theorem go_step {sg : List Int} {rs : List Rl} {t u : List Int} {x : St} {L : List St} {i : Nat} (hi : i < L.length) (hx : L.getD i (0, 0, []) = x) (h : stepAtO sg rs t x.1 x.2.1 = some u) (he : u = x.2.2) : goOn sg rs t (L.drop i) = goOn sg rs u (L.drop (i + 1)) := by
  have e : L.drop i = x :: L.drop (i + 1) := by
    rw [← hx, List.drop_eq_getElem_cons hi]
    simp [List.getD, hi]
  rw [e, goOn, h]
  dsimp only
  rw [if_pos he]
theorem go_none {sg : List Int} {rs : List Rl} {t : List Int} {x : St} {L : List St} {i : Nat} (hi : i < L.length) (hx : L.getD i (0, 0, []) = x) (h : stepAtO sg rs t x.1 x.2.1 = none) : goOn sg rs t (L.drop i) = none := by
  have e : L.drop i = x :: L.drop (i + 1) := by
    rw [← hx, List.drop_eq_getElem_cons hi]
    simp [List.getD, hi]
  rw [e, goOn, h]
theorem go_differ {sg : List Int} {rs : List Rl} {t u : List Int} {x : St} {L : List St} {i : Nat} (hi : i < L.length) (hx : L.getD i (0, 0, []) = x) (h : stepAtO sg rs t x.1 x.2.1 = some u) (he : ¬ u = x.2.2) : goOn sg rs t (L.drop i) = none := by
  have e : L.drop i = x :: L.drop (i + 1) := by
    rw [← hx, List.drop_eq_getElem_cons hi]
    simp [List.getD, hi]
  rw [e, goOn, h]
  dsimp only
  rw [if_neg he]
theorem go_all {sg : List Int} {rs : List Rl} {t : List Int} {L : List St} {i : Nat} (hi : L.length = i) : goOn sg rs t (L.drop i) = some t := by rw [List.drop_eq_nil_of_le (by omega)]; rfl

structure Wn (w : World) (a v f s : Value) (d : Dat sSystem) (k : Dat sWalk) (i : Nat) (now : Value) (wr : World) : Prop where
  r : Row wr w.heap.size 29 #[a, v]
  q : Row wr (w.heap.size + 1) 41 #[f, s]
  b : Below w.heap.size w wr
  n : ∃ N nn nc, now = .slice N nn nc
  t : ∃ t, Rd wr wr.heap.size sI [now] t ∧ sz sI t ≤ 1048576 ∧ goOn d.1 d.2 k.1 k.2 = goOn d.1 d.2 t (k.2.drop i)

set_option maxHeartbeats 4000000 in
theorem specWalkOk (a v f s : Value) (d : Dat sSystem) (k : Dat sWalk) (w : World) (h : Rd w w.heap.size sSystem [a, v] d) (h' : Rd w w.heap.size sWalk [f, s] k) (hz : sz sSystem d ≤ 1048576) (hz' : sz sWalk k ≤ 1048576) :
    Calls Tryz.prog 29 #[.agg #[a, v], .agg #[f, s]] w (AnsB w (walkB d.1 d.2 k)) := by
  obtain ⟨F, fn, fc, S, sn, sc, rfl, rfl, hF, hcF, hfn, hsn, hsn1, hcS, hrF, hrS, hzF, hzS⟩ := rd_walk h' hz'
  obtain ⟨W, hW, rA, rW, bel⟩ := box2 w 29 41 #[a, v] #[.slice F fn fc, .slice S sn sc]
  have HW := Lib.hid hW
  have LR := Lib.hid (l7Right a v d F fn fc k.1 W (h.next bel) hz (hF.next bel) hfn)
  have LST := Lib.hid (fun (w1 : World) (bb : Below w.heap.size w w1) (u : Value) (t : List Int) (x r : Int) ht hzt => specStepAt0 a v u d t x r w1 (h.next bb) ht hz hzt)
  have HRS := Lib.hid hrS
  have HSN := Lib.hid hsn
  have HZS := Lib.hid hzS
  have HRF := Lib.hid hrF
  have HZF := Lib.hid hzF
  clear hW h h' hz hz' hF hcF hsn hcS hrF hrS hzF hzS
  cases ok1 : rightB d.1 d.2 k.1 with
  | false =>
    have HR := Lib.hid ok1
    clear ok1
    go_enter Tryz.func29, Tryz.ntmps29
    go_wp2_with fail
    rw [← HW.out]
    refine LR.out.mono ?_
    rintro e w1 ⟨he, bb⟩
    rw [HR.out] at he
    subst he
    have F := Lib.hid (ansB (b := walkB d.1 d.2 k) (a := false) (by rw [walk_noR HR.out]) (next_trans bel bb))
    clear bb bel rA rW LST
    go_wp2
    go_ret
    exact F.out
  | true =>
    have HR := Lib.hid ok1
    clear ok1
    go_enter Tryz.func29, Tryz.ntmps29
    go_wp2_with fail
    rw [← HW.out]
    refine LR.out.mono ?_
    rintro e w1 ⟨he, bb⟩
    rw [HR.out] at he
    subst he
    replace rA := rA.next bb
    replace rW := rW.next bb
    replace bel := next_trans bel bb
    have K0 : w1.cell? ⟨w.heap.size + 1, 0, none⟩ = some (.slice F fn fc) := rW.cell 0
    have K1 : w1.cell? ⟨w.heap.size + 1, 1, none⟩ = some (.slice S sn sc) := rW.cell 1
    clear bb LR
    by_cases h60 : sn ≤ 60
    · have HYES := Lib.hid (walk_yes (k := k) HR.out HSN.out h60)
      have H0 := Lib.hid (show Wn w a v (.slice F fn fc) (.slice S sn sc) d k 0 (.slice F fn fc) w1 from ⟨rA, rW, bel, ⟨_, _, _, rfl⟩, k.1, HRF.out.next bel, HZF.out, rfl⟩)
      clear rA rW bel
      go_wp2_with fail
      go_loopg [5, 6] sn (fun g now i_ wr => ∃ i : Nat, i_ = .int .i64 i ∧ i + g = sn ∧ Wn w a v (.slice F fn fc) (.slice S sn sc) d k i now wr)
      case atStart => exact ⟨0, rfl, by omega, H0.out⟩
      case round =>
        clear H0 K0 K1
        obtain ⟨i, rfl, hg, T⟩ := hrel
        obtain ⟨N, nn, nc, rfl⟩ := T.n
        obtain ⟨t, ht, hzt, hgo⟩ := T.t
        have K0 : wr.cell? ⟨w.heap.size, 0, none⟩ = some a := T.r.cell 0
        have K1 : wr.cell? ⟨w.heap.size, 1, none⟩ = some v := T.r.cell 1
        have K2 : wr.cell? ⟨w.heap.size + 1, 1, none⟩ = some (.slice S sn sc) := T.q.cell 1
        by_cases hi : i < sn
        · obtain ⟨b, off, u, x, hA, hb, ex, c0, c1, c2, hx2⟩ := rd_step HRS.out T.b HSN.out hi
          subst hA
          obtain ⟨U, un, uc, rfl, hU, hcU⟩ := rd_ints.1 hx2
          have hzx : sz sI x.2.2 ≤ 1048576 := by rw [← ex.out]; exact HZS.out i hi
          have hun : un ≤ 1048576 := len_ints hU.1 hzx
          have HU := Lib.hid hU
          have LS := Lib.hid (LST.out wr.drew T.b.drew (.slice N nn nc) t x.1 x.2.1 ht hzt)
          obtain ⟨xa, hxa⟩ : ∃ z, x.1 = z := ⟨_, rfl⟩
          obtain ⟨xr, hxr⟩ : ∃ z, x.2.1 = z := ⟨_, rfl⟩
          rw [hxa] at c0 LS
          rw [hxr] at c1 LS
          obtain ⟨o, ho⟩ : ∃ o, stepAtO d.1 d.2 t xa xr = o := ⟨_, rfl⟩
          rw [ho] at LS
          have HO := Lib.hid (show stepAtO d.1 d.2 t x.1 x.2.1 = o by rw [hxa, hxr]; exact ho)
          have HG := Lib.hid hg
          have HGO := Lib.hid hgo
          have i0 : (0 : Int) ≤ (i : Int) := by omega
          have i1 : (i : Int) < (sn : Int) := by omega
          have zA : w.heap.size + 1 < wr.heap.size := T.q.lt
          have zA0 : w.heap.size < wr.heap.size := T.r.lt
          have zB : b < wr.heap.size := by omega
          have hil : i < k.2.length := by rw [HSN.out]; exact hi
          have TT := Lib.hid T
          have EX := Lib.hid (show k.2.getD i (0, 0, []) = x from ex.out)
          clear ho hxa hxr hgo hx2 hU hcU T ht hzt ex hg
          go_wp2_with fail
          go_region_held3 (fun w' => w'.cell? ⟨w.heap.size, 0, none⟩ = some a ∧ w'.cell? ⟨w.heap.size, 1, none⟩ = some v ∧ w'.cell? ⟨w.heap.size + 1, 1, none⟩ = some (.slice (some ⟨b, off, none⟩) sn sc) ∧ w'.cell? ⟨b, off + i * 3, none⟩ = some (.int .i64 xa) ∧ w'.cell? ⟨b, off + i * 3 + 1, none⟩ = some (.int .i64 xr))
            (go_keep)
            (first
              | (go_at_call 72; refine LS.out.mono ?_; rintro e w2 ⟨X, xn, xc, rfl, oX, bb⟩; have k0 : w2.cell? ⟨w.heap.size, 0, none⟩ = some a := (bb.cell (p := ⟨w.heap.size, 0, none⟩) zA0).trans K0; have k1 : w2.cell? ⟨w.heap.size, 1, none⟩ = some v := (bb.cell (p := ⟨w.heap.size, 1, none⟩) zA0).trans K1; have k2 : w2.cell? ⟨w.heap.size + 1, 1, none⟩ = some (.slice (some ⟨b, off, none⟩) sn sc) := (bb.cell (p := ⟨w.heap.size + 1, 1, none⟩) zA).trans K2; have k3 : w2.cell? ⟨b, off + i * 3, none⟩ = some (.int .i64 xa) := (bb.cell (p := ⟨b, off + i * 3, none⟩) zB).trans c0; have k4 : w2.cell? ⟨b, off + i * 3 + 1, none⟩ = some (.int .i64 xr) := (bb.cell (p := ⟨b, off + i * 3 + 1, none⟩) zB).trans c1))
          have k5 : w2.cell? ⟨b, off + i * 3 + 2, none⟩ = some (.slice U un uc) := (bb.cell (p := ⟨b, off + i * 3 + 2, none⟩) zB).trans c2
          have r2 := TT.out.r.drew.next bb
          have q2 := TT.out.q.drew.next bb
          have b2 := TT.out.b.drew.trans (bb.mono TT.out.b.drew.size)
          clear k0 k1 k3 k4 c0 c1 c2 K0 K1 K2 LS TT
          cases o with
          | none =>
            have F := Lib.hid (ansB (b := walkB d.1 d.2 k) (a := false) (by rw [HYES.out, HGO.out, go_none hil EX.out HO.out]; rfl) b2)
            clear oX bb r2 q2 b2 k2 k5
            go_wp2
            go_ret
            exact F.out
          | some y =>
            have oY : Own w2 wr.drew.heap.size (.slice X xn xc) y := oX
            have hy60 := (step_len (stepAt_parts HO.out).2)
            have hxn : xn ≤ 1048576 := by have := Own.len oY; omega
            have hU2 := (HU.out.drew.more (B' := wr.drew.heap.size) (Nat.le_of_lt zA0)).next bb
            have LE := Lib.hid (specSame X U xn un xc uc y x.2.2 w2 (Own.seg oY) hU2 hxn hun)
            have RY := Lib.hid (show Rd w2 w2.heap.size sI [.slice X xn xc] y ∧ sz sI y ≤ 1048576 from ⟨rd_own oY, by rw [sz_ints]; omega⟩)
            clear oX oY hU2 bb
            go_wp2_with fail
            refine LE.out.mono ?_
            rintro e w3 ⟨rfl, dd, rfl⟩
            by_cases hyx : y = x.2.2
            · have HGN := Lib.hid (go_step hil EX.out HO.out hyx)
              have F := Lib.hid (show Wn w a v (.slice F fn fc) (.slice (some ⟨b, off, none⟩) sn sc) d k (i + 1) (.slice X xn xc) (w2.drewN dd) from ⟨r2.drewN dd, q2.drewN dd, below_drewN b2 dd, ⟨_, _, _, rfl⟩, y, RY.out.1.next (drewN_below w2 dd), RY.out.2, by rw [HGO.out, HGN.out]⟩)
              rw [decide_eq_true hyx]
              clear r2 q2 b2 k2 k5 LE
              go_wp2
              go_roundg (gk - 1)
              case measure => have := HG.out; omega
              case rel => exact ⟨i + 1, by simp, by have := HG.out; omega, F.out⟩
            · have F := Lib.hid (ansB (b := walkB d.1 d.2 k) (a := false) (by rw [HYES.out, HGO.out, go_differ hil EX.out HO.out hyx]; rfl) (below_drewN b2 dd))
              rw [decide_eq_false hyx]
              clear r2 q2 b2 k2 k5 LE
              go_wp2
              go_ret
              exact F.out
        · have F := Lib.hid (ansB (b := walkB d.1 d.2 k) (a := true) (by rw [HYES.out, hgo, go_all (by rw [HSN.out]; omega)]; rfl) T.b)
          clear T ht hzt hgo
          go_wp2
          go_ret
          exact F.out
    · have F := Lib.hid (ansB (b := walkB d.1 d.2 k) (a := false) (by rw [walk_long HSN.out h60]) bel)
      have hgt : (60 : Int) < (sn : Int) := by omega
      clear rA rW bel LST
      go_wp2
      go_ret
      exact F.out
end Go.Proofs.YtpcnjcgglonifaaGreat.walkSpec
end

section
namespace Go.Proofs.YtpcnjcgglonifaaGreat.stepsMath
open sig term termOk termFacts ruleMath stepMath walkMath

def stF (sg : List Int) (rs : List Rl) (t : List Int) (a r : Nat) : Option St := (stepO sg (rs.getD r ([], [])) t a).map fun v => ((a : Int), (r : Int), v)
def stN (sg : List Int) (rs : List Rl) (t : List Int) (i k : Nat) : List St := (List.range i).flatMap (fun a => (List.range rs.length).filterMap (stF sg rs t a)) ++ (List.range k).filterMap (stF sg rs t i)
section
variable {sg : List Int} {rs : List Rl} {t : List Int} {i k : Nat}
theorem st_zero : stN sg rs t 0 0 = [] := rfl
theorem st_all : stN sg rs t t.length 0 = stepsL sg rs t := by unfold stN; rw [List.range_zero, List.filterMap_nil, List.append_nil]; rfl
theorem st_row : stN sg rs t i rs.length = stN sg rs t (i + 1) 0 := by
  unfold stN
  rw [List.range_zero, List.filterMap_nil, List.append_nil, List.range_succ, List.flatMap_append]
  simp
theorem st_some {v : List Int} (h : stepO sg (rs.getD k ([], [])) t i = some v) : stN sg rs t i (k + 1) = stN sg rs t i k ++ [((i : Int), (k : Int), v)] := by
  unfold stN
  rw [List.range_succ, List.filterMap_append, ← List.append_assoc]
  have : stF sg rs t i k = some ((i : Int), (k : Int), v) := by unfold stF; rw [h]; rfl
  simp [this]
theorem st_none (h : stepO sg (rs.getD k ([], [])) t i = none) : stN sg rs t i (k + 1) = stN sg rs t i k := by
  unfold stN
  rw [List.range_succ, List.filterMap_append]
  have : stF sg rs t i k = none := by unfold stF; rw [h]; rfl
  simp [this]
theorem st_len : (stN sg rs t i k).length ≤ i * rs.length + k := by
  unfold stN
  rw [List.length_append]
  have h1 : ∀ n : Nat, ∀ a, ((List.range n).filterMap (stF sg rs t a)).length ≤ n := fun n a => by
    have := List.length_filterMap_le (stF sg rs t a) (List.range n)
    rwa [List.length_range] at this
  have h2 : ∀ i : Nat, ((List.range i).flatMap (fun a => (List.range rs.length).filterMap (stF sg rs t a))).length ≤ i * rs.length := fun i => by
    induction i with
    | zero => simp
    | succ i ih =>
      rw [List.range_succ, List.flatMap_append, List.length_append, Nat.add_mul]
      have := h1 rs.length i
      simp only [List.flatMap_cons, List.flatMap_nil, List.append_nil]
      omega
  have := h1 k i
  have := h2 i
  omega
end
def rdN (sg : List Int) (rs : List Rl) (t : List Int) (i k : Nat) : Nat := ((List.range i).map fun a => rs.countP fun x => redB sg x t a).sum + (rs.take k).countP fun x => redB sg x t i
section
variable {sg : List Int} {rs : List Rl} {t : List Int} {i k : Nat}
theorem rd_step (h : k < rs.length) : rdN sg rs t i (k + 1) = rdN sg rs t i k + if redB sg (rs.getD k ([], [])) t i = true then 1 else 0 := by
  unfold rdN
  rw [List.take_succ_eq_append_getElem h, List.countP_append]
  have : rs.getD k ([], []) = rs[k] := by simp [List.getD, h]
  rw [this, List.countP_cons, List.countP_nil]
  omega
end
end Go.Proofs.YtpcnjcgglonifaaGreat.stepsMath
end

section
namespace Go.Proofs.YtpcnjcgglonifaaGreat.ownL
open Go.RowKit base ints sig cursor marks app appAt sym segs shape drawX
set_option maxRecDepth 100000

theorem Ow.one {w : World} : ∀ {s : Sh} {cs : List Value} {d : Dat s} {F : List Nat}, Ow w s cs d F → ∀ u ∈ cs, u.oneCell' = true
  | .num, _, _, _, h, u, hu => by have h : _ = _ ∧ _ := h; rw [h.1] at hu; rw [List.mem_singleton.1 hu]; rfl
  | .bit, _, _, _, h, u, hu => by have h : _ = _ ∧ _ := h; rw [h.1] at hu; rw [List.mem_singleton.1 hu]; rfl
  | .row _ _, _, _, _, h, u, hu => by obtain ⟨A, n, c, e, _⟩ := h; rw [e] at hu; rw [List.mem_singleton.1 hu]; rfl
  | .cat a b, _, _, _, h, u, hu => by
    obtain ⟨ca, cb, Fa, Fb, e, _, h1, h2⟩ := h
    rw [e] at hu
    rcases List.mem_append.1 hu with hu | hu
    · exact Ow.one h1 u hu
    · exact Ow.one h2 u hu

def OwnL (w : World) (lo hi : Nat) (e : TypeId) (s : Sh) (A : Option Addr) (n c : Nat) (D : List (Dat s)) : Prop :=
  D.length = n ∧ (∀ k, blk A = some k → k < hi) ∧ ∃ (vs : List Value) (G : Nat → List Nat), w.ownsRow lo e (nc s) (.slice A n c) n vs ∧ (A = none → c = 0) ∧ ((List.range n).flatMap G).Nodup ∧
    ∀ j, j < n → Ow w s (cellsOf (nc s) vs j) (D.getD j (dft s)) (G j) ∧ ∀ q ∈ G j, lo ≤ q ∧ q < hi ∧ some q ≠ blk A
section
variable {w w' : World} {lo hi n c : Nat} {e : TypeId} {s : Sh} {A : Option Addr} {D : List (Dat s)}
theorem OwnL.nil (w : World) (lo hi : Nat) (e : TypeId) (s : Sh) : OwnL w lo hi e s none 0 0 [] := ⟨rfl, (fun k hk => by cases hk), [], fun _ => [], ⟨by simp, .inl ⟨rfl, rfl⟩⟩, fun _ => rfl, by simp, fun j hj => absurd hj (Nat.not_lt_zero _)⟩
theorem OwnL.empty (w : World) {lo hi : Nat} (e : TypeId) (s : Sh) (h : lo ≤ w.heap.size) (h2 : w.heap.size < hi) : OwnL (w.alloc (.cells #[] e)) lo hi e s (some ⟨w.heap.size, 0, none⟩) 0 0 [] :=
  ⟨rfl, (fun k hk => by injection hk with hk; rw [← hk]; exact h2), [], fun _ => [], ⟨by simp, .inr ⟨w.heap.size, 0, #[], rfl, h, heap_alloc_new w _, Nat.le_refl _, by decide, by simp, by simp⟩⟩, (fun e => by cases e), by simp, fun j hj => absurd hj (Nat.not_lt_zero _)⟩
theorem OwnL.keep (h : OwnL w lo hi e s A n c D) (hk : ∀ k, lo ≤ k → k < hi → k < w.heap.size → w'.heap[k]? = w.heap[k]?) (hs : w.heap.size ≤ w'.heap.size) : OwnL w' lo hi e s A n c D := by
  obtain ⟨h1, h2, vs, G, h3, h4, h5, h6⟩ := h
  refine ⟨h1, h2, vs, G, ?_, h4, h5, fun j hj => ⟨(h6 j hj).1.keep fun q hq => ?_, (h6 j hj).2⟩⟩
  · refine ⟨h3.1, ?_⟩
    rcases h3.2 with q | ⟨g, cap, cur, e1, hg, hr, q⟩
    · exact .inl q
    · have hlt := (Array.getElem?_eq_some_iff.1 hr).1
      injection e1 with e2 e3 e4
      exact .inr ⟨g, cap, cur, by rw [e2, e4], hg, (hk g hg (h2 g (by rw [e2]; rfl)) hlt).trans hr, q⟩
  · have := (h6 j hj).2 q hq
    exact hk q this.1 this.2.1 ((h6 j hj).1.lt q hq)
theorem OwnL.next (h : OwnL w lo hi e s A n c D) (hb : Below w.heap.size w w') : OwnL w' lo hi e s A n c D := h.keep (fun k _ _ hk => hb.block k hk) hb.size
theorem OwnL.btw {lo' hi' : Nat} (h : OwnL w lo hi e s A n c D) (hb : Btw lo' hi' w w') (ho : hi ≤ lo' ∨ hi' ≤ lo) : OwnL w' lo hi e s A n c D := h.keep (fun k h1 h2 hk => hb.block k hk (by omega)) hb.size
theorem OwnL.wider {lo' hi' : Nat} (h : OwnL w lo hi e s A n c D) (h1 : lo' ≤ lo) (h2 : hi ≤ hi') : OwnL w lo' hi' e s A n c D := by
  obtain ⟨q1, q2, vs, G, q3, q4, q5, q6⟩ := h
  refine ⟨q1, fun k hk => Nat.lt_of_lt_of_le (q2 k hk) h2, vs, G, ⟨q3.1, ?_⟩, q4, q5, fun j hj => ⟨(q6 j hj).1, fun q hq => ?_⟩⟩
  · rcases q3.2 with q | ⟨g, cap, cur, e1, hg, q⟩
    · exact .inl q
    · exact .inr ⟨g, cap, cur, e1, by omega, q⟩
  · have := (q6 j hj).2 q hq
    exact ⟨by omega, by omega, this.2.2⟩
theorem OwnL.ge (h : OwnL w lo hi e s A n c D) : ∀ k, blk A = some k → lo ≤ k ∧ k < w.heap.size := fun k hk => by
  obtain ⟨_, _, vs, G, ho, _⟩ := h
  exact World.ownsRow.lt ho k (by rw [blk_own]; exact hk)
theorem OwnL.owned (h : OwnL w lo hi e s A n c D) : Owned w lo hi (.row e s) [.slice A n c] D := by
  obtain ⟨h1, h2, vs, G, h3, h4, h5, h6⟩ := h
  rcases h3.2 with ⟨e1, h0⟩ | ⟨g, cap, cur, e1, hg, hrow, hn, hm, hs, ht⟩
  · injection e1 with a1 a2 a3
    subst a1 a2 a3
    exact ⟨[], ⟨none, 0, 0, rfl, h1, .inl ⟨rfl, rfl, rfl, rfl⟩⟩, by simp, fun k hk => by cases hk⟩
  · injection e1 with a1 a2 a3
    subst a1 a3
    have hl : vs.length = n * nc s := h3.1
    refine ⟨g :: (List.range n).flatMap G, ⟨_, n, c, rfl, h1, .inr ⟨g, cur, cellsOf (nc s) vs, G, rfl, hrow, hn, by unfold maxLen at hm; omega, hs, rfl, fun j hj => ?_⟩⟩, List.nodup_cons.2 ⟨fun hb => ?_, h5⟩, fun k hk => ?_⟩
    · have hjn : j * nc s + nc s ≤ n * nc s := by
        have := Nat.mul_le_mul_right (nc s) (show j + 1 ≤ n by omega)
        rw [Nat.add_mul] at this
        omega
      refine ⟨(h6 j hj).1.len, fun i hi => ?_, (h6 j hj).1⟩
      have h7 : cur.toList[j * nc s + i]? = vs[j * nc s + i]? := by rw [← ht, List.getElem?_take, if_pos (by omega)]
      rw [← Array.getElem?_toList, h7]
      unfold cellsOf
      rw [List.getElem?_take, if_pos hi, List.getElem?_drop]
    · obtain ⟨j, hj, hb⟩ := List.mem_flatMap.1 hb
      exact ((h6 j (List.mem_range.1 hj)).2 g hb).2.2 rfl
    · rcases List.mem_cons.1 hk with hk | hk
      · rw [hk]; exact ⟨hg, h2 g rfl⟩
      · obtain ⟨j, hj, hb⟩ := List.mem_flatMap.1 hk
        have := (h6 j (List.mem_range.1 hj)).2 k hb
        exact ⟨this.1, this.2.1⟩
theorem OwnL.rd (h : OwnL w lo hi e s A n c D) : Rd w w.heap.size (.row e s) [.slice A n c] D := h.owned.rd
theorem cells_left {k n j : Nat} {vs es : List Value} (hl : vs.length = n * k) (hj : j < n) : cellsOf k (vs ++ es) j = cellsOf k vs j := by
  have hjn : j * k + k ≤ n * k := by
    have := Nat.mul_le_mul_right k (show j + 1 ≤ n by omega)
    rw [Nat.add_mul] at this
    omega
  unfold cellsOf
  rw [List.drop_append_of_le_length (by omega), List.take_append_of_le_length (by rw [List.length_drop]; omega)]
theorem cells_right {k n j : Nat} {vs es : List Value} (hl : vs.length = n * k) : cellsOf k (vs ++ es) (n + j) = cellsOf k es j := by
  unfold cellsOf
  rw [show (n + j) * k = vs.length + j * k by rw [hl, Nat.add_mul], ← List.drop_drop, List.drop_left]
theorem flat_range {G H : Nat → List Nat} : ∀ {n m : Nat}, (List.range (n + m)).flatMap (fun j => if j < n then G j else H (j - n)) = (List.range n).flatMap G ++ (List.range m).flatMap H
  | n, 0 => by
    simp only [Nat.add_zero, List.range_zero, List.flatMap_nil, List.append_nil]
    rw [List.flatMap_def, List.flatMap_def]
    congr 1
    exact List.map_congr_left fun j hj => if_pos (List.mem_range.1 hj)
  | n, m + 1 => by
    rw [← Nat.add_assoc, List.range_succ, List.flatMap_append, flat_range, List.range_succ, List.flatMap_append]
    simp
    intro h; omega
theorem ownL_app {mid hi2 m : Nat} {vs es : List Value} {G : Nat → List Nat} {E : List (Dat s)} {H : Nat → List Nat} {A' : Option Addr} {c' : Nat} (h1 : D.length = n) (h2 : ∀ k, blk A = some k → k < hi) (h3 : w.ownsRow lo e (nc s) (.slice A n c) n vs) (h5 : ((List.range n).flatMap G).Nodup)
    (h6 : ∀ j, j < n → Ow w s (cellsOf (nc s) vs j) (D.getD j (dft s)) (G j) ∧ ∀ q ∈ G j, lo ≤ q ∧ q < hi ∧ some q ≠ blk A) (hmid : hi ≤ mid) (hlo : lo ≤ mid)
    (hE : E.length = m) (hn : ((List.range m).flatMap H).Nodup) (hin : ∀ j, j < m → Ow w s (cellsOf (nc s) es j) (E.getD j (dft s)) (H j) ∧ ∀ q ∈ H j, mid ≤ q ∧ q < hi2)
    (hown : w'.ownsRow lo e (nc s) (.slice A' (n + m) c') (n + m) (vs ++ es)) (hg : w.grownBy w' (blk A)) (hat : blk A' = blk A ∨ blk A' = some w.heap.size) (hc' : A' = none → c' = 0) : OwnL w' lo w'.heap.size e s A' (n + m) c' (D ++ E) := by
  have hvl : vs.length = n * nc s := h3.1
  have hA' : ∀ k, blk A' = some k → k < w'.heap.size := fun k hk => (World.ownsRow.lt hown k (by rw [blk_own]; exact hk)).2
  refine ⟨by simp [h1, hE], hA', vs ++ es, fun j => if j < n then G j else H (j - n), hown, hc', ?_, fun j hj => ?_⟩
  · rw [flat_range]
    refine List.nodup_append.2 ⟨h5, hn, fun x hx y hy e => ?_⟩
    obtain ⟨i, hi', hx⟩ := List.mem_flatMap.1 hx
    obtain ⟨j, hj', hy⟩ := List.mem_flatMap.1 hy
    have q1 := (h6 i (List.mem_range.1 hi')).2 x hx
    have q2 := (hin j (List.mem_range.1 hj')).2 y hy
    omega
  · dsimp only
    by_cases ej : j < n
    · rw [if_pos ej, cells_left hvl ej, show (D ++ E).getD j (dft s) = D.getD j (dft s) by simp [List.getD, List.getElem?_append_left (show j < D.length by omega)]]
      obtain ⟨o1, o2⟩ := h6 j ej
      refine ⟨o1.keep fun q hq => hg.block q (o1.lt q hq) (fun e => (o2 q hq).2.2 e), fun q hq => ?_⟩
      have q3 := o2 q hq
      refine ⟨q3.1, Nat.lt_of_lt_of_le (o1.lt q hq) hg.size, ?_⟩
      rcases hat with e2 | e2
      · rw [e2]; exact q3.2.2
      · rw [e2]; intro e3; injection e3 with e3; have := o1.lt q hq; omega
    · obtain ⟨i, rfl⟩ : ∃ i, j = n + i := ⟨j - n, by omega⟩
      have hi' : i < m := by omega
      rw [if_neg ej, cells_right hvl, show n + i - n = i by omega, show (D ++ E).getD (n + i) (dft s) = E.getD i (dft s) by simp [List.getD, List.getElem?_append_right (show D.length ≤ n + i by omega), h1]]
      obtain ⟨o1, o2⟩ := hin i hi'
      have hne : ∀ q ∈ H i, some q ≠ blk A := fun q hq e => by
        have := h2 q e.symm
        have := o2 q hq
        omega
      refine ⟨o1.keep fun q hq => hg.block q (o1.lt q hq) (fun e => hne q hq e), fun q hq => ?_⟩
      have q3 := o2 q hq
      refine ⟨by omega, Nat.lt_of_lt_of_le (o1.lt q hq) hg.size, ?_⟩
      rcases hat with e2 | e2
      · rw [e2]; exact hne q hq
      · rw [e2]; intro e3; injection e3 with e3; have := o1.lt q hq; omega
end

theorem OwnL.single {w : World} {lo hi g : Nat} {e : TypeId} {s : Sh} {es : List Value} {y : Dat s} (hr : Row w g e es.toArray) (ho : Owned w lo hi s es y) (hg : hi ≤ g) (hlo : lo ≤ g) : OwnL w lo (g + 1) e s (some ⟨g, 0, none⟩) 1 1 [y] := by
  obtain ⟨F, hF, hFn, hFb⟩ := ho
  have hel := hF.len
  refine ⟨rfl, fun k hk => by injection hk with hk; have hk : g = k := hk; omega, es, fun _ => F, ⟨by rw [hel]; simp, .inr ⟨g, 1, es.toArray, rfl, hlo, hr, Nat.le_refl _, by unfold maxLen; omega, by simp [hel], by simp [← hel]⟩⟩, (fun e => by cases e), by simpa using hFn, fun j hj => ?_⟩
  obtain rfl : j = 0 := by omega
  refine ⟨?_, fun q hq => ?_⟩
  · have : cellsOf (nc s) es 0 = es := by unfold cellsOf; rw [Nat.zero_mul, List.drop_zero, List.take_of_length_le (by omega)]
    rw [this]; exact hF
  · have := hFb q hq
    refine ⟨this.1, by omega, fun e => ?_⟩
    injection e with e
    have e : q = g := e
    omega
theorem run_appL {w : World} (ty T e : TypeId) (s : Sh) (z : Value) (bytes : Nat) (hT : Tryz.prog.underlying T = some (.slice e))
    (hI : (Tryz.prog.info? e).map (fun i => (i.zero, i.size, i.bytes)) = some (some z, nc s, bytes)) (hzc : z.cells.size = nc s) (hby : bytes ≤ 4096)
    (lo hi mid hi2 : Nat) (A : Option Addr) (n c g m c2 : Nat) (D E : List (Dat s)) (hown : OwnL w lo hi e s A n c D) (hx : OwnL w mid hi2 e s (some ⟨g, 0, none⟩) m c2 E) (hmid : hi ≤ mid) (hlm : lo ≤ mid) (hn : n ≤ 1048576) (hm : m ≤ 1048576) (hlo : lo ≤ w.heap.size) :
    ∃ A' c' w', (Builtin.append_ #[T, T] ty #[.slice A n c, .slice (some ⟨g, 0, none⟩) m c2]).run Tryz.prog w = .ok (.slice A' (n + m) c') w' ∧ OwnL w' lo w'.heap.size e s A' (n + m) c' (D ++ E) ∧ w.grownBy w' (blk A) ∧ (blk A' = blk A ∨ blk A' = some w.heap.size) ∧ Below lo w w' ∧ (A ≠ none ∨ 0 < m → ∃ g', A' = some ⟨g', 0, none⟩) := by
  obtain ⟨i0, hi', hz0, hz1, hz2⟩ := info_parts hI
  obtain ⟨h1, h2, vs, G, hr, h4, h5, h6⟩ := hown
  obtain ⟨k1, k2, us, H, kr, k4, k5, k6⟩ := hx
  have hul : us.length = m * nc s := kr.1
  have hone : ∀ u ∈ us, u.oneCell' = true := fun u hu => by
    obtain ⟨i, hi2, rfl⟩ := List.getElem_of_mem hu
    have hnp := nc_pos s
    have hj : i / nc s < m := by rw [Nat.div_lt_iff_lt_mul hnp]; omega
    refine Ow.one (k6 (i / nc s) hj).1 _ ?_
    unfold cellsOf
    have hdm : i / nc s * nc s + i % nc s = i := by rw [Nat.mul_comm]; exact Nat.div_add_mod i (nc s)
    have hmod := Nat.mod_lt i hnp
    refine List.mem_of_getElem? (i := i % nc s) ?_
    rw [List.getElem?_take, if_pos hmod, List.getElem?_drop, hdm]
    exact List.getElem?_eq_getElem hi2
  have hcells : ∀ j u, us[j]? = some u → w.cell? ((⟨g, 0, none⟩ : Addr).add j) = some u := fun j u hj => by
    have e2 : (⟨g, 0, none⟩ : Addr).add j = ⟨g, j, none⟩ := by unfold Addr.add; split <;> simp_all
    rw [e2]
    rcases kr.2 with ⟨e1, _⟩ | ⟨g', cap, cur, e1, _, hrow, _, _, _, ht⟩
    · cases e1
    · injection e1 with a1 a2 a3
      injection a1 with a1
      injection a1 with a1
      subst a1
      rw [Row.cell (t := e) (cs := cur) hrow, ← Array.getElem?_toList]
      have hjl := (List.getElem?_eq_some_iff.1 hj).1
      rw [← ht, List.getElem?_take, if_pos (by omega)] at hj
      exact hj
  obtain ⟨v', w', hrun, hown', hg, hnn, hat⟩ := run_append_own_at (P := Tryz.prog) w lo T ty e i0 z (nc s) bytes hT hi' hz0 hz1 hz2 hzc (nc_pos s) (.slice A n c) n vs hr ⟨g, 0, none⟩ m c2 us hul hcells hone (by unfold maxLen; omega) (by have h1 : (n + m) * bytes ≤ 2097152 * 4096 := Nat.mul_le_mul (by omega) hby; omega) hlo
  rw [blk_own] at hg
  have hform : ∃ A' c', v' = .slice A' (n + m) c' ∧ (A' = none → c' = 0) ∧ (A ≠ none ∨ 0 < m → ∃ g', A' = some ⟨g', 0, none⟩) := by
    rcases hown'.2 with ⟨e1, h0⟩ | ⟨g', cap, cur, e1, _⟩
    · refine ⟨none, 0, by rw [e1, h0], fun _ => rfl, fun hh => ?_⟩
      have := (hnn.1 e1)
      rcases hh with hh | hh
      · exact absurd (by have := this.1; injection this) hh
      · omega
    · exact ⟨_, _, e1, (fun e => by cases e), fun _ => ⟨g', rfl⟩⟩
  obtain ⟨A', c', rfl, hc', hf⟩ := hform
  rw [blk_own, blk_own] at hat
  exact ⟨A', c', w', hrun, ownL_app (hi2 := hi2) (H := H) h1 h2 hr h5 h6 hmid hlm k1 k5 (fun j hj => ⟨(k6 j hj).1, fun q hq => ⟨((k6 j hj).2 q hq).1, ((k6 j hj).2 q hq).2.1⟩⟩) hown' hg hat hc', hg, hat, (Below.refl lo w).grown hg hlo (fun k hk => (World.ownsRow.lt hr k (by rw [blk_own]; exact hk)).1), hf⟩
theorem wp_appL {w : World} {o : Oper} {a : Act} {K : Act → World → Prop} {Q : Exit → Act → World → Prop} (sx x : Operand) (T e : TypeId) (s : Sh) (z : Value) (bytes : Nat) (hT : Tryz.prog.underlying T = some (.slice e))
    (hI : (Tryz.prog.info? e).map (fun i => (i.zero, i.size, i.bytes)) = some (some z, nc s, bytes)) (hzc : z.cells.size = nc s) (hby : bytes ≤ 4096)
    (ho : o.op = .call { callee := .builtin .append, args := #[sx, x], argTypes := #[T, T] })
    (lo hi mid hi2 : Nat) (A : Option Addr) (n c g m c2 : Nat) (D E : List (Dat s)) (hs : a.eval sx = .slice A n c) (hown : OwnL w lo hi e s A n c D) (hxv : a.eval x = .slice (some ⟨g, 0, none⟩) m c2) (hx : OwnL w mid hi2 e s (some ⟨g, 0, none⟩) m c2 E) (hmid : hi ≤ mid) (hlm : lo ≤ mid) (hn : n ≤ 1048576) (hm : m ≤ 1048576) (hlo : lo ≤ w.heap.size)
    (h : ∀ A' c' w', OwnL w' lo w'.heap.size e s A' (n + m) c' (D ++ E) → w.grownBy w' (blk A) → (blk A' = blk A ∨ blk A' = some w.heap.size) → Below lo w w' → (A ≠ none ∨ 0 < m → ∃ g', A' = some ⟨g', 0, none⟩) → K (a.put o.dst (.slice A' (n + m) c')) w') : o.wp Tryz.prog a w K Q := by
  obtain ⟨A', c', w', hr, h2, h3, h4, h5, h6⟩ := run_appL o.type T e s z bytes hT hI hzc hby lo hi mid hi2 A n c g m c2 D E hown hx hmid hlm hn hm hlo
  unfold Oper.wp execOp
  simp only [ho, resolve, invoke, builtin, Sem.run_bind, Sem.run_pure, Result.andThen_ok, List.map_toArray, List.map_cons, List.map_nil, hs, hxv, hr]
  exact h A' c' w' h2 h3 h4 h5 h6
theorem appLm {w : World} {ops : Array Oper} {rest : List Oper} {o : Oper} {a : Act} {Q : Exit → Act → World → Prop} (hgd : o.guard = none) (sx x : Operand) (T e : TypeId) (s : Sh) (z : Value) (bytes : Nat) (hT : Tryz.prog.underlying T = some (.slice e))
    (hI : (Tryz.prog.info? e).map (fun i => (i.zero, i.size, i.bytes)) = some (some z, nc s, bytes)) (hzc : z.cells.size = nc s) (hby : bytes ≤ 4096)
    (ho : o.op = .call { callee := .builtin .append, args := #[sx, x], argTypes := #[T, T] })
    (lo hi mid hi2 : Nat) (A : Option Addr) (n c g m c2 : Nat) (D E : List (Dat s)) (hs : a.eval sx = .slice A n c) (hown : OwnL w lo hi e s A n c D) (hxv : a.eval x = .slice (some ⟨g, 0, none⟩) m c2) (hx : OwnL w mid hi2 e s (some ⟨g, 0, none⟩) m c2 E) (hmid : hi ≤ mid) (hlm : lo ≤ mid) (hn : n ≤ 1048576) (hm : m ≤ 1048576) (hlo : lo ≤ w.heap.size)
    (h : ∀ A' c' w', OwnL w' lo w'.heap.size e s A' (n + m) c' (D ++ E) → w.grownBy w' (blk A) → (blk A' = blk A ∨ blk A' = some w.heap.size) → Below lo w w' → (A ≠ none ∨ 0 < m → ∃ g', A' = some ⟨g', 0, none⟩) → wpList Tryz.prog ops Q rest (a.put o.dst (.slice A' (n + m) c')) w') : wpList Tryz.prog ops Q (o :: rest) a w :=
  wpList_plain hgd fun _ hK => wp_appL sx x T e s z bytes hT hI hzc hby ho lo hi mid hi2 A n c g m c2 D E hs hown hxv hx hmid hlm hn hm hlo fun A' c' w' h1 h2 h3 h4 h5 => hK _ _ (h A' c' w' h1 h2 h3 h4 h5)
end Go.Proofs.YtpcnjcgglonifaaGreat.ownL
end

section
namespace Go.Proofs.YtpcnjcgglonifaaGreat.stepSpec
open Go.RowKit base ints sig term termOk endAt endOf marks app sym sub segs segsHelp kinds termFacts shifted matchMath matchSpec shape kindsR kindsW ruleMath ruleSpec stepMath walkMath stepsMath ownL
set_option maxRecDepth 100000

theorem owned_step {w : World} {lo : Nat} {A : Option Addr} {n c : Nat} {v : List Int} (h : Own w lo (.slice A n c) v) (a b : Int) : Owned w lo w.heap.size sStep [.int .i64 a, .int .i64 b, .slice A n c] (a, b, v) := by
  obtain ⟨F, h1, h2, h3⟩ := (ow_ints (lo := lo) (hi := w.heap.size)).2 (Ownd.of_own h)
  exact ⟨F, ⟨[.int .i64 a], [.int .i64 b, .slice A n c], [], F, rfl, rfl, ⟨rfl, rfl⟩, ⟨[.int .i64 b], [.slice A n c], [], F, rfl, rfl, ⟨rfl, rfl⟩, h1⟩⟩, h2, h3⟩
def AnsSteps (w : World) (L : List St) (e : Ending) (w' : World) : Prop := ∃ A n c, e = .returned (.slice A n c) ∧ OwnL w' w.heap.size w'.heap.size 81 sStep A n c L ∧ Below w.heap.size w w'
theorem AnsSteps.copy {w w' : World} {L : List St} {e : Ending} (h : AnsSteps w L e w') : Copy1 w sStepS L e w' := by
  obtain ⟨A, n, c, e1, o, b⟩ := h
  exact ⟨A, n, c, e1, o.owned, b⟩
theorem ansSteps_none {w w' : World} {L : List St} (h : L = []) (hb : Below w.heap.size w w') : AnsSteps w L (.returned (.slice (some ⟨w'.heap.size, 0, none⟩) 0 0)) (w'.alloc (.cells #[] 81)) :=
  ⟨_, 0, 0, rfl, by rw [h]; exact OwnL.empty w' _ _ hb.size (by simp), hb.alloc hb.size _⟩

structure Sn (w : World) (A V : Option Addr) (n cs q cv : Nat) (L : List St) (O : Option Addr) (on oc : Nat) (wr : World) : Prop where
  r : Row wr w.heap.size 29 #[.slice A n cs, .slice V q cv]
  o : OwnL wr (w.heap.size + 1) wr.heap.size 81 sStep O on oc L
  b : Below w.heap.size w wr
theorem Sn.below {w wr w' : World} {A V : Option Addr} {n cs q cv : Nat} {L : List St} {O : Option Addr} {on oc : Nat} (h : Sn w A V n cs q cv L O on oc wr) (hb : Below wr.heap.size wr w') : Sn w A V n cs q cv L O on oc w' :=
  ⟨h.r.next hb, (h.o.next hb).wider (Nat.le_refl _) hb.size, next_trans h.b hb⟩
theorem Sn.len {w wr : World} {A V : Option Addr} {n cs q cv : Nat} {L : List St} {O : Option Addr} {on oc : Nat} (h : Sn w A V n cs q cv L O on oc wr) : L.length = on := h.o.1

set_option maxHeartbeats 4000000 in
theorem l7Steps (a v u : Value) (d : Dat sSystem) (t : List Int) (w : World) (h : Rd w w.heap.size sSystem [a, v] d) (ht : Rd w w.heap.size sI [u] t) (hz : sz sSystem d ≤ 1048576) (hok : rightB d.1 d.2 t = true) :
    Calls Tryz.prog 94 #[.agg #[a, v], u] w (AnsSteps w (stepsL d.1 d.2 t)) := by
  have htv := ht
  obtain ⟨T, m, c, rfl, hT, hcT⟩ := rd_ints.1 ht
  have h0 := h
  obtain ⟨A, n, cs, V, q, cv, rfl, rfl, hs, hc, hcv, hq, hn, hq1, hrs, hsg, hE⟩ := rd_sys h hz
  have HQ := Lib.hid hq
  have HTL := Lib.hid hT.1
  have LST := Lib.hid (fun (w1 : World) (bb : Below w.heap.size w w1) (x k : Nat) hx hk => l7Step _ _ _ d t x k w1 (h0.next bb) (htv.next bb) hz hok hx hk)
  have hm : m ≤ 60 := by have := (term_len (right_parts hok).2).2; have := hT.1; omega
  have hq12 : q ≤ 12 := by have := (sys_parts (right_parts hok).1).2.1; omega
  have HLEN := Lib.hid (fun i k (hi : i ≤ m) (hk : k ≤ q) => (show (stN d.1 d.2 t i k).length ≤ 1000 by
    have h1 := st_len (sg := d.1) (rs := d.2) (t := t) (i := i) (k := k)
    have h2 : i * d.2.length ≤ 60 * 12 := Nat.mul_le_mul (by omega) (by rw [hq]; omega)
    omega))
  have S0 : Sn w A V n cs q cv (stN d.1 d.2 t 0 0) (some ⟨w.heap.size + 1, 0, none⟩) 0 0 ((w.alloc (.cells #[.slice A n cs, .slice V q cv] 29)).alloc (.cells #[] 81)) :=
    ⟨(Row.new _ _ _).alloc _, by have := OwnL.empty (w.alloc (.cells #[.slice A n cs, .slice V q cv] 29)) (lo := w.heap.size + 1) (hi := w.heap.size + 1 + 1) 81 sStep (by simp) (by simp); simpa [st_zero] using this, ((Below.refl _ _).alloc (Nat.le_refl _) _).alloc (by simp) _⟩
  have HS0 := Lib.hid S0
  clear S0 h h0 ht htv hz hok hs hc hcv hq hrs hsg hE hT hcT
  go_enter Tryz.func94, Tryz.ntmps94
  go_wp2_with fail
  go_loopg [5, 6] m (fun G out at_ wr => ∃ (i on oc : Nat) (O : Option Addr), at_ = .int .i64 i ∧ i + G = m ∧ out = .slice O on oc ∧ Sn w A V n cs q cv (stN d.1 d.2 t i 0) O on oc wr)
  case atStart => exact ⟨0, 0, 0, _, rfl, by omega, rfl, HS0.out⟩
  case round =>
    clear HS0
    obtain ⟨i, on, oc, O, rfl, hiG, rfl, S⟩ := hrel
    obtain ⟨G, hG⟩ : ∃ G, G = gk := ⟨_, rfl⟩
    subst hG
    by_cases him : i < m
    · have HI := Lib.hid hiG
      have HS := Lib.hid S
      clear hiG S
      go_wp2_with fail
      go_loopg [5, 7] q (fun g out r wr => ∃ (k on oc : Nat) (O : Option Addr), r = .int .i64 k ∧ k + g = q ∧ out = .slice O on oc ∧ Sn w A V n cs q cv (stN d.1 d.2 t i k) O on oc wr)
      case atStart => exact ⟨0, _, _, _, rfl, by omega, rfl, HS.out⟩
      case round =>
        clear HS
        obtain ⟨k, on, oc, O, rfl, hkg, rfl, S⟩ := hrel
        have K0 : wr.cell? ⟨w.heap.size, 0, none⟩ = some (.slice A n cs) := S.r.cell 0
        have K1 : wr.cell? ⟨w.heap.size, 1, none⟩ = some (.slice V q cv) := S.r.cell 1
        by_cases hkq : k < q
        · have LS := Lib.hid (LST.out wr S.b i k (by rw [HTL.out]; exact him) (by rw [HQ.out]; exact hkq))
          obtain ⟨o, ho⟩ : ∃ o, stepO d.1 (d.2.getD k ([], [])) t i = o := ⟨_, rfl⟩
          rw [ho] at LS
          have HO := Lib.hid ho
          have HK := Lib.hid hkg
          have hon : on ≤ 1000 := by rw [← S.len]; exact HLEN.out i k (by omega) (by omega)
          clear ho hkg
          cases o with
          | none =>
            go_wp2_with fail
            refine LS.out.mono ?_
            rintro e w2 ⟨X, xn, xc, he, oX, bb⟩
            have he : e = .returned (.tuple #[.slice X xn xc, .bool false]) := he
            subst he
            have F := Lib.hid (show Sn w A V n cs q cv (stN d.1 d.2 t i (k + 1)) O on oc w2 by rw [st_none HO.out]; exact S.below bb)
            clear S oX bb LS K0 K1
            go_wp2
            go_roundg (gk - 1)
            case measure => have := HK.out; omega
            case rel => exact ⟨k + 1, on, oc, O, by simp, by have := HK.out; omega, rfl, F.out⟩
          | some x =>
            go_wp2_with fail
            refine LS.out.mono ?_
            rintro e w2 ⟨X, xn, xc, he, oX, bb⟩
            have he : e = .returned (.tuple #[.slice X xn xc, .bool true]) := he
            subst he
            have S2 := S.below bb
            have hX : Own w2 wr.heap.size (.slice X xn xc) x := oX
            have b3 : Below w2.heap.size w2 (w2.alloc (.cells #[.int .i64 (i : Int), .int .i64 (k : Int), .slice X xn xc] 81)) := (Below.refl _ _).alloc (Nat.le_refl _) _
            have oS := OwnL.single (e := 81) (s := sStep) (Row.new w2 81 #[.int .i64 (i : Int), .int .i64 (k : Int), .slice X xn xc]) ((owned_step hX (i : Int) (k : Int)).next b3) (Nat.le_refl _) bb.size
            have oL := (S.o.next bb).next b3
            have z1 : w.heap.size + 1 ≤ wr.heap.size := S.r.lt
            have z2 := bb.size
            have HAPP := Lib.hid (show OwnL (w2.alloc (.cells #[.int .i64 (i : Int), .int .i64 (k : Int), .slice X xn xc] 81)) (w.heap.size + 1) wr.heap.size 81 sStep O on oc (stN d.1 d.2 t i k) ∧ OwnL (w2.alloc (.cells #[.int .i64 (i : Int), .int .i64 (k : Int), .slice X xn xc] 81)) wr.heap.size (w2.heap.size + 1) 81 sStep (some ⟨w2.heap.size, 0, none⟩) 1 1 [((i : Int), (k : Int), x)] from ⟨oL, oS⟩)
            have HR2 := Lib.hid (S2.below b3)
            clear S S2 oX hX bb oS oL b3 LS K0 K1
            go_wp2_with (at_builtin; refine appLm rfl _ _ 39 81 sStep _ _ Tryz.underlying39 info_StepS rfl (by decide) rfl (w.heap.size + 1) wr.heap.size wr.heap.size (w2.heap.size + 1) O on oc w2.heap.size 1 1 _ _ rfl HAPP.out.1 rfl HAPP.out.2 (Nat.le_refl _) z1 (by omega) (by omega) (by simp; omega) ?_; intro O' oc' w4 oL4 hg4 hat4 b4 hf4)
            have F := Lib.hid (show Sn w A V n cs q cv (stN d.1 d.2 t i (k + 1)) O' (on + 1) oc' w4 from ⟨HR2.out.r.below b4 (by omega), by rw [st_some HO.out]; exact oL4, HR2.out.b.trans (b4.mono (by omega))⟩)
            clear oL4 hg4 hat4 b4 hf4 HAPP HR2
            go_wp2
            go_roundg (gk - 1)
            case measure => have := HK.out; omega
            case rel => exact ⟨k + 1, on + 1, oc', O', by simp, by have := HK.out; omega, rfl, F.out⟩
        · have e1 : k = q := by omega
          subst e1
          have S2 : Sn w A V n cs k cv (stN d.1 d.2 t (i + 1) 0) O on oc wr := by rw [← st_row, HQ.out]; exact S
          have F := Lib.hid S2
          clear S S2
          go_wp2
          go_roundg (G - 1)
          case measure => have := HI.out; omega
          case rel => exact ⟨i + 1, on, oc, O, by simp, by have := HI.out; omega, rfl, F.out⟩
    · have e1 : i = m := by omega
      subst e1
      have F : AnsSteps w (stepsL d.1 d.2 t) (.returned (.slice O on oc)) wr := ⟨O, on, oc, rfl, by rw [← st_all, HTL.out]; exact S.o.wider (by omega) (Nat.le_refl _), S.b⟩
      have HF := Lib.hid F
      clear F S
      go_wp2
      go_ret
      exact HF.out

set_option maxHeartbeats 2000000 in
theorem specStepsFrom (a v u : Value) (d : Dat sSystem) (t : List Int) (w : World) (h : Rd w w.heap.size sSystem [a, v] d) (ht : Rd w w.heap.size sI [u] t) (hz : sz sSystem d ≤ 1048576) (hz' : sz sI t ≤ 1048576) :
    Calls Tryz.prog 112 #[.agg #[a, v], u] w (AnsSteps w (stepsI d.1 d.2 t)) := by
  have htv := ht
  obtain ⟨T, m, c, rfl, hT, hcT⟩ := rd_ints.1 ht
  have hm := len_ints hT.1 hz'
  obtain ⟨W, hW, rA, bel⟩ := box1 w 29 #[a, v]
  have HW := Lib.hid hW
  have L1 := Lib.hid (l7Right _ _ d T m c t W (h.next bel) hz (hT.next bel) hm)
  have L2 := Lib.hid (fun (w1 : World) (bb : Below w.heap.size w w1) hok => l7Steps _ _ _ d t w1 (h.next bb) (htv.next bb) hz hok)
  clear hW h ht htv hz hz' hT hcT
  cases ok : rightB d.1 d.2 t with
  | false =>
    have HR := Lib.hid ok
    clear ok
    go_enter Tryz.func112, Tryz.ntmps112
    go_wp2_with fail
    rw [← HW.out]
    refine L1.out.mono ?_
    rintro e w1 ⟨he, bb⟩
    rw [HR.out] at he
    subst he
    have F := Lib.hid (ansSteps_none (L := stepsI d.1 d.2 t) (by unfold stepsI; rw [if_neg (by rw [HR.out]; simp)]) (next_trans bel bb))
    clear bb bel rA L2
    go_wp2
    go_ret
    exact F.out
  | true =>
    have HR := Lib.hid ok
    clear ok
    go_enter Tryz.func112, Tryz.ntmps112
    go_wp2_with fail
    rw [← HW.out]
    refine L1.out.mono ?_
    rintro e w1 ⟨he, bb⟩
    rw [HR.out] at he
    subst he
    replace rA := rA.next bb
    replace bel := next_trans bel bb
    have K0 : w1.cell? ⟨w.heap.size, 0, none⟩ = some a := rA.cell 0
    have K1 : w1.cell? ⟨w.heap.size, 1, none⟩ = some v := rA.cell 1
    clear bb L1 rA
    go_wp2_with fail
    refine (L2.out w1 bel HR.out).mono ?_
    rintro e w2 ⟨A, n, c, rfl, o, bb⟩
    have F : AnsSteps w (stepsI d.1 d.2 t) (.returned (.slice A n c)) w2 := ⟨A, n, c, rfl, by unfold stepsI; rw [if_pos HR.out]; exact o.wider bel.size (Nat.le_refl _), next_trans bel bb⟩
    have HF := Lib.hid F
    clear F o bb bel L2 K0 K1
    go_wp2
    go_ret
    exact HF.out
end Go.Proofs.YtpcnjcgglonifaaGreat.stepSpec
end

section
namespace Go.Proofs.YtpcnjcgglonifaaGreat.walkSpec
open Go.RowKit base ints sig term termOk endAt endOf marks app sym sub segs segsHelp kinds termFacts same shifted shape kindsR kindsW varsOf ruleMath ruleSpec stepMath walkMath stepSpec ownL heldT
set_option maxRecDepth 100000

theorem end_none {k : Wk} (h : k.2.length = 0) : endL k = k.1 := by unfold endL; rw [List.eq_nil_of_length_eq_zero h]; rfl
theorem end_last {k : Wk} {n : Nat} {x : St} (h : k.2.length = n + 1) (hx : k.2.getD n (0, 0, []) = x) : endL k = x.2.2 := by
  unfold endL
  have : k.2.getLast? = some x := by
    rw [List.getLast?_eq_getElem?, h, ← hx]
    have hn : n < k.2.length := by omega
    simp [List.getD, hn]
  rw [this]
def endW (sg : List Int) (rs : List Rl) (k : Wk) : List Int := if walkB sg rs k = true then endL k else []
theorem end_len {k : Wk} (h : sz sWalk k ≤ 1048576) : (endL k).length ≤ 1048576 := by
  have hz0 : sz sI k.1 + sz sStepS k.2 ≤ 1048576 := h
  by_cases h0 : k.2.length = 0
  · rw [end_none h0]
    have h1 : sz sI k.1 ≤ 1048576 := by omega
    rwa [sz_ints] at h1
  · obtain ⟨n, hn⟩ : ∃ n, k.2.length = n + 1 := ⟨k.2.length - 1, by omega⟩
    rw [end_last hn rfl]
    have h1 := sz_each (e := 81) (s := sStep) (d := k.2) (L := 1048576) (j := n) (show sz sStepS k.2 ≤ 1048576 by omega) (by omega)
    have h2 : sz sStep (k.2.getD n (dft sStep)) = 0 + (0 + sz sI (k.2.getD n (0, 0, [])).2.2) := rfl
    rw [h2, sz_ints] at h1
    omega
theorem endW_len {sg : List Int} {rs : List Rl} {k : Wk} (h : sz sWalk k ≤ 1048576) : (endW sg rs k).length ≤ 1048576 := by
  unfold endW
  split
  · exact end_len h
  · simp

theorem keep_alloc {w : World} {a : Addr} {v : Value} {o : Obj} (h : w.cell? a = some v) : (w.alloc o).cell? a = some v := (World.cell?_alloc_some w a o (by rw [h]; rfl)).trans h
theorem take_step {L : List St} {i : Nat} {x : St} (hi : i < L.length) (hx : L.getD i (0, 0, []) = x) : L.take i ++ [x] = L.take (i + 1) := by
  rw [List.take_succ_eq_append_getElem hi, ← hx]
  simp [List.getD, hi]

end Go.Proofs.YtpcnjcgglonifaaGreat.walkSpec
end

section
namespace Go.Proofs.YtpcnjcgglonifaaGreat.walkSpec
open Go.RowKit base ints sig term termOk endAt endOf marks app sym sub segs segsHelp kinds termFacts same shifted shape kindsR kindsW varsOf ruleMath ruleSpec stepMath walkMath stepSpec ownL heldT
set_option maxRecDepth 100000

def AnsWalk (w : World) (k : Wk) (b : Bool) (e : Ending) (w' : World) : Prop := ∃ A0 n0 c0 A1 n1 c1, e = .returned (.tuple #[.agg #[.slice A0 n0 c0, .slice A1 n1 c1], .bool b]) ∧ Owned w' w.heap.size w'.heap.size sWalk [.slice A0 n0 c0, .slice A1 n1 c1] k ∧ Below w.heap.size w w'
theorem owned_zero (w : World) (lo hi : Nat) : Owned w lo hi sWalk [.slice none 0 0, .slice none 0 0] (([], []) : List Int × List St) :=
  ⟨[], ⟨[.slice none 0 0], [.slice none 0 0], [], [], rfl, rfl, ⟨none, 0, 0, rfl, rfl, .inl ⟨rfl, rfl, rfl, rfl⟩⟩, ⟨none, 0, 0, rfl, rfl, .inl ⟨rfl, rfl, rfl, rfl⟩⟩⟩, List.nodup_nil, fun k hk => by cases hk⟩
theorem owned_walk {w : World} {lo mid hi : Nat} {X O : Option Addr} {xn xc n c : Nat} {f : List Int} {L : List St} (h : Ownd w lo mid X xn xc f) (h2 : OwnL w mid hi 81 sStep O n c L) (h3 : lo ≤ mid) (h4 : mid ≤ hi) : Owned w lo hi sWalk [.slice X xn xc, .slice O n c] (f, L) :=
  Owned.cat (ow_ints.2 h) h2.owned (Nat.le_refl _) h3 h4
theorem ansWalk_no {w w' : World} {k : Wk} {b : Bool} (h : k = ([], []) ∧ b = false) (hb : Below w.heap.size w w') : AnsWalk w k b (.returned (.tuple #[.agg #[.slice none 0 0, .slice none 0 0], .bool false])) w' :=
  ⟨none, 0, 0, none, 0, 0, by rw [h.2], by rw [h.1]; exact owned_zero _ _ _, hb⟩
def joinB (sg : List Int) (rs : List Rl) (a b : Wk) : Bool := (walkB sg rs a && walkB sg rs b) && (decide (endL a = b.1) && decide (a.2.length + b.2.length ≤ 60))
def joinW (sg : List Int) (rs : List Rl) (a b : Wk) : Wk := if joinB sg rs a b = true then (a.1, a.2 ++ b.2) else ([], [])
section
variable {sg : List Int} {rs : List Rl} {a b : Wk}
theorem join_off (h : joinB sg rs a b = false) : joinW sg rs a b = ([], []) ∧ joinB sg rs a b = false := ⟨by unfold joinW; rw [if_neg (by rw [h]; simp)], h⟩
theorem join_no1 (h : walkB sg rs a = false) : joinW sg rs a b = ([], []) ∧ joinB sg rs a b = false := join_off (by unfold joinB; rw [h]; rfl)
theorem join_no2 (h : walkB sg rs b = false) : joinW sg rs a b = ([], []) ∧ joinB sg rs a b = false := join_off (by unfold joinB; rw [h, Bool.and_false]; rfl)
theorem join_no3 (h : decide (endL a = b.1) = false) : joinW sg rs a b = ([], []) ∧ joinB sg rs a b = false := join_off (by unfold joinB; rw [h]; simp)
theorem join_no4 (h : ¬ a.2.length + b.2.length ≤ 60) : joinW sg rs a b = ([], []) ∧ joinB sg rs a b = false := join_off (by unfold joinB; rw [decide_eq_false h]; simp)
theorem join_yes (h1 : walkB sg rs a = true) (h2 : walkB sg rs b = true) (h3 : decide (endL a = b.1) = true) (h4 : a.2.length + b.2.length ≤ 60) : joinW sg rs a b = (a.1, a.2 ++ b.2) ∧ joinB sg rs a b = true := by
  have h : joinB sg rs a b = true := by unfold joinB; rw [h1, h2, h3, decide_eq_true h4]; rfl
  exact ⟨by unfold joinW; rw [if_pos h], h⟩
end

structure Jn (w : World) (a v f s f' s' : Value) (wr : World) : Prop where
  r0 : Row wr w.heap.size 29 #[a, v]
  r1 : Row wr (w.heap.size + 1) 41 #[f, s]
  r2 : Row wr (w.heap.size + 1 + 1) 41 #[f', s']
  r3 : Row wr (w.heap.size + 1 + 1 + 1) 41 #[.slice none 0 0, .slice none 0 0]
  b : Below w.heap.size w wr
section
variable {w wr w' : World} {a v f s f' s' : Value}
theorem Jn.next (h : Jn w a v f s f' s' wr) (hb : Below wr.heap.size wr w') : Jn w a v f s f' s' w' := ⟨h.r0.next hb, h.r1.next hb, h.r2.next hb, h.r3.next hb, next_trans h.b hb⟩
theorem Jn.drew (h : Jn w a v f s f' s' wr) : Jn w a v f s f' s' wr.drew := h.next (drew_below wr)
theorem Jn.below {lo : Nat} (h : Jn w a v f s f' s' wr) (hb : Below lo wr w') (hl : w.heap.size + 1 + 1 + 1 + 1 ≤ lo) : Jn w a v f s f' s' w' := ⟨h.r0.below hb (by omega), h.r1.below hb (by omega), h.r2.below hb (by omega), h.r3.below hb (by omega), h.b.trans (hb.mono (by omega))⟩
theorem Jn.size (h : Jn w a v f s f' s' wr) : w.heap.size + 1 + 1 + 1 + 1 ≤ wr.heap.size := h.r3.lt
end
theorem jn_new (w : World) (a v f s f' s' : Value) : ∃ W, W = (((w.alloc (.cells #[a, v] 29)).alloc (.cells #[f, s] 41)).alloc (.cells #[f', s'] 41)).alloc (.cells #[.slice none 0 0, .slice none 0 0] 41) ∧ Jn w a v f s f' s' W := by
  refine ⟨_, rfl, ?_, ?_, ?_, ?_, ?_⟩
  · exact (((Row.new w _ _).alloc _).alloc _).alloc _
  · have := ((Row.new (w.alloc (.cells #[a, v] 29)) 41 #[f, s]).alloc (.cells #[f', s'] 41)).alloc (.cells #[.slice none 0 0, .slice none 0 0] 41)
    simpa using this
  · have := (Row.new ((w.alloc (.cells #[a, v] 29)).alloc (.cells #[f, s] 41)) 41 #[f', s']).alloc (.cells #[.slice none 0 0, .slice none 0 0] 41)
    simpa using this
  · have := Row.new (((w.alloc (.cells #[a, v] 29)).alloc (.cells #[f, s] 41)).alloc (.cells #[f', s'] 41)) 41 #[.slice none 0 0, .slice none 0 0]
    simpa using this
  · exact ((((Below.refl _ _).alloc (Nat.le_refl _) _).alloc (by simp) _).alloc (by simp; omega) _).alloc (by simp; omega) _

end Go.Proofs.YtpcnjcgglonifaaGreat.walkSpec
end

section
namespace Go.Proofs.YtpcnjcgglonifaaGreat.walkSpec
open Go.RowKit base ints sig term termOk endAt endOf marks app sym sub segs segsHelp kinds termFacts same shifted shape kindsR kindsW varsOf ruleMath ruleSpec stepMath walkMath stepSpec ownL heldT
set_option maxRecDepth 100000

def fitsAll (sg t : List Int) (k : Wk) (p : Nat) : Bool := decide ((putAt sg t k.1 p).length ≤ 60) && k.2.all fun s => decide ((putAt sg t s.2.2 p).length ≤ 60)
def insideB (sg : List Int) (rs : List Rl) (k : Wk) (t : List Int) (x : Int) : Bool := (rightB sg rs t && walkB sg rs k) && (walkMath.inB x t.length && fitsAll sg t k x.toNat)
def insideW (sg : List Int) (rs : List Rl) (k : Wk) (t : List Int) (x : Int) : Wk := if insideB sg rs k t x = true then (putAt sg t k.1 x.toNat, insS sg t x.toNat k.2) else ([], [])
section
variable {sg : List Int} {rs : List Rl} {k : Wk} {t : List Int} {x : Int}
theorem ins_off (h : insideB sg rs k t x = false) : insideW sg rs k t x = ([], []) ∧ insideB sg rs k t x = false := ⟨by unfold insideW; rw [if_neg (by rw [h]; simp)], h⟩
theorem ins_no1 (h : rightB sg rs t = false) : insideW sg rs k t x = ([], []) ∧ insideB sg rs k t x = false := ins_off (by unfold insideB; rw [h]; rfl)
theorem ins_no2 (h : walkB sg rs k = false) : insideW sg rs k t x = ([], []) ∧ insideB sg rs k t x = false := ins_off (by unfold insideB; rw [h, Bool.and_false]; rfl)
theorem ins_no3 (h : walkMath.inB x t.length = false) : insideW sg rs k t x = ([], []) ∧ insideB sg rs k t x = false := ins_off (by unfold insideB; rw [h]; simp)
theorem ins_no4 {p : Nat} (h : ¬ (putAt sg t k.1 p).length ≤ 60) : insideW sg rs k t (p : Int) = ([], []) ∧ insideB sg rs k t (p : Int) = false := ins_off (by unfold insideB fitsAll; rw [Int.toNat_natCast, decide_eq_false h]; simp)
theorem ins_no5 {p i : Nat} {y : St} (hi : i < k.2.length) (hy : k.2.getD i (0, 0, []) = y) (h : ¬ (putAt sg t y.2.2 p).length ≤ 60) : insideW sg rs k t (p : Int) = ([], []) ∧ insideB sg rs k t (p : Int) = false := ins_off (by
  unfold insideB fitsAll
  rw [Int.toNat_natCast]
  have : (k.2.all fun s => decide ((putAt sg t s.2.2 p).length ≤ 60)) = false := by
    rw [List.all_eq_false]
    refine ⟨y, ?_, by rw [decide_eq_false h]; simp⟩
    rw [← hy]
    simp [List.getD, hi]
  rw [this]; simp)
theorem ins_yes {p : Nat} (h1 : rightB sg rs t = true) (h2 : walkB sg rs k = true) (h3 : p < t.length) (h4 : (putAt sg t k.1 p).length ≤ 60) (h5 : ∀ i, i < k.2.length → (putAt sg t (k.2.getD i (0, 0, [])).2.2 p).length ≤ 60) : insideW sg rs k t (p : Int) = (putAt sg t k.1 p, insS sg t p k.2) ∧ insideB sg rs k t (p : Int) = true := by
  have h : insideB sg rs k t (p : Int) = true := by
    unfold insideB fitsAll walkMath.inB
    rw [h1, h2, Int.toNat_natCast, decide_eq_true h4, decide_eq_true (show 0 ≤ (p : Int) ∧ (p : Int) < t.length by omega)]
    have : (k.2.all fun s => decide ((putAt sg t s.2.2 p).length ≤ 60)) = true := by
      rw [List.all_eq_true]
      intro s hs
      obtain ⟨i, hi, rfl⟩ := List.getElem_of_mem hs
      have := h5 i hi
      have e : k.2.getD i (0, 0, []) = k.2[i] := by simp [List.getD, hi]
      rw [e] at this
      exact decide_eq_true this
    rw [this]; rfl
  exact ⟨by unfold insideW; rw [if_pos h, Int.toNat_natCast], h⟩
end
theorem go_ats {sg : List Int} {rs : List Rl} : ∀ {ss : List St} {t v : List Int}, goOn sg rs t ss = some v → ∀ s ∈ ss, 0 ≤ s.1 ∧ s.1 < 60
  | [], _, _, _, _, hs => by cases hs
  | x :: ss, t, v, h, s, hs => by
    obtain ⟨h1, h2⟩ := go_cons.1 h
    rcases List.mem_cons.1 hs with hs | hs
    · subst hs
      obtain ⟨-, q2, q3, -⟩ := walkMath.there_parts (stepAt_parts h1).1
      have := (term_len q2).2
      exact ⟨q3.1, by omega⟩
    · exact go_ats h2 s hs
theorem walk_at {sg : List Int} {rs : List Rl} {k : Wk} {i : Nat} {y : St} (h : walkB sg rs k = true) (hi : i < k.2.length) (hy : k.2.getD i (0, 0, []) = y) : (0 ≤ y.1 ∧ y.1 < 60) ∧ termOkB sg y.2.2 = true := by
  obtain ⟨-, q2, -, q4⟩ := walk_parts h
  have hm : y ∈ k.2 := by rw [← hy]; simp [List.getD, hi]
  exact ⟨go_ats q4 y hm, (go_ok q2 q4).2 y hm⟩
theorem ins_take {sg C : List Int} {p i : Nat} {L : List St} {xa xr : Int} {ys : List Int} (hi : i < L.length) (hy : L.getD i (0, 0, []) = (xa, xr, ys)) : insS sg C p (L.take i) ++ [((p : Int) + xa, xr, putAt sg C ys p)] = insS sg C p (L.take (i + 1)) := by
  have e := take_step hi hy
  unfold insS
  rw [← e, List.map_append]
  rfl
theorem ins_len {sg C : List Int} {p i : Nat} {L : List St} (h : L.length ≤ 60) : (insS sg C p (L.take i)).length ≤ 60 := by unfold insS; rw [List.length_map, List.length_take]; omega

structure Wi (w : World) (a v f s : Value) (B : Nat) (X O : Option Addr) (xn xc on oc : Nat) (fr : List Int) (L : List St) (wr : World) : Prop where
  r0 : Row wr w.heap.size 29 #[a, v]
  r1 : Row wr (w.heap.size + 1) 41 #[f, s]
  r2 : Row wr (w.heap.size + 1 + 1) 41 #[.slice none 0 0, .slice none 0 0]
  r3 : Row wr B 41 #[.slice X xn xc, .slice O on oc]
  x : Ownd wr (w.heap.size + 1 + 1 + 1) B X xn xc fr
  o : OwnL wr (B + 1) wr.heap.size 81 sStep O on oc L
  b : Below w.heap.size w wr
  z : w.heap.size + 1 + 1 + 1 ≤ B
theorem Wi.next {w wr w' : World} {a v f s : Value} {B : Nat} {X O : Option Addr} {xn xc on oc : Nat} {fr : List Int} {L : List St} (h : Wi w a v f s B X O xn xc on oc fr L wr) (hb : Below wr.heap.size wr w') : Wi w a v f s B X O xn xc on oc fr L w' :=
  ⟨h.r0.next hb, h.r1.next hb, h.r2.next hb, h.r3.next hb, h.x.next hb, (h.o.next hb).wider (Nat.le_refl _) hb.size, next_trans h.b hb, h.z⟩

set_option maxHeartbeats 8000000 in
theorem specWalkInside (a v f s u : Value) (d : Dat sSystem) (k : Dat sWalk) (t : List Int) (p : Int) (w : World) (h : Rd w w.heap.size sSystem [a, v] d) (h1 : Rd w w.heap.size sWalk [f, s] k) (h2 : Rd w w.heap.size sI [u] t) (hz : sz sSystem d ≤ 1048576) (hz1 : sz sWalk k ≤ 1048576) (hz2 : sz sI t ≤ 1048576) (p1 : -9223372036854775808 ≤ p) (p2 : p ≤ 9223372036854775807) :
    Calls Tryz.prog 28 #[.agg #[a, v], .agg #[f, s], u, .int .i64 p] w (AnsWalk w (insideW d.1 d.2 k t p) (insideB d.1 d.2 k t p)) := by
  obtain ⟨F, fn, fc, S, sn, sc, rfl, rfl, hF, hcF, hfn, hsn0, hsn, hcS, hrF, hrS, hzF, hzS⟩ := rd_walk h1 hz1
  obtain ⟨T, m, c, rfl, hT, hcT⟩ := rd_ints.1 h2
  have hm := len_ints hT.1 hz2
  have h0 := h
  obtain ⟨A, n, cs, V, q, cv, rfl, rfl, hs, hc, hcv, hq, hn, hq1, hrs, hsg, hE⟩ := rd_sys h hz
  obtain ⟨W, hW, r0, r1, r2, bel⟩ : ∃ W, W = ((w.alloc (.cells #[.slice A n cs, .slice V q cv] 29)).alloc (.cells #[.slice F fn fc, .slice S sn sc] 41)).alloc (.cells #[.slice none 0 0, .slice none 0 0] 41) ∧ Row W w.heap.size 29 #[.slice A n cs, .slice V q cv] ∧ Row W (w.heap.size + 1) 41 #[.slice F fn fc, .slice S sn sc] ∧ Row W (w.heap.size + 1 + 1) 41 #[.slice none 0 0, .slice none 0 0] ∧ Below w.heap.size w W := by
    refine ⟨_, rfl, ((Row.new w _ _).alloc _).alloc _, ?_, ?_, (((Below.refl _ _).alloc (Nat.le_refl _) _).alloc (by simp) _).alloc (by simp; omega) _⟩
    · have := (Row.new (w.alloc (.cells #[.slice A n cs, .slice V q cv] 29)) 41 #[.slice F fn fc, .slice S sn sc]).alloc (.cells #[.slice none 0 0, .slice none 0 0] 41)
      simpa using this
    · have := Row.new ((w.alloc (.cells #[.slice A n cs, .slice V q cv] 29)).alloc (.cells #[.slice F fn fc, .slice S sn sc] 41)) 41 #[.slice none 0 0, .slice none 0 0]
      simpa using this
  have HW := Lib.hid hW
  have L1 := Lib.hid (l7Right _ _ d T m c t W (h0.next bel) hz (hT.next bel) hm)
  have L2 := Lib.hid (fun (w1 : World) (bb : Below w.heap.size w w1) => specWalkOk _ _ _ _ d k w1 (h0.next bb) (h1.next bb) hz hz1)
  have HST := Lib.hid (show Seg w w.heap.size A n d.1 ∧ Seg w w.heap.size T m t ∧ Seg w w.heap.size F fn k.1 from ⟨hs, hT, hF⟩)
  have HRS := Lib.hid hrS
  have HTL := Lib.hid hT.1
  have HSN := Lib.hid hsn0
  have HZS := Lib.hid hzS
  have HCF := Lib.hid hcF.2.2
  have hcT1 := hcT.1
  have hcT2 := hcT.2.1
  clear hW h h0 h1 h2 hz hz1 hz2 hF hcF hcS hrF hrS hzF hzS hT hcT hs hc hcv hq hrs hsg hE hsn0
  cases okr : rightB d.1 d.2 t with
  | false =>
    have HR := Lib.hid okr
    clear okr
    go_enter Tryz.func28, Tryz.ntmps28
    go_wp2_with fail
    rw [← HW.out]
    refine L1.out.mono ?_
    rintro e w1 ⟨he, bb⟩
    rw [HR.out] at he
    subst he
    replace r2 := r2.next bb
    replace bel := next_trans bel bb
    clear L2
    have y0 : w1.cell? ⟨w.heap.size + 1 + 1, 0, none⟩ = some (.slice none 0 0) := r2.cell 0
    have y1 : w1.cell? ⟨w.heap.size + 1 + 1, 1, none⟩ = some (.slice none 0 0) := r2.cell 1
    have g0 := r2.free 0
    have g1 := r2.free 1
    have ra := r2.put 0 (.slice none 0 0)
    have y2 : (w1.setCell ⟨w.heap.size + 1 + 1, 0, none⟩ (.slice none 0 0)).cell? ⟨w.heap.size + 1 + 1, 1, none⟩ = some (.slice none 0 0) := ra.cell 1
    have g2 := ra.free 1
    have rb := ra.put 1 (.slice none 0 0)
    have u0 : ((w1.setCell ⟨w.heap.size + 1 + 1, 0, none⟩ (.slice none 0 0)).setCell ⟨w.heap.size + 1 + 1, 1, none⟩ (.slice none 0 0)).cell? ⟨w.heap.size + 1 + 1, 0, none⟩ = some (.slice none 0 0) := rb.cell 0
    have u1 : ((w1.setCell ⟨w.heap.size + 1 + 1, 0, none⟩ (.slice none 0 0)).setCell ⟨w.heap.size + 1 + 1, 1, none⟩ (.slice none 0 0)).cell? ⟨w.heap.size + 1 + 1, 1, none⟩ = some (.slice none 0 0) := rb.cell 1
    have FZ : AnsWalk w (insideW d.1 d.2 k t p) (insideB d.1 d.2 k t p) (.returned (.tuple #[.agg #[.slice none 0 0, .slice none 0 0], .bool false])) ((w1.setCell ⟨w.heap.size + 1 + 1, 0, none⟩ (.slice none 0 0)).setCell ⟨w.heap.size + 1 + 1, 1, none⟩ (.slice none 0 0)) := ansWalk_no (ins_no1 HR.out) (((bel).setCell (show w.heap.size ≤ w.heap.size + 1 + 1 by omega) _).setCell (show w.heap.size ≤ w.heap.size + 1 + 1 by omega) _)
    have HFZ := Lib.hid FZ
    clear FZ ra rb bb bel r0 r1 r2
    go_wp2
    exact bodyPost_ret (v := .tuple #[.agg #[.slice none 0 0, .slice none 0 0], .bool false]) (by simp [results, Tryz.results28, go_sem, u0, u1]) rfl HFZ.out
  | true =>
    have HR := Lib.hid okr
    clear okr
    cases okw : walkB d.1 d.2 k with
    | false =>
      have HO := Lib.hid okw
      clear okw
      go_enter Tryz.func28, Tryz.ntmps28
      go_wp2_with fail
      rw [← HW.out]
      refine L1.out.mono ?_
      rintro e w1 ⟨he, bb⟩
      rw [HR.out] at he
      subst he
      replace r0 := r0.next bb
      replace r1 := r1.next bb
      replace r2 := r2.next bb
      replace bel := next_trans bel bb
      have k0 : w1.cell? ⟨w.heap.size, 0, none⟩ = some (.slice A n cs) := r0.cell 0
      have k1 : w1.cell? ⟨w.heap.size, 1, none⟩ = some (.slice V q cv) := r0.cell 1
      have k2 : w1.cell? ⟨w.heap.size + 1, 0, none⟩ = some (.slice F fn fc) := r1.cell 0
      have k3 : w1.cell? ⟨w.heap.size + 1, 1, none⟩ = some (.slice S sn sc) := r1.cell 1
      clear bb L1
      go_wp2_with fail
      refine (L2.out w1 bel).mono ?_
      rintro e w2 ⟨he, bb⟩
      rw [HO.out] at he
      subst he
      replace r2 := r2.next bb
      replace bel := next_trans bel bb
      clear L2 k0 k1 k2 k3
      have y0 : w2.cell? ⟨w.heap.size + 1 + 1, 0, none⟩ = some (.slice none 0 0) := r2.cell 0
      have y1 : w2.cell? ⟨w.heap.size + 1 + 1, 1, none⟩ = some (.slice none 0 0) := r2.cell 1
      have g0 := r2.free 0
      have g1 := r2.free 1
      have ra := r2.put 0 (.slice none 0 0)
      have y2 : (w2.setCell ⟨w.heap.size + 1 + 1, 0, none⟩ (.slice none 0 0)).cell? ⟨w.heap.size + 1 + 1, 1, none⟩ = some (.slice none 0 0) := ra.cell 1
      have g2 := ra.free 1
      have rb := ra.put 1 (.slice none 0 0)
      have u0 : ((w2.setCell ⟨w.heap.size + 1 + 1, 0, none⟩ (.slice none 0 0)).setCell ⟨w.heap.size + 1 + 1, 1, none⟩ (.slice none 0 0)).cell? ⟨w.heap.size + 1 + 1, 0, none⟩ = some (.slice none 0 0) := rb.cell 0
      have u1 : ((w2.setCell ⟨w.heap.size + 1 + 1, 0, none⟩ (.slice none 0 0)).setCell ⟨w.heap.size + 1 + 1, 1, none⟩ (.slice none 0 0)).cell? ⟨w.heap.size + 1 + 1, 1, none⟩ = some (.slice none 0 0) := rb.cell 1
      have FZ : AnsWalk w (insideW d.1 d.2 k t p) (insideB d.1 d.2 k t p) (.returned (.tuple #[.agg #[.slice none 0 0, .slice none 0 0], .bool false])) ((w2.setCell ⟨w.heap.size + 1 + 1, 0, none⟩ (.slice none 0 0)).setCell ⟨w.heap.size + 1 + 1, 1, none⟩ (.slice none 0 0)) := ansWalk_no (ins_no2 HO.out) (((bel).setCell (show w.heap.size ≤ w.heap.size + 1 + 1 by omega) _).setCell (show w.heap.size ≤ w.heap.size + 1 + 1 by omega) _)
      have HFZ := Lib.hid FZ
      clear FZ ra rb bb bel r0 r1 r2
      go_wp2
      exact bodyPost_ret (v := .tuple #[.agg #[.slice none 0 0, .slice none 0 0], .bool false]) (by simp [results, Tryz.results28, go_sem, u0, u1]) rfl HFZ.out
    | true =>
      have HO := Lib.hid okw
      clear okw
      have h60 : sn ≤ 60 := by rw [← HSN.out]; exact (walk_parts HO.out).2.2.1
      have hm60 : m ≤ 60 := by have := (term_len (right_parts HR.out).2).2; have := HTL.out; omega
      cases hx : decide (0 ≤ p ∧ p < (m : Int)) with
      | false =>
        have HX := Lib.hid hx
        clear hx
        go_enter Tryz.func28, Tryz.ntmps28
        go_wp2_with fail
        rw [← HW.out]
        refine L1.out.mono ?_
        rintro e w1 ⟨he, bb⟩
        rw [HR.out] at he
        subst he
        replace r0 := r0.next bb
        replace r1 := r1.next bb
        replace r2 := r2.next bb
        replace bel := next_trans bel bb
        have k0 : w1.cell? ⟨w.heap.size, 0, none⟩ = some (.slice A n cs) := r0.cell 0
        have k1 : w1.cell? ⟨w.heap.size, 1, none⟩ = some (.slice V q cv) := r0.cell 1
        have k2 : w1.cell? ⟨w.heap.size + 1, 0, none⟩ = some (.slice F fn fc) := r1.cell 0
        have k3 : w1.cell? ⟨w.heap.size + 1, 1, none⟩ = some (.slice S sn sc) := r1.cell 1
        clear bb L1
        go_wp2_with fail
        refine (L2.out w1 bel).mono ?_
        rintro e w2 ⟨he, bb⟩
        rw [HO.out] at he
        subst he
        replace r2 := r2.next bb
        replace bel := next_trans bel bb
        clear L2 k0 k1 k2 k3
        go_wp2_with fail
        refine (there T m c p _ _ hm HX.out).mono ?_
        rintro e w3 ⟨rfl, rfl⟩
        have y0 : w2.cell? ⟨w.heap.size + 1 + 1, 0, none⟩ = some (.slice none 0 0) := r2.cell 0
        have y1 : w2.cell? ⟨w.heap.size + 1 + 1, 1, none⟩ = some (.slice none 0 0) := r2.cell 1
        have g0 := r2.free 0
        have g1 := r2.free 1
        have ra := r2.put 0 (.slice none 0 0)
        have y2 : (w2.setCell ⟨w.heap.size + 1 + 1, 0, none⟩ (.slice none 0 0)).cell? ⟨w.heap.size + 1 + 1, 1, none⟩ = some (.slice none 0 0) := ra.cell 1
        have g2 := ra.free 1
        have rb := ra.put 1 (.slice none 0 0)
        have u0 : ((w2.setCell ⟨w.heap.size + 1 + 1, 0, none⟩ (.slice none 0 0)).setCell ⟨w.heap.size + 1 + 1, 1, none⟩ (.slice none 0 0)).cell? ⟨w.heap.size + 1 + 1, 0, none⟩ = some (.slice none 0 0) := rb.cell 0
        have u1 : ((w2.setCell ⟨w.heap.size + 1 + 1, 0, none⟩ (.slice none 0 0)).setCell ⟨w.heap.size + 1 + 1, 1, none⟩ (.slice none 0 0)).cell? ⟨w.heap.size + 1 + 1, 1, none⟩ = some (.slice none 0 0) := rb.cell 1
        have FZ : AnsWalk w (insideW d.1 d.2 k t p) (insideB d.1 d.2 k t p) (.returned (.tuple #[.agg #[.slice none 0 0, .slice none 0 0], .bool false])) ((w2.setCell ⟨w.heap.size + 1 + 1, 0, none⟩ (.slice none 0 0)).setCell ⟨w.heap.size + 1 + 1, 1, none⟩ (.slice none 0 0)) := ansWalk_no (ins_no3 (by unfold walkMath.inB; rw [HTL.out]; exact HX.out)) (((bel).setCell (show w.heap.size ≤ w.heap.size + 1 + 1 by omega) _).setCell (show w.heap.size ≤ w.heap.size + 1 + 1 by omega) _)
        have HFZ := Lib.hid FZ
        clear FZ ra rb bb bel r0 r1 r2
        go_wp2
        exact bodyPost_ret (v := .tuple #[.agg #[.slice none 0 0, .slice none 0 0], .bool false]) (by simp [results, Tryz.results28, go_sem, u0, u1]) rfl HFZ.out
      | true =>
        have HX := Lib.hid hx
        have hx0 := of_decide_eq_true hx
        clear hx
        obtain ⟨p, rfl⟩ := Int.eq_ofNat_of_zero_le hx0.1
        have hpm : p < m := by omega
        have HPT := Lib.hid (show p < t.length by rw [HTL.out]; exact hpm)
        have LPF := Lib.hid (fun (w3 : World) (bb : Below w.heap.size w w3) (U : Option Addr) (un uc : Nat) (y : List Int) (hy : Seg w3 w3.heap.size U un y) (hcu : U = none → uc = 0) (hun : un ≤ 60) => put.l3Put A T U n cs m c un uc d.1 t y p w3 (HST.out.1.next bb) (HST.out.2.1.next bb) hy hcu hn hm hun hcT1 hcT2 (right_parts HR.out).2 HPT.out)
        have hfn60 : fn ≤ 60 := by have := (term_len (walk_parts HO.out).2.1).2; have := HST.out.2.2.1; omega
        clear hx0
        go_enter Tryz.func28, Tryz.ntmps28
        go_wp2_with fail
        rw [← HW.out]
        refine L1.out.mono ?_
        rintro e w1 ⟨he, bb⟩
        rw [HR.out] at he
        subst he
        replace r0 := r0.next bb
        replace r1 := r1.next bb
        replace r2 := r2.next bb
        replace bel := next_trans bel bb
        have k0 : w1.cell? ⟨w.heap.size, 0, none⟩ = some (.slice A n cs) := r0.cell 0
        have k1 : w1.cell? ⟨w.heap.size, 1, none⟩ = some (.slice V q cv) := r0.cell 1
        have k2 : w1.cell? ⟨w.heap.size + 1, 0, none⟩ = some (.slice F fn fc) := r1.cell 0
        have k3 : w1.cell? ⟨w.heap.size + 1, 1, none⟩ = some (.slice S sn sc) := r1.cell 1
        clear bb L1
        go_wp2_with fail
        refine (L2.out w1 bel).mono ?_
        rintro e w2 ⟨he, bb⟩
        rw [HO.out] at he
        subst he
        replace r0 := r0.next bb
        replace r1 := r1.next bb
        replace r2 := r2.next bb
        replace bel := next_trans bel bb
        clear L2 k0 k1 k2 k3 bb
        have k0 : w2.cell? ⟨w.heap.size, 0, none⟩ = some (.slice A n cs) := r0.cell 0
        have k2 : w2.cell? ⟨w.heap.size + 1, 0, none⟩ = some (.slice F fn fc) := r1.cell 0
        go_wp2_with fail
        refine (there T m c (p : Int) _ _ hm HX.out).mono ?_
        rintro e w3 ⟨rfl, rfl⟩
        have LP1 := Lib.hid (LPF.out w2 bel F fn fc k.1 (HST.out.2.2.next bel) HCF.out hfn60)
        go_wp2_with fail
        refine LP1.out.mono ?_
        rintro e w3 ⟨X, xn, xc, rfl, oX, bb⟩
        have zX := bb.size
        have z2w := r2.lt
        replace r0 := r0.next bb
        replace r1 := r1.next bb
        replace r2 := r2.next bb
        replace bel := next_trans bel bb
        clear k0 k2 LP1
        cases hb1 : put.fitB d.1 t k.1 p with
        | false =>
          have HB1 := Lib.hid (show ¬ (putAt d.1 t k.1 p).length ≤ 60 from of_decide_eq_false hb1)
          clear hb1 bb
          have y0 : w3.cell? ⟨w.heap.size + 1 + 1, 0, none⟩ = some (.slice none 0 0) := r2.cell 0
          have y1 : w3.cell? ⟨w.heap.size + 1 + 1, 1, none⟩ = some (.slice none 0 0) := r2.cell 1
          have g0 := r2.free 0
          have g1 := r2.free 1
          have ra := r2.put 0 (.slice none 0 0)
          have y2 : (w3.setCell ⟨w.heap.size + 1 + 1, 0, none⟩ (.slice none 0 0)).cell? ⟨w.heap.size + 1 + 1, 1, none⟩ = some (.slice none 0 0) := ra.cell 1
          have g2 := ra.free 1
          have rb := ra.put 1 (.slice none 0 0)
          have u0 : ((w3.setCell ⟨w.heap.size + 1 + 1, 0, none⟩ (.slice none 0 0)).setCell ⟨w.heap.size + 1 + 1, 1, none⟩ (.slice none 0 0)).cell? ⟨w.heap.size + 1 + 1, 0, none⟩ = some (.slice none 0 0) := rb.cell 0
          have u1 : ((w3.setCell ⟨w.heap.size + 1 + 1, 0, none⟩ (.slice none 0 0)).setCell ⟨w.heap.size + 1 + 1, 1, none⟩ (.slice none 0 0)).cell? ⟨w.heap.size + 1 + 1, 1, none⟩ = some (.slice none 0 0) := rb.cell 1
          have FZ : AnsWalk w (insideW d.1 d.2 k t p) (insideB d.1 d.2 k t p) (.returned (.tuple #[.agg #[.slice none 0 0, .slice none 0 0], .bool false])) ((w3.setCell ⟨w.heap.size + 1 + 1, 0, none⟩ (.slice none 0 0)).setCell ⟨w.heap.size + 1 + 1, 1, none⟩ (.slice none 0 0)) := ansWalk_no (ins_no4 HB1.out) (((bel).setCell (show w.heap.size ≤ w.heap.size + 1 + 1 by omega) _).setCell (show w.heap.size ≤ w.heap.size + 1 + 1 by omega) _)
          have HFZ := Lib.hid FZ
          clear FZ ra rb bel r0 r1 r2 oX LPF
          go_wp2
          exact bodyPost_ret (v := .tuple #[.agg #[.slice none 0 0, .slice none 0 0], .bool false]) (by simp [results, Tryz.results28, go_sem, u0, u1]) rfl HFZ.out
        | true =>
          have HB1 := Lib.hid (show (putAt d.1 t k.1 p).length ≤ 60 from of_decide_eq_true hb1)
          have oX1 : Own w3 w2.heap.size (.slice X xn xc) (putAt d.1 t k.1 p) := by
            have := oX
            unfold put.fitL at this
            rw [if_pos hb1] at this
            exact this
          have b4 : Below w3.heap.size w3 (w3.alloc (.cells #[.slice X xn xc, .slice none 0 0] 41)) := (Below.refl _ _).alloc (Nat.le_refl _) _
          obtain ⟨W4, hW4⟩ : ∃ W4, W4 = w3.alloc (.cells #[.slice X xn xc, .slice none 0 0] 41) := ⟨_, rfl⟩
          have HI0 := Lib.hid (show Wi w (.slice A n cs) (.slice V q cv) (.slice F fn fc) (.slice S sn sc) w3.heap.size X none xn xc 0 0 (putAt d.1 t k.1 p) (insS d.1 t p (k.2.take 0)) W4 from by
            rw [hW4]
            exact ⟨r0.next b4, r1.next b4, r2.next b4, Row.new _ _ _, ((Ownd.of_own oX1).next b4).wider (by omega) (Nat.le_refl _), OwnL.nil _ _ _ _ _, next_trans bel b4, by omega⟩)
          have HW4 := Lib.hid hW4
          clear hb1 bb oX oX1 b4 r0 r1 r2 bel hW4
          go_wp2_with fail
          rw [← HW4.out]
          clear HW4
          generalize w3.heap.size = B at *
          go_loopg [13] sn (fun g i_ wr => ∃ (i on oc : Nat) (O : Option Addr), i_ = .int .i64 i ∧ i + g = sn ∧ (∀ j, j < i → (putAt d.1 t (k.2.getD j (0, 0, [])).2.2 p).length ≤ 60) ∧ Wi w (.slice A n cs) (.slice V q cv) (.slice F fn fc) (.slice S sn sc) B X O xn xc on oc (putAt d.1 t k.1 p) (insS d.1 t p (k.2.take i)) wr)
          case atStart => exact ⟨0, 0, 0, none, rfl, by omega, fun j hj => absurd hj (Nat.not_lt_zero _), HI0.out⟩
          case round =>
            clear HI0
            obtain ⟨i, on, oc, O, rfl, hg, hlow, J⟩ := hrel
            have K0 : wr.cell? ⟨w.heap.size, 0, none⟩ = some (.slice A n cs) := J.r0.cell 0
            have K1 : wr.cell? ⟨w.heap.size + 1, 1, none⟩ = some (.slice S sn sc) := J.r1.cell 1
            have HLOW := Lib.hid hlow
            have HG := Lib.hid hg
            clear hlow hg
            by_cases hi : i < sn
            · obtain ⟨b, off, uu, x, hA, hb, ex, c0, c1, c2, hx2⟩ := rd_step HRS.out J.b HSN.out hi
              subst hA
              obtain ⟨xa, xr, ys⟩ := x
              obtain ⟨U, un, uc, rfl, hU, hcU⟩ := rd_ints.1 hx2
              have hil : i < k.2.length := by rw [HSN.out]; exact hi
              have hwa := walk_at HO.out hil ex.out
              have hun : un ≤ 60 := by have := (term_len hwa.2).2; have := hU.1; omega
              have c0 : wr.cell? ⟨b, off + i * 3, none⟩ = some (.int .i64 xa) := c0
              have c1 : wr.cell? ⟨b, off + i * 3 + 1, none⟩ = some (.int .i64 xr) := c1
              have hxa : 0 ≤ xa ∧ xa < 60 := hwa.1
              have hwr : IntKind.i64.wrap ((p : Int) + xa) = (p : Int) + xa := by rw [IntKind.wrap_i64]; omega
              have zA : w.heap.size < wr.heap.size := J.r0.lt
              have zA1 : w.heap.size + 1 < wr.heap.size := J.r1.lt
              have zB : b < wr.heap.size := by omega
              have zBB : B < wr.heap.size := J.r3.lt
              have HZ := Lib.hid J.z
              have LP := Lib.hid (LPF.out wr.drew J.b.drew U un uc ys (hU.more (Nat.le_of_lt zA)).drew hcU.2.2 hun)
              have i0 : (0 : Int) ≤ (i : Int) := by omega
              have i1 : (i : Int) < (sn : Int) := by omega
              have JJ := Lib.hid J
              have EX := Lib.hid ex.out
              clear hx2 hU hcU hwa J ex
              go_wp2_with fail
              go_region_held3 (fun w' => w'.cell? ⟨w.heap.size, 0, none⟩ = some (.slice A n cs) ∧ w'.cell? ⟨w.heap.size + 1, 1, none⟩ = some (.slice (some ⟨b, off, none⟩) sn sc) ∧ w'.cell? ⟨b, off + i * 3 + 2, none⟩ = some (.slice U un uc))
                (go_keep)
                (first
                  | (go_at_call 71; refine LP.out.mono ?_; rintro e w2 ⟨U2, un2, uc2, rfl, oU, bb⟩; have k0 : w2.cell? ⟨w.heap.size, 0, none⟩ = some (.slice A n cs) := (bb.cell (p := ⟨w.heap.size, 0, none⟩) zA).trans K0; have k1 : w2.cell? ⟨w.heap.size + 1, 1, none⟩ = some (.slice (some ⟨b, off, none⟩) sn sc) := (bb.cell (p := ⟨w.heap.size + 1, 1, none⟩) zA1).trans K1; have k2 : w2.cell? ⟨b, off + i * 3 + 2, none⟩ = some (.slice U un uc) := (bb.cell (p := ⟨b, off + i * 3 + 2, none⟩) zB).trans c2))
              have J2 := JJ.out.next ((drew_below wr).trans bb)
              have zz : wr.heap.size ≤ w2.heap.size := bb.size
              replace c0 : w2.cell? ⟨b, off + i * 3, none⟩ = some (.int .i64 xa) := (bb.cell (p := ⟨b, off + i * 3, none⟩) zB).trans c0
              replace c1 : w2.cell? ⟨b, off + i * 3 + 1, none⟩ = some (.int .i64 xr) := (bb.cell (p := ⟨b, off + i * 3 + 1, none⟩) zB).trans c1
              cases hb2 : put.fitB d.1 t ys p with
              | false =>
                have HB2 := Lib.hid (show ¬ (putAt d.1 t ys p).length ≤ 60 from of_decide_eq_false hb2)
                have j2 := J2.r2
                have jb := J2.b
                clear hb2 bb J2 oU JJ k0 k1 k2 K0 K1 c0 c1 c2 LP
                have y0 : w2.cell? ⟨w.heap.size + 1 + 1, 0, none⟩ = some (.slice none 0 0) := j2.cell 0
                have y1 : w2.cell? ⟨w.heap.size + 1 + 1, 1, none⟩ = some (.slice none 0 0) := j2.cell 1
                have g0 := j2.free 0
                have g1 := j2.free 1
                have ra := j2.put 0 (.slice none 0 0)
                have y2 : (w2.setCell ⟨w.heap.size + 1 + 1, 0, none⟩ (.slice none 0 0)).cell? ⟨w.heap.size + 1 + 1, 1, none⟩ = some (.slice none 0 0) := ra.cell 1
                have g2 := ra.free 1
                have rb := ra.put 1 (.slice none 0 0)
                have u0 : ((w2.setCell ⟨w.heap.size + 1 + 1, 0, none⟩ (.slice none 0 0)).setCell ⟨w.heap.size + 1 + 1, 1, none⟩ (.slice none 0 0)).cell? ⟨w.heap.size + 1 + 1, 0, none⟩ = some (.slice none 0 0) := rb.cell 0
                have u1 : ((w2.setCell ⟨w.heap.size + 1 + 1, 0, none⟩ (.slice none 0 0)).setCell ⟨w.heap.size + 1 + 1, 1, none⟩ (.slice none 0 0)).cell? ⟨w.heap.size + 1 + 1, 1, none⟩ = some (.slice none 0 0) := rb.cell 1
                have FZ : AnsWalk w (insideW d.1 d.2 k t p) (insideB d.1 d.2 k t p) (.returned (.tuple #[.agg #[.slice none 0 0, .slice none 0 0], .bool false])) ((w2.setCell ⟨w.heap.size + 1 + 1, 0, none⟩ (.slice none 0 0)).setCell ⟨w.heap.size + 1 + 1, 1, none⟩ (.slice none 0 0)) := ansWalk_no (ins_no5 hil EX.out HB2.out) (((jb).setCell (show w.heap.size ≤ w.heap.size + 1 + 1 by omega) _).setCell (show w.heap.size ≤ w.heap.size + 1 + 1 by omega) _)
                have HFZ := Lib.hid FZ
                clear FZ ra rb jb j2
                go_wp2
                exact bodyPost_ret (v := .tuple #[.agg #[.slice none 0 0, .slice none 0 0], .bool false]) (by simp [results, Tryz.results28, go_sem, u0, u1]) rfl HFZ.out
              | true =>
                have HB2 := Lib.hid (show (putAt d.1 t ys p).length ≤ 60 from of_decide_eq_true hb2)
                have OU := Lib.hid (show Own w2.drew wr.heap.size (.slice U2 un2 uc2) (putAt d.1 t ys p) by
                  have := oU
                  unfold put.fitL at this
                  rw [if_pos hb2] at this
                  exact Own.drew this)
                have OL := Lib.hid (show OwnL w2.drew (B + 1) wr.heap.size 81 sStep O on oc (insS d.1 t p (k.2.take i)) from (JJ.out.o.next ((drew_below wr).trans bb)).next (drew_below w2))
                have c3 : w2.cell? ⟨B, 1, none⟩ = some (.slice O on oc) := J2.r3.cell 1
                have c4 : w2.cell? ⟨w.heap.size + 1, 1, none⟩ = some (.slice (some ⟨b, off, none⟩) sn sc) := J2.r1.cell 1
                have hon : on ≤ 60 := by rw [← OL.out.1]; exact ins_len (by rw [HSN.out]; exact h60)
                have zB1 : B + 1 ≤ wr.heap.size := zBB
                have b3 : Below w2.drew.heap.size w2.drew (w2.drew.alloc (.cells #[.int .i64 ((p : Int) + xa), .int .i64 xr, .slice U2 un2 uc2] 81)) := (Below.refl _ _).alloc (Nat.le_refl _) _
                have RB := Lib.hid (show Row w2.drew B 41 #[.slice X xn xc, .slice O on oc] from J2.r3)
                have J2H := Lib.hid J2
                have bB : b < B + 1 := by have := HZ.out; omega
                clear hb2 bb J2 oU JJ k0 k1 k2 K0 K1 c2 LP
                go_upto_region 13 with fail
                refine AnyT.start (S := (fun w' => w'.cell? ⟨B, 1, none⟩ = some (.slice O on oc) ∧ w'.cell? ⟨w.heap.size + 1, 1, none⟩ = some (.slice (some ⟨b, off, none⟩) sn sc) ∧ w'.cell? ⟨b, off + i * 3, none⟩ = some (.int .i64 xa) ∧ w'.cell? ⟨b, off + i * 3 + 1, none⟩ = some (.int .i64 xr))) (fun j => j == 21) (by kernel_rfl) ⟨c3, c4, c0, c1⟩ (fun hHeld => ?_)
                refine AnyT.takeA (i := 0) (v := ?_) rfl (by kernel_rfl) (by kernel_rfl) (by kernel_rfl) (fun _ _ _ h => h) (Or.inl ⟨by rfl, ?_⟩) ?_
                rotate_left 1
                · (intro w0 _; go_simp; try with_reducible rfl)
                try simp only [Act.put, List.setIfInBounds_toArray, List.set_cons_zero, List.set_cons_succ, List.getElem_toArray, List.getElem_cons_zero, List.getElem_cons_succ]
                refine AnyT.take (i := 1) (v := ?_) rfl (by kernel_rfl) (by kernel_rfl) (by kernel_rfl) (by kernel_rfl) (fun _ _ _ h => h) (Or.inl ⟨by rfl, ?_⟩) (by assumption) ?_
                rotate_left 1
                · (intro w0 hSw; (try dsimp only at hSw); go_simp; try with_reducible rfl)
                try simp only [Act.put, List.setIfInBounds_toArray, List.set_cons_zero, List.set_cons_succ, List.getElem_toArray, List.getElem_cons_zero, List.getElem_cons_succ]
                refine AnyT.takeA (i := 2) (v := ?_) rfl (by kernel_rfl) (by kernel_rfl) (by kernel_rfl) (fun _ _ _ h => h) (Or.inl ⟨by rfl, ?_⟩) ?_
                rotate_left 1
                · (intro w0 _; go_simp; try with_reducible rfl)
                try simp only [Act.put, List.setIfInBounds_toArray, List.set_cons_zero, List.set_cons_succ, List.getElem_toArray, List.getElem_cons_zero, List.getElem_cons_succ]
                refine AnyT.takeA (i := 3) (v := ?_) rfl (by kernel_rfl) (by kernel_rfl) (by kernel_rfl) (fun _ _ _ h => h) (Or.inl ⟨by rfl, ?_⟩) ?_
                rotate_left 1
                · (intro w0 _; go_simp; try with_reducible rfl)
                try simp only [Act.put, List.setIfInBounds_toArray, List.set_cons_zero, List.set_cons_succ, List.getElem_toArray, List.getElem_cons_zero, List.getElem_cons_succ]
                refine AnyT.take (i := 4) (v := ?_) rfl (by kernel_rfl) (by kernel_rfl) (by kernel_rfl) (by kernel_rfl) (fun _ _ _ h => h) (Or.inl ⟨by rfl, ?_⟩) (by assumption) ?_
                rotate_left 1
                · (intro w0 hSw; (try dsimp only at hSw); go_simp; try with_reducible rfl)
                try simp only [Act.put, List.setIfInBounds_toArray, List.set_cons_zero, List.set_cons_succ, List.getElem_toArray, List.getElem_cons_zero, List.getElem_cons_succ]
                refine AnyT.takeA (i := 5) (v := ?_) rfl (by kernel_rfl) (by kernel_rfl) (by kernel_rfl) (fun _ _ _ h => h) (Or.inl ⟨by rfl, ?_⟩) ?_
                rotate_left 1
                · (intro w0 _; go_simp; try with_reducible rfl)
                try simp only [Act.put, List.setIfInBounds_toArray, List.set_cons_zero, List.set_cons_succ, List.getElem_toArray, List.getElem_cons_zero, List.getElem_cons_succ]
                refine AnyT.takeA (i := 6) (v := ?_) rfl (by kernel_rfl) (by kernel_rfl) (by kernel_rfl) (fun _ _ _ h => h) (Or.inl ⟨by rfl, ?_⟩) ?_
                rotate_left 1
                · (intro w0 _; go_simp; try with_reducible rfl)
                try simp only [Act.put, List.setIfInBounds_toArray, List.set_cons_zero, List.set_cons_succ, List.getElem_toArray, List.getElem_cons_zero, List.getElem_cons_succ]
                refine AnyT.takeA (i := 7) (v := ?_) rfl (by kernel_rfl) (by kernel_rfl) (by kernel_rfl) (fun _ _ _ h => h) (Or.inl ⟨by rfl, ?_⟩) ?_
                rotate_left 1
                · (intro w0 _; go_simp; try with_reducible rfl)
                try simp only [Act.put, List.setIfInBounds_toArray, List.set_cons_zero, List.set_cons_succ, List.getElem_toArray, List.getElem_cons_zero, List.getElem_cons_succ]
                refine AnyT.take (i := 8) (v := ?_) rfl (by kernel_rfl) (by kernel_rfl) (by kernel_rfl) (by kernel_rfl) (fun _ _ _ h => h) (Or.inl ⟨by rfl, ?_⟩) (by assumption) ?_
                rotate_left 1
                · (intro w0 hSw; (try dsimp only at hSw); go_simp; try with_reducible rfl)
                try simp only [Act.put, List.setIfInBounds_toArray, List.set_cons_zero, List.set_cons_succ, List.getElem_toArray, List.getElem_cons_zero, List.getElem_cons_succ]
                refine AnyT.takeA (i := 9) (v := ?_) rfl (by kernel_rfl) (by kernel_rfl) (by kernel_rfl) (fun _ _ _ h => h) (Or.inl ⟨by rfl, ?_⟩) ?_
                rotate_left 1
                · (intro w0 _; go_simp; try with_reducible rfl)
                try simp only [Act.put, List.setIfInBounds_toArray, List.set_cons_zero, List.set_cons_succ, List.getElem_toArray, List.getElem_cons_zero, List.getElem_cons_succ]
                refine AnyT.takeA (i := 10) (v := ?_) rfl (by kernel_rfl) (by kernel_rfl) (by kernel_rfl) (fun _ _ _ h => h) (Or.inl ⟨by rfl, ?_⟩) ?_
                rotate_left 1
                · (intro w0 _; go_simp; try with_reducible rfl)
                try simp only [Act.put, List.setIfInBounds_toArray, List.set_cons_zero, List.set_cons_succ, List.getElem_toArray, List.getElem_cons_zero, List.getElem_cons_succ]
                refine AnyT.take (i := 11) (v := ?_) rfl (by kernel_rfl) (by kernel_rfl) (by kernel_rfl) (by kernel_rfl) (fun _ _ _ h => h) (Or.inl ⟨by rfl, ?_⟩) (by assumption) ?_
                rotate_left 1
                · (intro w0 hSw; (try dsimp only at hSw); go_simp; try with_reducible rfl)
                try simp only [Act.put, List.setIfInBounds_toArray, List.set_cons_zero, List.set_cons_succ, List.getElem_toArray, List.getElem_cons_zero, List.getElem_cons_succ]
                refine AnyT.takeA (i := 12) (v := ?_) rfl (by kernel_rfl) (by kernel_rfl) (by kernel_rfl) (fun _ _ _ h => h) (Or.inl ⟨by rfl, ?_⟩) ?_
                rotate_left 1
                · (intro w0 _; go_simp; try with_reducible rfl)
                try simp only [Act.put, List.setIfInBounds_toArray, List.set_cons_zero, List.set_cons_succ, List.getElem_toArray, List.getElem_cons_zero, List.getElem_cons_succ]
                refine AnyT.takeA (i := 13) (v := ?_) rfl (by kernel_rfl) (by kernel_rfl) (by kernel_rfl) (fun _ _ _ h => h) (Or.inl ⟨by rfl, ?_⟩) ?_
                rotate_left 1
                · (intro w0 _; go_simp; try with_reducible rfl)
                try simp only [Act.put, List.setIfInBounds_toArray, List.set_cons_zero, List.set_cons_succ, List.getElem_toArray, List.getElem_cons_zero, List.getElem_cons_succ]
                refine AnyT.takeA (i := 14) (v := ?_) rfl (by kernel_rfl) (by kernel_rfl) (by kernel_rfl) (fun _ _ _ h => h) (Or.inl ⟨by rfl, ?_⟩) ?_
                rotate_left 1
                · (intro w0 _; go_simp; try with_reducible rfl)
                try simp only [Act.put, List.setIfInBounds_toArray, List.set_cons_zero, List.set_cons_succ, List.getElem_toArray, List.getElem_cons_zero, List.getElem_cons_succ]
                refine AnyT.take (i := 15) (v := ?_) rfl (by kernel_rfl) (by kernel_rfl) (by kernel_rfl) (by kernel_rfl) (fun _ _ _ h => h) (Or.inl ⟨by rfl, ?_⟩) (by assumption) ?_
                rotate_left 1
                · (intro w0 hSw; (try dsimp only at hSw); go_simp; try with_reducible rfl)
                try simp only [Act.put, List.setIfInBounds_toArray, List.set_cons_zero, List.set_cons_succ, List.getElem_toArray, List.getElem_cons_zero, List.getElem_cons_succ]
                refine AnyT.takeA (i := 16) (v := ?_) rfl (by kernel_rfl) (by kernel_rfl) (by kernel_rfl) (fun _ _ _ h => h) (Or.inl ⟨by rfl, ?_⟩) ?_
                rotate_left 1
                · (intro w0 _; go_simp; try with_reducible rfl)
                try simp only [Act.put, List.setIfInBounds_toArray, List.set_cons_zero, List.set_cons_succ, List.getElem_toArray, List.getElem_cons_zero, List.getElem_cons_succ]
                refine AnyT.takeA (i := 17) (v := ?_) rfl (by kernel_rfl) (by kernel_rfl) (by kernel_rfl) (fun _ _ _ h => h) (Or.inl ⟨by rfl, ?_⟩) ?_
                rotate_left 1
                · (intro w0 _; go_simp; try with_reducible rfl)
                try simp only [Act.put, List.setIfInBounds_toArray, List.set_cons_zero, List.set_cons_succ, List.getElem_toArray, List.getElem_cons_zero, List.getElem_cons_succ]
                refine AnyT.call (i := 18) (by kernel_rfl) rfl (fun K hK => ?_)
                try simp only [Act.put, List.setIfInBounds_toArray, List.set_cons_zero, List.set_cons_succ, List.getElem_toArray, List.getElem_cons_zero, List.getElem_cons_succ]
                rw [if_pos (by rfl)]
                go_simp
                refine hK.out _ _ (fun _ _ => ?_) (fun hKeep => ?_)
                · exact ⟨keep_alloc c3, keep_alloc c4, keep_alloc c0, keep_alloc c1⟩
                replace hHeld := hKeep (by first | rfl | trivial) hHeld
                clear hK K hKeep
                try simp only [Act.put, List.setIfInBounds_toArray, List.set_cons_zero, List.set_cons_succ, List.getElem_toArray, List.getElem_cons_zero, List.getElem_cons_succ]
                refine AnyT.call (i := 19) (by kernel_rfl) rfl (fun K hK => ?_)
                try simp only [Act.put, List.setIfInBounds_toArray, List.set_cons_zero, List.set_cons_succ, List.getElem_toArray, List.getElem_cons_zero, List.getElem_cons_succ]
                rw [if_pos (by rfl)]
                have HAPP := Lib.hid (show OwnL (w2.drew.alloc (.cells #[.int .i64 ((p : Int) + xa), .int .i64 xr, .slice U2 un2 uc2] 81)) (B + 1) wr.heap.size 81 sStep O on oc (insS d.1 t p (k.2.take i)) ∧ OwnL (w2.drew.alloc (.cells #[.int .i64 ((p : Int) + xa), .int .i64 xr, .slice U2 un2 uc2] 81)) wr.heap.size (w2.heap.size + 1) 81 sStep (some ⟨w2.heap.size, 0, none⟩) 1 1 [((p : Int) + xa, xr, putAt d.1 t ys p)] from ⟨OL.out.next b3, OwnL.single (e := 81) (s := sStep) (Row.new w2.drew 81 #[.int .i64 ((p : Int) + xa), .int .i64 xr, .slice U2 un2 uc2]) ((owned_step OU.out ((p : Int) + xa) xr).next b3) (Nat.le_refl _) zz⟩)
                refine wp_appL _ _ 39 81 sStep _ _ Tryz.underlying39 info_StepS rfl (by decide) rfl (B + 1) wr.heap.size wr.heap.size (w2.heap.size + 1) O on oc w2.heap.size 1 1 _ _ rfl HAPP.out.1 rfl HAPP.out.2 (Nat.le_refl _) zB1 (by omega) (by omega) (by simp; omega) ?_
                intro A4 oc' w4 oL4 hg4 hat4 b4 hf4
                obtain ⟨O', rfl⟩ := hf4 (.inr (by omega))
                refine hK.out _ _ (fun _ _ => ?_) (fun hKeep => ?_)
                · exact ⟨(b4.cell (p := ⟨B, 1, none⟩) (show B < B + 1 by omega)).trans (keep_alloc c3), (b4.cell (p := ⟨w.heap.size + 1, 1, none⟩) (show w.heap.size + 1 < B + 1 by omega)).trans (keep_alloc c4), (b4.cell (p := ⟨b, off + i * 3, none⟩) (show b < B + 1 by omega)).trans (keep_alloc c0), (b4.cell (p := ⟨b, off + i * 3 + 1, none⟩) (show b < B + 1 by omega)).trans (keep_alloc c1)⟩
                replace hHeld := hKeep (by first | rfl | trivial) hHeld
                clear hK K hKeep
                try simp only [Act.put, List.setIfInBounds_toArray, List.set_cons_zero, List.set_cons_succ, List.getElem_toArray, List.getElem_cons_zero, List.getElem_cons_succ]
                refine AnyT.takeA (i := 20) (v := ?_) rfl (by kernel_rfl) (by kernel_rfl) (by kernel_rfl) (fun _ _ _ h => h) (Or.inl ⟨by rfl, ?_⟩) ?_
                rotate_left 1
                · (intro w0 _; go_simp; try with_reducible rfl)
                try simp only [Act.put, List.setIfInBounds_toArray, List.set_cons_zero, List.set_cons_succ, List.getElem_toArray, List.getElem_cons_zero, List.getElem_cons_succ]
                have rB4 := (RB.out.alloc (.cells #[.int .i64 ((p : Int) + xa), .int .i64 xr, .slice U2 un2 uc2] 81)).below b4 (show B < B + 1 by omega)
                have y1 : w4.cell? ⟨B, 1, none⟩ = some (.slice O on oc) := rB4.cell 1
                have g1 := rB4.free 1
                refine AnyT.call (i := 21) (by kernel_rfl) rfl (fun K hK => ?_)
                try simp only [Act.put, List.setIfInBounds_toArray, List.set_cons_zero, List.set_cons_succ, List.getElem_toArray, List.getElem_cons_zero, List.getElem_cons_succ]
                rw [if_pos (by rfl)]
                go_simp
                refine hK.out _ _ (fun h => by cases h) (fun _ => ?_)
                clear hK K
                try simp only [Act.put, List.setIfInBounds_toArray, List.set_cons_zero, List.set_cons_succ, List.getElem_toArray, List.getElem_cons_zero, List.getElem_cons_succ]
                refine AnyT.done (by kernel_rfl) ?_ _
                have hJ := (J2H.out.next ((drew_below w2).trans b3))
                have F := Lib.hid (show Wi w (.slice A n cs) (.slice V q cv) (.slice F fn fc) (.slice (some ⟨b, off, none⟩) sn sc) B X (some ⟨O', 0, none⟩) xn xc (on + 1) oc' (putAt d.1 t k.1 p) (insS d.1 t p (k.2.take (i + 1))) (w4.setCell ⟨B, 1, none⟩ (.slice (some ⟨O', 0, none⟩) (on + 1) oc')) from by
                  have z := HZ.out
                  have h9 : w2.heap.size + 1 ≤ w4.heap.size := by have := b4.size; simpa using this
                  refine ⟨(hJ.r0.below b4 (by omega)).far (show w.heap.size ≠ B by omega) _, (hJ.r1.below b4 (by omega)).far (show w.heap.size + 1 ≠ B by omega) _, (hJ.r2.below b4 (by omega)).far (show w.heap.size + 1 + 1 ≠ B by omega) _, rB4.put 1 _, ?_, ?_, ?_, z⟩
                  · exact (hJ.x.btw (lo' := B + 1) (hi' := w4.heap.size) (Btw.of_grown hg4 (fun q hq => by have h8 := OL.out.ge q hq; have h7 : q < w2.heap.size := h8.2; omega)) (.inl (by omega))).btw (lo' := B) (hi' := B + 1) ⟨rfl, rfl, rfl, by simp, fun k hk ho => Below.heap_setCell w4 _ _ k (by show k ≠ B; omega)⟩ (.inl (Nat.le_refl _))
                  · rw [← ins_take hil EX.out]
                    have o5 : OwnL (w4.setCell ⟨B, 1, none⟩ (.slice (some ⟨O', 0, none⟩) (on + 1) oc')) (B + 1) w4.heap.size 81 sStep (some ⟨O', 0, none⟩) (on + 1) oc' (insS d.1 t p (k.2.take i) ++ [((p : Int) + xa, xr, putAt d.1 t ys p)]) := oL4.btw (lo' := B) (hi' := B + 1) ⟨rfl, rfl, rfl, by simp, fun k hk ho => Below.heap_setCell w4 _ _ k (by show k ≠ B; omega)⟩ (.inr (Nat.le_refl _))
                    exact o5.wider (Nat.le_refl _) (by simp)
                  · exact (hJ.b.trans (b4.mono (by omega))).setCell (show w.heap.size ≤ B by omega) _)
                have HL2 := Lib.hid (show ∀ j, j < i + 1 → (putAt d.1 t (k.2.getD j (0, 0, [])).2.2 p).length ≤ 60 from fun j hj => by
                  by_cases e : j = i
                  · subst e; rw [EX.out]; exact HB2.out
                  · exact HLOW.out j (by omega))
                clear hJ rB4 oL4 hg4 hat4 b4 hf4 HAPP b3 OL OU RB J2H c0 c1 c3 c4
                go_wp2
                go_roundg (gk - 1)
                case measure => have := HG.out; omega
                case rel => exact ⟨i + 1, on + 1, oc', some ⟨O', 0, none⟩, by simp, by have := HG.out; omega, HL2.out, F.out⟩
            · have e1 : i = sn := by have := HG.out; omega
              subst e1
              have HI := Lib.hid (ins_yes HR.out HO.out HPT.out HB1.out (fun j hj => HLOW.out j (by rw [← HSN.out]; exact hj)))
              have HZ := J.z
              have ow : Owned wr (w.heap.size + 1 + 1 + 1) wr.heap.size sWalk [.slice X xn xc, .slice O on oc] (putAt d.1 t k.1 p, insS d.1 t p k.2) := by
                have o2 := J.o
                rw [List.take_of_length_le (by rw [HSN.out]; exact Nat.le_refl _)] at o2
                exact owned_walk (J.x.wider (Nat.le_refl _) (Nat.le_succ _)) o2 (by omega) J.r3.lt
              have jb := J.b
              have j2 := J.r2
              have K2 : wr.cell? ⟨B, 0, none⟩ = some (.slice X xn xc) := J.r3.cell 0
              have K3 : wr.cell? ⟨B, 1, none⟩ = some (.slice O on oc) := J.r3.cell 1
              clear J K0 HLOW
              have y0 : wr.cell? ⟨w.heap.size + 1 + 1, 0, none⟩ = some (.slice none 0 0) := j2.cell 0
              have y1 : wr.cell? ⟨w.heap.size + 1 + 1, 1, none⟩ = some (.slice none 0 0) := j2.cell 1
              have g0 := j2.free 0
              have g1 := j2.free 1
              have ra := j2.put 0 (.slice X xn xc)
              have y2 : (wr.setCell ⟨w.heap.size + 1 + 1, 0, none⟩ (.slice X xn xc)).cell? ⟨w.heap.size + 1 + 1, 1, none⟩ = some (.slice none 0 0) := ra.cell 1
              have g2 := ra.free 1
              have rb := ra.put 1 (.slice O on oc)
              have u0 : ((wr.setCell ⟨w.heap.size + 1 + 1, 0, none⟩ (.slice X xn xc)).setCell ⟨w.heap.size + 1 + 1, 1, none⟩ (.slice O on oc)).cell? ⟨w.heap.size + 1 + 1, 0, none⟩ = some (.slice X xn xc) := rb.cell 0
              have u1 : ((wr.setCell ⟨w.heap.size + 1 + 1, 0, none⟩ (.slice X xn xc)).setCell ⟨w.heap.size + 1 + 1, 1, none⟩ (.slice O on oc)).cell? ⟨w.heap.size + 1 + 1, 1, none⟩ = some (.slice O on oc) := rb.cell 1
              have FZ : AnsWalk w (insideW d.1 d.2 k t p) (insideB d.1 d.2 k t p) (.returned (.tuple #[.agg #[.slice X xn xc, .slice O on oc], .bool true])) ((wr.setCell ⟨w.heap.size + 1 + 1, 0, none⟩ (.slice X xn xc)).setCell ⟨w.heap.size + 1 + 1, 1, none⟩ (.slice O on oc)) := ⟨_, _, _, _, _, _, by rw [HI.out.2], by rw [HI.out.1]; exact ((ow.put (g := w.heap.size + 1 + 1) (i := 0) (by omega)).put (g := w.heap.size + 1 + 1) (i := 1) (by omega)).wider (by omega) (by simp), (jb.setCell (show w.heap.size ≤ w.heap.size + 1 + 1 by omega) _).setCell (show w.heap.size ≤ w.heap.size + 1 + 1 by omega) _⟩
              have HFZ := Lib.hid FZ
              clear FZ ra rb ow jb j2
              go_wp2
              exact bodyPost_ret (v := .tuple #[.agg #[.slice X xn xc, .slice O on oc], .bool true]) (by simp [results, Tryz.results28, go_sem, u0, u1]) rfl HFZ.out
end Go.Proofs.YtpcnjcgglonifaaGreat.walkSpec
end

section
namespace Go.Proofs.YtpcnjcgglonifaaGreat.walkX
open Go.RowKit base sig term termOk termFacts segs shape kindsR kindsW ruleMath stepMath walkMath walkSpec
theorem steps_sz {L : List St} {C : Nat} (h : ∀ s ∈ L, s.2.2.length ≤ C) : sz sStepS L ≤ L.length * (C + 1) := by
  induction L with
  | nil => exact Nat.zero_le _
  | cons x r ih =>
    have h1 := ih (fun s hs => h s (List.mem_cons_of_mem _ hs))
    have h2 := h x (List.mem_cons_self ..)
    have e : sz sStepS (x :: r) = (r.length + 1) + ((0 + (0 + sz sI x.2.2)) + (r.map (sz sStep)).sum) := rfl
    have e2 : sz sStepS r = r.length + (r.map (sz sStep)).sum := rfl
    rw [e, sz_ints, List.length_cons, Nat.add_mul]
    rw [e2] at h1
    omega
theorem walk_sz {k : Wk} (h1 : k.1.length ≤ 60) (h2 : k.2.length ≤ 60) (h3 : ∀ s ∈ k.2, s.2.2.length ≤ 60) : sz sWalk k ≤ 1048576 := by
  show sz sI k.1 + sz sStepS k.2 ≤ 1048576
  have a := steps_sz h3
  have b : k.2.length * (60 + 1) ≤ 60 * 61 := Nat.mul_le_mul h2 (Nat.le_refl _)
  rw [sz_ints]
  omega
theorem zero_sz : sz sWalk (([], []) : List Int × List St) ≤ 1048576 := walk_sz (k := ([], [])) (by simp) (by simp) (fun s hs => by cases hs)
theorem walkB_sz {sg : List Int} {rs : List Rl} {k : Wk} (h : walkB sg rs k = true) : sz sWalk k ≤ 1048576 := by
  obtain ⟨-, q2, q3, q4⟩ := walk_parts h
  exact walk_sz (term_len q2).2 q3 (fun s hs => (term_len ((go_ok q2 q4).2 s hs)).2)
theorem inside_sz {sg : List Int} {rs : List Rl} {k : Wk} {t : List Int} {x : Int} : sz sWalk (insideW sg rs k t x) ≤ 1048576 := by
  cases h : insideB sg rs k t x with
  | false => rw [(ins_off h).1]; exact zero_sz
  | true =>
    have h0 := h
    unfold insideB fitsAll at h
    simp only [Bool.and_eq_true, decide_eq_true_eq, List.all_eq_true] at h
    obtain ⟨⟨h1, h2⟩, h3, h4, h5⟩ := h
    unfold insideW
    rw [if_pos h0]
    refine walk_sz h4 (by show (insS sg t x.toNat k.2).length ≤ 60; unfold insS; rw [List.length_map]; exact (walk_parts h2).2.2.1) (fun s hs => ?_)
    have hs : s ∈ insS sg t x.toNat k.2 := hs
    unfold insS at hs
    obtain ⟨y, hy, rfl⟩ := List.mem_map.1 hs
    exact h5 y hy
end Go.Proofs.YtpcnjcgglonifaaGreat.walkX
end

section
namespace Go.Proofs.YtpcnjcgglonifaaGreat.kindsT
open Go.RowKit base ints sig cursor marks app sym appAt segs segsHelp segsMark kinds shape
set_option maxRecDepth 100000

abbrev sInt64SS : Sh := .row 24 sI
abbrev sSubst : Sh := sInt64SS
end Go.Proofs.YtpcnjcgglonifaaGreat.kindsT
end

section
namespace Go.Proofs.YtpcnjcgglonifaaGreat.und
open Go.RowKit base ints sig term termOk termFacts segs segsHelp shape kindsT fillMath gives filled substOk sub putMath ruleMath stepMath walkMath walkSpec

theorem rd_subst {w : World} {B : Nat} {v : Value} {ss : Dat sSubst} (h : Rd w B sSubst [v] ss) (hz : sz sSubst ss ≤ 1048576) : ∃ S m c, v = .slice S m c ∧ Segs w B S m ss ∧ tot ss ≤ 1048576 ∧ m ≤ 1048576 := by
  obtain ⟨A, n, c, e, hcap, hl, hc⟩ := h
  injection e with e
  have ht : tot ss = sz sSubst ss := by
    show ss.length + ((ss.take ss.length).map List.length).sum = ss.length + (ss.map (sz sI)).sum
    rw [List.take_length]
    congr 2
    refine List.map_congr_left fun x _ => ?_
    rw [sz_ints]
  have hl' : List.length ss = n := hl
  refine ⟨A, n, c, e, ⟨hl, fun hn => ?_⟩, by rw [ht]; exact hz, tot_len hl' (by rw [ht]; exact hz)⟩
  obtain ⟨b, off, eA, hb, hj⟩ := hc hn
  refine ⟨b, off, eA, hb, fun j hjn => ?_⟩
  obtain ⟨es, hel, hp, hr⟩ := hj j hjn
  obtain ⟨x, rfl⟩ := List.length_eq_one_iff.1 (show es.length = 1 from hel)
  obtain ⟨A', n', c', rfl, hs, hcp⟩ := rd_ints.1 hr
  have h0 := hp 0 (by simp)
  rw [show j * nc sI = j from Nat.mul_one j] at h0
  exact ⟨A', n', c', h0, hs, hcp⟩

def mvd (M : Nat → List Int) (s : St) : Int := ((fillL M (s.2.2.take s.1.toNat)).length : Int)
def undL (M : Nat → List Int) (L : List St) : List St := L.map fun s => (mvd M s, s.2.1, fillL M s.2.2)
def nowT (t : List Int) (L : List St) : Nat → List Int
  | 0 => t
  | j + 1 => (L.getD j (0, 0, [])).2.2
theorem put_pre {sg t u : List Int} {a : Nat} (ha : a < t.length) : (putAt sg t u a).take a = t.take a ∧ a ≤ (putAt sg t u a).length := by
  unfold putAt putL
  have h1 : (t.take a).length = a := by rw [List.length_take]; omega
  refine ⟨?_, by simp only [List.length_append]; omega⟩
  rw [List.take_append_of_le_length (by omega), List.take_of_length_le (by omega)]
theorem step_pre {sg : List Int} {x : Rl} {t v : List Int} {a : Nat} (ha : a < t.length) (h : stepO sg x t a = some v) : v.take a = t.take a ∧ a ≤ v.length := by
  unfold stepO at h
  split at h
  · cases h
  · split at h
    · injection h with h
      subst h
      exact put_pre ha
    · cases h
theorem now_pre {sg : List Int} {rs : List Rl} : ∀ {L : List St} {t v : List Int} {i : Nat} {y : St}, goOn sg rs t L = some v → termOkB sg t = true → i < L.length → L.getD i (0, 0, []) = y → (0 ≤ y.1 ∧ y.1 < (nowT t L i).length) ∧ y.2.2.take y.1.toNat = (nowT t L i).take y.1.toNat ∧ y.1.toNat ≤ y.2.2.length ∧ termOkB sg (nowT t L i) = true
  | [], _, _, _, _, _, _, hi, _ => absurd hi (Nat.not_lt_zero _)
  | x :: L, t, v, 0, y, h, ht, _, hy => by
    obtain ⟨h1, _⟩ := go_cons.1 h
    obtain ⟨q1, q2⟩ := stepAt_parts h1
    obtain ⟨-, -, r3, -⟩ := walkMath.there_parts q1
    have hy : x = y := hy
    subst hy
    obtain ⟨e1, e2⟩ := step_pre (show x.1.toNat < t.length by omega) q2
    exact ⟨r3, e1, e2, ht⟩
  | x :: L, t, v, i + 1, y, h, ht, hi, hy => by
    obtain ⟨h1, h2⟩ := go_cons.1 h
    have hx : termOkB sg x.2.2 = true := (go_ok ht h).2 x (List.mem_cons_self ..)
    have hn : nowT t (x :: L) (i + 1) = nowT x.2.2 L i := by cases i <;> rfl
    rw [hn]
    exact now_pre h2 hx (by simpa using hi) hy
theorem und_take {M : Nat → List Int} {i : Nat} {L : List St} {xa xr : Int} {ys : List Int} (hi : i < L.length) (hy : L.getD i (0, 0, []) = (xa, xr, ys)) : undL M (L.take i) ++ [(mvd M (xa, xr, ys), xr, fillL M ys)] = undL M (L.take (i + 1)) := by
  have e := take_step hi hy
  unfold undL
  rw [← e, List.map_append]
  rfl
theorem und_len60 {M : Nat → List Int} {i : Nat} {L : List St} (h : L.length ≤ 60) : (undL M (L.take i)).length ≤ 60 := by unfold undL; rw [List.length_map, List.length_take]; omega
theorem und_eq {sg : List Int} {rs : List Rl} {M : Nat → List Int} : ∀ {L : List St} {t v : List Int}, goOn sg rs t L = some v → termOkB sg t = true → undS M t L = undL M L
  | [], _, _, _, _ => rfl
  | x :: L, t, v, h, ht => by
    obtain ⟨-, e, -, -⟩ := now_pre (i := 0) h ht (by simp) rfl
    have e : x.2.2.take x.1.toNat = t.take x.1.toNat := e
    obtain ⟨h1, h2⟩ := go_cons.1 h
    have hx : termOkB sg x.2.2 = true := (go_ok ht h).2 x (List.mem_cons_self ..)
    show _ :: _ = _ :: _
    have e2 : mvd M x = ((fillL M (t.take x.1.toNat)).length : Int) := by unfold mvd; rw [e]
    rw [und_eq h2 hx, ← e2]
    rfl

def undB (sg : List Int) (rs : List Rl) (k : Wk) (ss : List (List Int)) : Bool := (walkB sg rs k && substOkB sg ss) && (fitsB ss k.1 && k.2.all fun s => fitsB ss s.2.2)
def undW (sg : List Int) (rs : List Rl) (k : Wk) (ss : List (List Int)) : Wk := if undB sg rs k ss = true then (fillL (givesL ss) k.1, undL (givesL ss) k.2) else ([], [])
section
variable {sg : List Int} {rs : List Rl} {k : Wk} {ss : List (List Int)}
theorem und_off (h : undB sg rs k ss = false) : undW sg rs k ss = ([], []) ∧ undB sg rs k ss = false := ⟨by unfold undW; rw [if_neg (by rw [h]; simp)], h⟩
theorem und_no1 (h : walkB sg rs k = false) : undW sg rs k ss = ([], []) ∧ undB sg rs k ss = false := und_off (by unfold undB; rw [h]; rfl)
theorem und_no2 (h : substOkB sg ss = false) : undW sg rs k ss = ([], []) ∧ undB sg rs k ss = false := und_off (by unfold undB; rw [h, Bool.and_false]; rfl)
theorem und_no3 (h : fitsB ss k.1 = false) : undW sg rs k ss = ([], []) ∧ undB sg rs k ss = false := und_off (by unfold undB; rw [h]; simp)
theorem und_no4 {i : Nat} {y : St} (hi : i < k.2.length) (hy : k.2.getD i (0, 0, []) = y) (h : fitsB ss y.2.2 = false) : undW sg rs k ss = ([], []) ∧ undB sg rs k ss = false := und_off (by
  unfold undB
  have : (k.2.all fun s => fitsB ss s.2.2) = false := by
    rw [List.all_eq_false]
    refine ⟨y, ?_, by rw [h]; simp⟩
    rw [← hy]
    simp [List.getD, hi]
  rw [this]; simp)
theorem und_yes (h1 : walkB sg rs k = true) (h2 : substOkB sg ss = true) (h3 : fitsB ss k.1 = true) (h4 : ∀ i, i < k.2.length → fitsB ss (k.2.getD i (0, 0, [])).2.2 = true) : undW sg rs k ss = (fillL (givesL ss) k.1, undL (givesL ss) k.2) ∧ undB sg rs k ss = true := by
  have h : undB sg rs k ss = true := by
    unfold undB
    rw [h1, h2, h3]
    have : (k.2.all fun s => fitsB ss s.2.2) = true := by
      rw [List.all_eq_true]
      intro s hs
      obtain ⟨i, hi, rfl⟩ := List.getElem_of_mem hs
      have := h4 i hi
      have e : k.2.getD i (0, 0, []) = k.2[i] := by simp only [List.getD, List.getElem?_eq_getElem hi, Option.getD_some]
      rwa [e] at this
    rw [this]; rfl
  exact ⟨by unfold undW; rw [if_pos h], h⟩
end
end Go.Proofs.YtpcnjcgglonifaaGreat.und
end

section
namespace Go.Proofs.YtpcnjcgglonifaaGreat.undX
open Go.RowKit base sig term termOk termFacts segs shape kindsR kindsW ruleMath stepMath walkMath walkSpec walkX fillMath gives filled und
theorem fits_len {ss : List (List Int)} {t : List Int} (h : fitsB ss t = true) : (fillL (givesL ss) t).length ≤ 60 := of_decide_eq_true h
theorem und_sz {sg : List Int} {rs : List Rl} {k : Wk} {ss : List (List Int)} : sz sWalk (undW sg rs k ss) ≤ 1048576 := by
  cases h : undB sg rs k ss with
  | false => rw [(und_off h).1]; exact zero_sz
  | true =>
    have h0 := h
    unfold undB at h
    simp only [Bool.and_eq_true, List.all_eq_true] at h
    obtain ⟨⟨h1, h2⟩, h4, h5⟩ := h
    unfold undW
    rw [if_pos h0]
    refine walk_sz (fits_len h4) (by show (undL (givesL ss) k.2).length ≤ 60; unfold undL; rw [List.length_map]; exact (walk_parts h1).2.2.1) (fun s hs => ?_)
    have hs : s ∈ undL (givesL ss) k.2 := hs
    unfold undL at hs
    obtain ⟨y, hy, rfl⟩ := List.mem_map.1 hs
    exact fits_len (h5 y hy)
end Go.Proofs.YtpcnjcgglonifaaGreat.undX
end
