/-
  MERGED: my texts RuleSpecB, RuleSpecC, RuleImplE, PkTerms, ParMath, ParRoot, ParSpec, ParImpl, ParX, OpenX, one behind the other, as they are. By an AI agent.
-/
import Derived.Test.YtlmofkeemlfpgaaGreatMFnExactClosedIn11
import Derived.BigQuiet
import Derived.Deep.RegionHeld3
import Derived.Deep.QuietTactic
import Derived.BigRegion
import Derived.ProofKit
import Derived.OpenShut
import Derived.Lib.SmallJoins
import Derived.Deep.Slices
import Derived.Deep.Fields
namespace Go.Proofs.YtlmofkeemlfpgaaGreat
section
open Go.Lib (hid)
namespace ruleSpec
open Go.RowKit base ints sig term termOk marks app sym segs termFacts varsMath varsOf rename same count linear shape kindsR ruleMath
set_option maxRecDepth 100000
theorem ll_no {sg : List Int} {rs : List Rl} (h : sysOkB sg rs = false) : leftLinB sg rs = false := by unfold leftLinB; rw [h]; rfl
theorem ll_bad {sg : List Int} {rs : List Rl} {k : Nat} {x : Rl} (hk : k < rs.length) (ex : rs.getD k ([], []) = x) (h : linB x.1 = false) : leftLinB sg rs = false := by
 unfold leftLinB leftB
 rw [any_round hk (f := fun r => !linB r.1) (by rw [ex, h]; rfl)]; simp
theorem ll_yes {sg : List Int} {rs : List Rl} (h : sysOkB sg rs = true) (hl : ∀ j, j < rs.length → linB (rs.getD j ([], [])).1 = true) : leftLinB sg rs = true := by
 unfold leftLinB leftB
 rw [h, any_rounds (f := fun r => !linB r.1) (fun j hj => by rw [hl j hj]; rfl)]; rfl
set_option maxHeartbeats 4000000 in
theorem specLeftLinearIn (a v : Value) (d : Dat sSystem) (w : World) (h : Rd w w.heap.size sSystem [a, v] d) (hz : sz sSystem d ≤ 1048576) :
  Calls Tryz.prog 28 #[.agg #[a, v]] w (AnsB w (leftLinB d.1 d.2)) := by
 have S1 := fun (w1 : World) (bb : Below w.heap.size w w1) => specSystemOk a v d w1 (h.next bb) hz
 obtain ⟨A, n, c, V, m, cv, rfl, rfl, hs, hc, hcv, hm, hn, hm1, hrs, hsg, hE⟩ := rd_sys h hz
 obtain ⟨W, hW, rA, bel⟩ := box1 w 33 #[.slice A n c, .slice V m cv]
 have HW := hid hW
 have HM := hid hm
 have HE := hid hE
 have HR := hid hrs
 have LS1 := hid (S1 W bel)
 clear hW h hz hs hc hcv hm hE hrs hsg S1
 cases ok1 : sysOkB d.1 d.2 with
 | false =>
  have HS := hid ok1
  clear ok1
  go_enter Tryz.func28, Tryz.ntmps28
  go_wp2_with fail
  rw [← HW.out]
  refine LS1.out.mono ?_
  rintro e w1 ⟨he, bb⟩
  rw [HS.out] at he
  subst he
  have F := hid (ansB (b := leftLinB d.1 d.2) (a := false) (by rw [ll_no HS.out]) (next_trans bel bb))
  clear bel rA bb
  go_wp2
  go_ret
  exact F.out
 | true =>
  have HS := hid ok1
  clear ok1
  go_enter Tryz.func28, Tryz.ntmps28
  go_wp2_with fail
  rw [← HW.out]
  refine LS1.out.mono ?_
  rintro e w1 ⟨he, bb⟩
  rw [HS.out] at he
  subst he
  have H0 : Hid (HeadSy w 33 #[.slice A n c, .slice V m cv] m (fun x => linB x.1) d.2 (.int .i64 0) w1) := hid ⟨0, Nat.zero_le _, rfl, fun j hj => absurd hj (Nat.not_lt_zero _), rA.next bb, next_trans bel bb⟩
  clear rA bel bb LS1
  go_wp2_with fail
  go_loopw [3] (fun i wr => HeadSy w 33 #[.slice A n c, .slice V m cv] m (fun x => linB x.1) d.2 i wr) (fun i _ => m - (intOf i).toNat)
  case atStart => exact H0.out
  case round =>
   obtain ⟨k, hk, rfl, hlow, rr, hb⟩ := hrel
   have HLOW := hid hlow
   clear hlow H0
   by_cases hlt : k < m
   ·obtain ⟨b, off, l, r, x, rfl, hbB, ex, hc0, hc1, hx⟩ := rd_at HR.out hb HM.out hlt
    have a1 : wr.cell? ⟨w.heap.size, 1, none⟩ = some (.slice (some ⟨b, off, none⟩) m cv) := rr.cell 1
    have hzx : sz sRule x ≤ 1048576 := by have := HE.out k hlt; rw [ex.out] at this; exact this
    obtain ⟨A1, n1, c1, A2, n2, c2, rfl, rfl, s1, k1, s2, k2, hn1, hn2⟩ := rd_rule hx hzx
    have L := hid (l2Linear A1 n1 c1 x.1 wr (s1.more hb.size) hn1)
    have i0 : (0 : Int) ≤ (k : Int) := by omega
    have i1 : (k : Int) < (m : Int) := by omega
    clear hx hzx s1 s2 k1 k2
    cases ok : linB x.1 with
    | false =>
     have HO := hid ok
     clear ok
     have F := hid (ansB (b := leftLinB d.1 d.2) (a := false) (by rw [ll_bad (by rw [HM.out]; exact hlt) ex.out HO.out]) hb)
     clear rr hb
     go_wp2_with fail
     refine L.out.mono ?_
     rintro e w2 ⟨rfl, he⟩
     rw [HO.out] at he
     subst he
     clear L
     go_wp2
     go_ret
     exact F.out
    | true =>
     have HO := hid ok
     clear ok
     have F := hid (headSy_step (f := fun x => linB x.1) (w := w) hlt HLOW.out ex HO.out rr hb)
     clear rr hb
     go_wp2_with fail
     refine L.out.mono ?_
     rintro e w2 ⟨rfl, he⟩
     rw [HO.out] at he
     subst he
     clear L
     go_wp2
     go_roundw
     case rel => exact F.out
     case measure => simp [intOf]; omega
   ·have a1 : wr.cell? ⟨w.heap.size, 1, none⟩ = some (.slice V m cv) := rr.cell 1
    have F := hid (ansB (b := leftLinB d.1 d.2) (a := true) (by rw [ll_yes HS.out (fun j hj => HLOW.out j (by rw [HM.out] at hj; omega))]) hb)
    clear rr hb
    go_wp2
    go_ret
    exact F.out
end ruleSpec
end
section
namespace ruleSpec
open Go.RowKit base ints sig term termOk marks app sym segs termFacts varsMath varsOf rename renMath same count linear shape kindsR ruleMath appAt kinds
set_option maxRecDepth 100000
theorem sym_yes {p : Int → Bool} {k : Nat} (h : p (k : Int) = true) : symL p (k + 1) = symL p k ++ [(k : Int)] := by rw [symL, if_pos h]
end ruleSpec
end
section
open Go.Lib (hid)
namespace ruleImpl
open Go.RowKit base ints sig term termOk marks app appAt sym segs termFacts varsMath varsOf rename same count linear shape kindsR ruleMath ruleSpec anyR
set_option maxRecDepth 100000
theorem boxN {w w1 : World} {T : TypeId} {cs : Array Value} (bel : Below w.heap.size w w1) : Row (w1.alloc (.cells cs T)) w1.heap.size T cs ∧ Below w.heap.size w (w1.alloc (.cells cs T)) ∧ Below w1.heap.size w1 (w1.alloc (.cells cs T)) :=
 ⟨Row.new _ _ _, bel.alloc bel.size _, (Below.refl _ _).alloc (Nat.le_refl _) _⟩
theorem any_congr {rs : List Rl} {f g : Rl → Bool} (h : ∀ x ∈ rs, f x = g x) : rs.any f = rs.any g := by
 induction rs with
 | nil => rfl
 | cons x rs ih => rw [List.any_cons, List.any_cons, h x (List.mem_cons_self ..), ih (fun y hy => h y (List.mem_cons_of_mem _ hy))]
theorem rd_zero (w : World) (B : Nat) : Rd w B sSystem [.slice none 0 0, .slice none 0 0] (([], []) : List Int × List Rl) :=
 ⟨[.slice none 0 0], [.slice none 0 0], rfl, ⟨none, 0, 0, rfl, ⟨by omega, by omega, fun _ => rfl⟩, rfl, fun h => absurd h (by omega)⟩, ⟨none, 0, 0, rfl, ⟨by omega, by omega, fun _ => rfl⟩, rfl, fun h => absurd h (by omega)⟩⟩
theorem fin_LeftLinearIn_no {sg : List Int} {rs : List Rl} (h : sysOkB sg rs = false) : leftLinB sg rs = false := by unfold leftLinB; rw [h]; rfl
theorem fin_LeftLinearIn_yes {sg : List Int} {rs : List Rl} (h : sysOkB sg rs = true) : leftLinB sg rs = !rs.any (fun x => !linearB sg x.1) := by
 unfold leftLinB leftB; rw [h, Bool.true_and]; congr 1
 exact any_congr fun x hx => by unfold linearB; rw [(rule_parts ((sys_parts h).2.2 x hx)).1]; rfl
set_option maxHeartbeats 4000000 in
theorem implLeftLinearIn (a v : Value) (d : Dat sSystem) (w : World) (h : Rd w w.heap.size sSystem [a, v] d) (hz : sz sSystem d ≤ 1048576) :
  Calls Tryz.prog 54 #[.agg #[a, v]] w (AnsB w (leftLinB d.1 d.2)) := by
 have hzs := sys_szs hz
 have hsg := (parts_System h).1
 have SO := fun (w1 : World) (bb : Below w.heap.size w w1) => systemOf a v d w1 (h.next bb) hz
 have LT := fun (ok : sysOkB d.1 d.2 = true) (w1 : World) (bb : Below w.heap.size w w1) => some_ 82 #[.agg #[a]] #[] (fun _ _ => rfl) (fun x => !linearB d.1 x.1) a v d w1
  (fun W' l r (x : Rl) hW' hx hr => repeats_ a l r d.1 x W' (hsg.next (next_trans bb hW')) hzs.1 hr (sz_mem hzs.2 hx)) (h.next bb) hz
 obtain ⟨A, n, c, V, m, cv, rfl, rfl, -⟩ := rd_sys h hz
 obtain ⟨W, hW, rA, bel⟩ := box1 w 33 #[.slice A n c, .slice V m cv]
 have HW := hid hW
 have L := hid (SO W bel)
 have HLT := hid LT
 have hmf := makeFn
 clear hW h hz SO LT hzs hsg
 go_enter Tryz.func54, Tryz.ntmps54
 go_wp2_with fail
 rw [← HW.out]
 refine L.out.mono ?_
 cases ok : sysOkB d.1 d.2 with
 | false =>
  have HO := hid ok
  rintro e w1 ⟨rfl, bb⟩
  have F := hid (boxN (T := 76) (cs := #[.slice none 0 0, .slice none 0 0]) (next_trans bel bb)).2.1
  simp only [sysV, if_true, Bool.false_eq_true, if_false]
  clear bel bb rA L HLT ok
  go_wp2
  go_ret
  exact ⟨by rw [fin_LeftLinearIn_no HO.out]; rfl, F.out⟩
 | true =>
  have HO := hid ok
  rintro e w1 ⟨rfl, bb⟩
  obtain ⟨rS, belS, bS⟩ := boxN (T := 76) (cs := #[.slice A n c, .slice V m cv]) (next_trans bel bb)
  have L2 := hid (HLT.out ok _ belS)
  have c0 := rS.cell 0
  have c1 := rS.cell 1
  have E := hid (fin_LeftLinearIn_yes HO.out)
  simp only [sysV, if_true]
  clear bel bb rA L HLT ok rS bS
  go_wp2_with fail
  refine L2.out.mono ?_
  rintro e w2 ⟨he, bb⟩
  obtain ⟨z, hzz⟩ : ∃ z, d.2.any (fun x => !linearB d.1 x.1) = z := ⟨_, rfl⟩
  rw [hzz] at E
  rw [show (List.any d.2 fun x => !linearB d.1 x.1) = z from hzz] at he
  subst he
  have F := hid (next_trans belS bb)
  clear bb belS L2 c0 c1 hzz
  go_wp2
  go_ret
  exact ⟨by rw [E.out]; rfl, F.out⟩
end ruleImpl
end
section
namespace pkTerms
open sig term termOk termFacts sub fillMath renMath matchMath unifMath forest triMath ruleMath peakMath trySpec ovsMath pkMath pkVars pkMgu pkLink pkAll pksMath
theorem Fo.swap {sg y y' z : List Int} (hy : Fo sg 1 y) (hy' : Fo sg 1 y') : ∀ {x : List Int} {q : Nat}, Fo sg q (x ++ (y ++ z)) → Fo sg q (x ++ (y' ++ z))
 | [], 0, h => by
  have h0 : y ++ z = [] := h.zero
  have := hy.pos
  rw [List.append_eq_nil_iff] at h0
  rw [h0.1] at this
  exact absurd this (by simp)
 | [], q + 1, h => by
  rw [Nat.add_comm] at h ⊢
  obtain ⟨a, b, e, ha, hb⟩ := Fo.split h
  obtain ⟨e1, e2⟩ := Fo.uniq ha hy (r := b) (s := z) e.symm
  rw [← e2]
  exact hy'.append hb
 | a :: x, q, h => by
  obtain ⟨q', rfl, ⟨h0, h1⟩ | ⟨h0, h2, h1⟩⟩ := Fo.inv h
  ·exact .var a _ q' h0 (Fo.swap hy hy' h1)
  ·exact .app a _ q' h0 h2 (Fo.swap hy hy' h1)
section
variable {sg : List Int} {rs : List Rl}
theorem pkV_some {o a u : Nat} {v : List Int × List Int × List Int} (h : pkV sg rs o a u = some v) : ∃ L, MguS sg (oS sg rs o a) (oT rs u) L ∧ pk3 (fillL L (lh rs o)) (fillL L (leftA sg rs o a u)) (fillL L (rh rs o)) = some v := by
 unfold pkV at h
 split at h
 ·rename_i hex
  exact ⟨_, Classical.choose_spec hex, h⟩
 ·cases h
theorem pk_terms {t : Tr} (hs : sysOkB sg rs = true) (ht : t ∈ ovs sg rs anyW) (hk : okT sg rs t = true) : termOkB sg (pkT sg rs t).1 = true ∧ termOkB sg (pkT sg rs t).2.1 = true ∧ termOkB sg (pkT sg rs t).2.2.1 = true := by
 obtain ⟨o, a, u⟩ := t
 obtain ⟨⟨ho, ha, hu⟩, -, -⟩ := mem_all ht
 have ro := rule_parts (trySpec.sys_rule hs ho)
 have ru := rule_parts (trySpec.sys_rule hs hu)
 have lo : termOkB sg (lh rs o) = true := ro.1
 have ro2 : termOkB sg (rh rs o) = true := ro.2.1
 have ru2 : termOkB sg (rh rs u) = true := ru.2.1
 unfold okT at hk
 have hk : (pkV sg rs o a u).isSome = true := hk
 cases hv : pkV sg rs o a u with
 | none => rw [hv] at hk; cases hk
 | some v =>
  obtain ⟨L, hm, h3⟩ := pkV_some hv
  have e : pkT sg rs (o, a, u) = pkO (some v) o a u := by
   show pkO (pkV sg rs o a u) o a u = _
   rw [hv]
  rw [e]
  unfold pk3 at h3
  split at h3
  ·rename_i hc
   injection h3 with h3
   subst h3
   have hsig := (term_parts lo).1
   have inO : ∀ {x : Int}, x ∈ fillL L (lh rs o) → x < 0 → x ∈ orderL (fillL L (lh rs o)) := fun hx h0 => order_mem9.2 ⟨hx, h0⟩
   have foT : Fo sg 1 (fillL L (lh rs o)) := (fo_term lo).fill hm.uni.1
   have foR : Fo sg 1 (fillL L (rh rs o)) := (fo_term ro2).fill hm.uni.1
   have foA0 : Fo sg 1 (leftA sg rs o a u) := by
    have h1 := fo_term lo
    rw [lo_parts lo ha] at h1
    exact Fo.swap (fo_term (trySpec.sub_ok lo ha)) (fo_shift ru2) h1
   have foA : Fo sg 1 (fillL L (leftA sg rs o a u)) := foA0.fill hm.uni.1
   refine ⟨?_, ?_, ?_⟩
   ·show termOkB sg (byL _ _) = true
    rw [by_ok hsig foT hc.2.2.2 fun x hx h0 => inO hx h0]
    exact decide_eq_true hc.1
   ·show termOkB sg (byL _ _) = true
    rw [by_ok hsig foA hc.2.2.2 fun x hx h0 => inO (left_vars lo ha ru.2.2.2 hm.uni.2 x hx h0) h0]
    exact decide_eq_true hc.2.1
   ·show termOkB sg (byL _ _) = true
    rw [by_ok hsig foR hc.2.2.2 fun x hx h0 => inO (right_vars ro.2.2.2 x hx h0) h0]
    exact decide_eq_true hc.2.2.1
  ·cases h3
theorem psA_terms : ∀ y ∈ psA sg rs, termOkB sg y.1 = true ∧ termOkB sg y.2.1 = true ∧ termOkB sg y.2.2.1 = true := by
 intro y hy
 unfold psA at hy
 split at hy
 ·rename_i hb
  unfold psB at hb
  rw [Bool.and_eq_true] at hb
  obtain ⟨t, ht, rfl⟩ := List.mem_map.1 hy
  refine pk_terms hb.1 ht ?_
  have hg := hb.2
  unfold goodL at hg
  rw [Bool.and_eq_true] at hg
  first | exact (List.all_eq_true.1 hg.2) t ht | exact (List.all_eq_true.1 hg.1) t ht
 ·cases hy
theorem psA_no (h : psB sg rs = false) : psA sg rs = [] := by unfold psA; rw [if_neg (by rw [h]; simp)]
theorem psB_sys (h : psB sg rs = true) : sysOkB sg rs = true := by
 unfold psB at h
 rw [Bool.and_eq_true] at h
 exact h.1
end
end pkTerms
end
section
namespace parMath
open sig term termOk termFacts fillMath ruleMath stepMath walkMath forest
def rootB (sg : List Int) (rs : List Rl) (a b : List Int) (k : Nat) : Bool := (List.range k).any fun r => decide (stepAtO sg rs a 0 (r : Int) = some b)
theorem root_next (sg : List Int) (rs : List Rl) (a b : List Int) (k : Nat) : rootB sg rs a b (k + 1) = (rootB sg rs a b k || decide (stepAtO sg rs a 0 (k : Int) = some b)) := by
 unfold rootB
 rw [List.range_succ, List.any_append]
 simp
theorem root_in {sg : List Int} {rs : List Rl} {a b : List Int} {r k : Nat} (h : stepAtO sg rs a 0 (r : Int) = some b) (hr : r < k) : rootB sg rs a b k = true := by
 unfold rootB
 rw [List.any_eq_true]
 exact ⟨r, List.mem_range.2 hr, by rw [h]; simp⟩
inductive Par (sg : List Int) (rs : List Rl) : List Int → List Int → Prop
 | same (a : List Int) : Par sg rs a a
 | root (a b : List Int) (h : rootB sg rs a b rs.length = true) : Par sg rs a b
 | args (a b : List Int) (ps qs : List (List Int)) (ha : Prt sg a ps) (hb : Prt sg b qs) (he : a.getD 0 0 = b.getD 0 0) (h : ∀ i, i < ps.length → Par sg rs (ps.getD i []) (qs.getD i [])) : Par sg rs a b
noncomputable def parB (sg : List Int) (rs : List Rl) (a b : List Int) : Bool := @decide (Par sg rs a b) (Classical.propDecidable _)
variable {sg : List Int} {rs : List Rl} {a b : List Int}
theorem par_yes (h : Par sg rs a b) : parB sg rs a b = true := by exact @decide_eq_true _ (Classical.propDecidable _) h
theorem par_no (h : ¬ Par sg rs a b) : parB sg rs a b = false := by exact @decide_eq_false _ (Classical.propDecidable _) h
theorem par_same (h : a = b) : parB sg rs a b = true := by subst h; exact par_yes (.same _)
theorem par_root (h : rootB sg rs a b rs.length = true) : parB sg rs a b = true := par_yes (.root _ _ h)
theorem prt_head {ps : List (List Int)} (h : Prt sg a ps) : 0 ≤ a.getD 0 0 := by
 obtain ⟨⟨x, h1, -, e, -⟩, -⟩ := h
 rw [e]
 exact h1
theorem prt_len2 {ps qs : List (List Int)} (h : Prt sg a ps) (h' : Prt sg b qs) (e : a.getD 0 0 = b.getD 0 0) : ps.length = qs.length := by
 obtain ⟨⟨x, -, -, e1, e2⟩, -⟩ := h
 obtain ⟨⟨y, -, -, e3, e4⟩, -⟩ := h'
 rw [e1, e3] at e
 have e : x = y := e
 rw [e2, e4, e]
theorem par_head (h : a ≠ b) (h' : rootB sg rs a b rs.length = false) (e : a.getD 0 0 ≠ b.getD 0 0) : parB sg rs a b = false := by
 refine par_no fun hp => ?_
 cases hp with
 | same => exact h rfl
 | root _ _ h2 => rw [h'] at h2; cases h2
 | args _ _ ps qs ha hb he _ => exact e he
theorem par_neg (h : a ≠ b) (h' : rootB sg rs a b rs.length = false) (e : a.getD 0 0 < 0) : parB sg rs a b = false := by
 refine par_no fun hp => ?_
 cases hp with
 | same => exact h rfl
 | root _ _ h2 => rw [h'] at h2; cases h2
 | args _ _ ps qs ha hb he _ => have := prt_head ha; omega
theorem par_all {ps qs : List (List Int)} (ha : Prt sg a ps) (hb : Prt sg b qs) (he : a.getD 0 0 = b.getD 0 0) (h : ∀ i, i < ps.length → parB sg rs (ps.getD i []) (qs.getD i []) = true) : parB sg rs a b = true := by
 refine par_yes (.args a b ps qs ha hb he fun i hi => ?_)
 exact @of_decide_eq_true _ (Classical.propDecidable _) (h i hi)
theorem par_miss {ps qs : List (List Int)} (h : a ≠ b) (h' : rootB sg rs a b rs.length = false) (ha : Prt sg a ps) (hb : Prt sg b qs) {i : Nat} (hi : i < ps.length) (hn : parB sg rs (ps.getD i []) (qs.getD i []) = false) : parB sg rs a b = false := by
 refine par_no fun hp => ?_
 cases hp with
 | same => exact h rfl
 | root _ _ h2 => rw [h'] at h2; cases h2
 | args _ _ ps' qs' ha' hb' he h3 =>
  have e1 := prt_one ha ha'
  have e2 := prt_one hb hb'
  subst e1 e2
  have := par_yes (h3 i hi)
  rw [hn] at this
  cases this
theorem fo_neg (h : Fo sg 1 a) (h0 : a.getD 0 0 < 0) : a = [a.getD 0 0] := by
 cases a with
 | nil => have := h.none; omega
 | cons x r =>
  have h0 : x < 0 := h0
  obtain ⟨q, e, h2⟩ := h.inv
  have e1 : q = 0 := by omega
  subst e1
  rcases h2 with ⟨-, h3⟩ | ⟨h4, -⟩
  ·rw [h3.zero]; rfl
  ·omega
theorem heads_neg (h : Fo sg 1 a) (h' : Fo sg 1 b) (h0 : a.getD 0 0 < 0) (e : a.getD 0 0 = b.getD 0 0) : a = b := by
 rw [fo_neg h h0, fo_neg h' (by omega), ← e]
theorem part_lt {ps : List (List Int)} (h : Prt sg a ps) {i : Nat} (hi : i < ps.length) : (ps.getD i []).length < a.length := by
 obtain ⟨⟨x, -, -, e, -⟩, -⟩ := h
 rw [e, List.length_cons, List.getD, List.getElem?_eq_getElem hi, Option.getD_some]
 have h2 : (ps[i]).length ≤ ps.flatten.length := (List.sublist_flatten_of_mem (List.getElem_mem hi)).length_le
 omega
theorem part_fo {ps : List (List Int)} (h : Prt sg a ps) {i : Nat} (hi : i < ps.length) : Fo sg 1 (ps.getD i []) := by
 rw [List.getD, List.getElem?_eq_getElem hi, Option.getD_some]
 exact h.2 _ (List.getElem_mem hi)
end parMath
end
section
open Go.Lib (hid)
namespace parRoot
open Go.RowKit base ints sig term termOk marks app sym sub segs kinds same shifted shape kindsR kindsW varsOf ruleMath ruleSpec ruleImpl stepMath walkMath stepSpec stepImpl walkImpl parMath
set_option maxHeartbeats 4000000 in
theorem l12Root (a v u : Value) (U' : Option Addr) (m' c' : Nat) (d : Dat sSystem) (t y : List Int) (w : World) (h : Rd w w.heap.size sSystem [a, v] d) (ht : Rd w w.heap.size sI [u] t) (hU : Seg w w.heap.size U' m' y) (hz : sz sSystem d ≤ 1048576) (hz' : sz sI t ≤ 1048576) (hm' : m' ≤ 1048576) :
  Calls Tryz.prog 60 #[.agg #[a, v], u, .slice U' m' c'] w (AnsB w (rootB d.1 d.2 t y d.2.length)) := by
 have h0 := h
 obtain ⟨A, n, cs, V, q, cv, rfl, rfl, hs, hc, hcv, hq, hn, hq1, hrs, hsg, hE⟩ := rd_sys h hz
 obtain ⟨W, hW, rA, bel⟩ := box1 w 33 #[.slice A n cs, .slice V q cv]
 have LST := hid (fun (w1 : World) (bb : Below w.heap.size w w1) (r : Int) => specStepAt0 _ _ u d t 0 r w1 (h0.next bb) (ht.next bb) hz hz')
 have HU := hid hU
 have HQ := hid hq
 have HW := hid hW
 have S0 := hid (show Row W w.heap.size 33 #[.slice A n cs, .slice V q cv] ∧ Below w.heap.size w W from ⟨rA, bel⟩)
 have hq' : q ≤ 1048576 := hq1
 clear h h0 hs hc hcv hq hn hrs hsg hE hz hz' ht hU rA bel hW hq1
 rw [HQ.out]
 go_enter Tryz.func60, Tryz.ntmps60
 go_wp2_with fail
 rw [← HW.out]
 clear HW
 go_loopg [7] q (fun g r wr => ∃ k : Nat, r = .int .i64 k ∧ k + g = q ∧ rootB d.1 d.2 t y k = false ∧ Row wr w.heap.size 33 #[.slice A n cs, .slice V q cv] ∧ Below w.heap.size w wr)
 case atStart => exact ⟨0, rfl, by omega, rfl, S0.out.1, S0.out.2⟩
 case round =>
  clear S0
  obtain ⟨k, rfl, hkg, hno, rS, bS⟩ := hrel
  have K0 : wr.cell? ⟨w.heap.size, 0, none⟩ = some (.slice A n cs) := rS.cell 0
  have K1 : wr.cell? ⟨w.heap.size, 1, none⟩ = some (.slice V q cv) := rS.cell 1
  have HK := hid hkg
  have HN := hid hno
  have i0 : (0 : Int) ≤ (k : Int) := by omega
  clear hkg hno
  by_cases hkq : k < q
  ·have i1 : (k : Int) < (q : Int) := by omega
   have LS := hid (LST.out wr bS (k : Int))
   obtain ⟨o, ho⟩ : ∃ o, stepAtO d.1 d.2 t 0 (k : Int) = o := ⟨_, rfl⟩
   rw [ho] at LS
   have HO := hid ho
   have HL := hid (show ∀ z, o = some z → z.length ≤ 60 from fun z hz => by subst hz; exact step_len (stepAt_parts ho).2)
   clear ho
   cases o with
   | none =>
    go_wp2_with fail
    refine LS.out.mono ?_
    rintro e w2 ⟨X, xn, xc, he, oX, bb⟩
    have he : e = .returned (.tuple #[.slice X xn xc, .bool false]) := he
    subst he
    have F := hid (show rootB d.1 d.2 t y (k + 1) = false ∧ Row w2 w.heap.size 33 #[.slice A n cs, .slice V q cv] ∧ Below w.heap.size w w2 from ⟨by rw [root_next, HN.out, HO.out]; rfl, rS.next bb, next_trans bS bb⟩)
    clear rS bS oX bb LS K0 K1
    go_wp2
    go_roundg (gk - 1)
    case measure => have := HK.out; omega
    case rel => exact ⟨k + 1, by simp, by have := HK.out; omega, F.out⟩
   | some x =>
    go_wp2_with fail
    refine LS.out.mono ?_
    rintro e w2 ⟨X, xn, xc, he, oX, bb⟩
    have he : e = .returned (.tuple #[.slice X xn xc, .bool true]) := he
    subst he
    have hX : Own w2 wr.heap.size (.slice X xn xc) x := oX
    have hxn : xn ≤ 1048576 := by have := HL.out x rfl; have := Own.len hX; omega
    have b2 := next_trans bS bb
    have r2 := rS.next bb
    have LE := hid (specSame X U' xn m' xc c' x y w2 (Own.seg hX) ((HU.out.below b2).more b2.size) hxn hm')
    clear rS bS oX hX bb LS K0 K1
    go_wp2_with fail
    refine LE.out.mono ?_
    rintro e w3 ⟨rfl, dd, rfl⟩
    have b3 := below_drewN b2 dd
    have r3 := r2.drewN dd
    clear b2 r2 LE
    by_cases hxy : x = y
    ·have F := hid (show AnsB w (rootB d.1 d.2 t y q) (.returned (.bool true)) (w2.drewN dd) from ⟨by rw [root_in (r := k) (by rw [HO.out, hxy]) hkq], b3⟩)
     rw [decide_eq_true hxy]
     clear b3 r3
     go_wp2
     go_ret
     exact F.out
    ·have F := hid (show rootB d.1 d.2 t y (k + 1) = false ∧ Row (w2.drewN dd) w.heap.size 33 #[.slice A n cs, .slice V q cv] ∧ Below w.heap.size w (w2.drewN dd) from ⟨by rw [root_next, HN.out, HO.out]; simp [hxy], r3, b3⟩)
     rw [decide_eq_false hxy]
     clear b3 r3
     go_wp2
     go_roundg (gk - 1)
     case measure => have := HK.out; omega
     case rel => exact ⟨k + 1, by simp, by have := HK.out; omega, F.out⟩
  ·have i1 : ¬ (k : Int) < (q : Int) := by omega
   have F := hid (show AnsB w (rootB d.1 d.2 t y q) (.returned (.bool false)) wr from ⟨by rw [show q = k by have := HK.out; omega, HN.out], bS⟩)
   clear rS bS K0
   go_wp2
   go_ret
   exact F.out
set_option maxHeartbeats 4000000 in
theorem leadsOnTop (a v u : Value) (U' : Option Addr) (m' c' : Nat) (d : Dat sSystem) (t y : List Int) (w : World) (h : Rd w w.heap.size sSystem [a, v] d) (ht : Rd w w.heap.size sI [u] t) (hU : Seg w w.heap.size U' m' y) (hz : sz sSystem d ≤ 1048576) (hz' : sz sI t ≤ 1048576) (hm' : m' ≤ 1048576) (oks : sysOkB d.1 d.2 = true) :
  Calls Tryz.prog 90 #[.agg #[a, v], u, .slice U' m' c'] w (AnsB w (rootB d.1 d.2 t y d.2.length)) := by
 have h0 := h
 obtain ⟨A, n, cs, V, q, cv, rfl, rfl, hs, hc, hcv, hq, hn, hq1, hrs, hsg, hE⟩ := rd_sys h hz
 obtain ⟨W, hW, rA, bel⟩ := box1 w 76 #[.slice A n cs, .slice V q cv]
 have LST := hid (fun (w1 : World) (bb : Below w.heap.size w w1) (r : Int) => leads _ _ u U' m' c' d t y 0 r w1 (h0.next bb) (ht.next bb) ((hU.below bb).more bb.size) hz hz' hm' oks)
 have HQ := hid hq
 have HW := hid hW
 have S0 := hid (show Row W w.heap.size 76 #[.slice A n cs, .slice V q cv] ∧ Below w.heap.size w W from ⟨rA, bel⟩)
 have hq' : q ≤ 1048576 := hq1
 have K1 : (w.alloc (.cells #[.slice A n cs, .slice V q cv] 76)).cell? ⟨w.heap.size, 1, none⟩ = some (.slice V q cv) := (Row.new w _ _).cell 1
 clear h h0 hs hc hcv hq hn hrs hsg hE hz hz' ht hU rA bel hW hq1 oks
 rw [HQ.out]
 go_enter Tryz.func90, Tryz.ntmps90
 go_wp2_with fail
 rw [← HW.out]
 clear HW K1
 go_loopg [11] q (fun g r wr => ∃ k : Nat, r = .int .i64 k ∧ k + g = q ∧ rootB d.1 d.2 t y k = false ∧ Row wr w.heap.size 76 #[.slice A n cs, .slice V q cv] ∧ Below w.heap.size w wr)
 case atStart => exact ⟨0, rfl, by omega, rfl, S0.out.1, S0.out.2⟩
 case round =>
  clear S0
  obtain ⟨k, rfl, hkg, hno, rS, bS⟩ := hrel
  have K0 : wr.cell? ⟨w.heap.size, 0, none⟩ = some (.slice A n cs) := rS.cell 0
  have K1 : wr.cell? ⟨w.heap.size, 1, none⟩ = some (.slice V q cv) := rS.cell 1
  have HK := hid hkg
  have HN := hid hno
  have i0 : (0 : Int) ≤ (k : Int) := by omega
  clear hkg hno
  by_cases hkq : k < q
  ·have i1 : (k : Int) < (q : Int) := by omega
   have LS := hid (LST.out wr bS (k : Int))
   go_wp2_with fail
   refine LS.out.mono ?_
   rintro e w2 ⟨rfl, bb⟩
   have b2 := next_trans bS bb
   have r2 := rS.next bb
   clear rS bS bb LS K0 K1
   by_cases hxy : stepAtO d.1 d.2 t 0 (k : Int) = some y
   ·have F := hid (show AnsB w (rootB d.1 d.2 t y q) (.returned (.bool true)) w2 from ⟨by rw [root_in (r := k) hxy hkq], b2⟩)
    rw [decide_eq_true hxy]
    clear b2 r2
    go_wp2
    go_ret
    exact F.out
   ·have F := hid (show rootB d.1 d.2 t y (k + 1) = false ∧ Row w2 w.heap.size 76 #[.slice A n cs, .slice V q cv] ∧ Below w.heap.size w w2 from ⟨by rw [root_next, HN.out]; simp [hxy], r2, b2⟩)
    rw [decide_eq_false hxy]
    clear b2 r2
    go_wp2
    go_roundg (gk - 1)
    case measure => have := HK.out; omega
    case rel => exact ⟨k + 1, by simp, by have := HK.out; omega, F.out⟩
  ·have i1 : ¬ (k : Int) < (q : Int) := by omega
   have F := hid (show AnsB w (rootB d.1 d.2 t y q) (.returned (.bool false)) wr from ⟨by rw [show q = k by have := HK.out; omega, HN.out], bS⟩)
   clear rS bS K0 K1
   go_wp2
   go_ret
   exact F.out
end parRoot
end
section
open Go.Lib (hid)
namespace parSpec
open Go.RowKit base ints sig term termOk marks app sym sub segs kinds same shifted shape kindsR varsOf ruleMath ruleSpec stepMath walkMath stepSpec drawX forest stk partsSpec parMath parRoot
set_option maxRecDepth 100000
theorem stk_at {w : World} {Q : Nat → Prop} {lo g n c : Nat} {D : List (List Int)} (h : Stk w Q lo (some ⟨g, 0, none⟩) n c D) {j : Nat} (hj : j < n) : ∃ X xn xc, w.cell? ⟨g, j, none⟩ = some (.slice X xn xc) ∧ RdQ w Q sI [.slice X xn xc] (D.getD j []) := by
 rcases h.form with ⟨e, -⟩ | ⟨g', cur, e, hg, hr, hnc, hs, hc, hj'⟩
 ·cases e
 ·injection e with e
  injection e with e1
  subst e1
  obtain ⟨X, xn, xc, h1, h2⟩ := hj' j hj
  exact ⟨X, xn, xc, (hr.cell j).trans h1, h2⟩
theorem rdq_len {w : World} {Q : Nat → Prop} {A : Option Addr} {n c : Nat} {t : List Int} (h : RdQ w Q sI [.slice A n c] t) : t.length = n := by
 obtain ⟨A', n', c', e, hc, hl, -⟩ := h
 injection e with e
 injection e with e1 e2 e3
 rw [e2]
 exact hl
theorem fo_pos {sg t : List Int} (h : Fo sg 1 t) : 1 ≤ t.length := Fo.pos (q := 0) h
structure PS (w : World) (Q : Nat → Prop) (A V : Option Addr) (n cs q cv g1 g2 k c1 c2 : Nat) (ps qs : List (List Int)) (wr : World) : Prop where
 r : Row wr w.heap.size 33 #[.slice A n cs, .slice V q cv]
 p : Stk wr Q w.heap.size (some ⟨g1, 0, none⟩) k c1 ps
 q : Stk wr Q w.heap.size (some ⟨g2, 0, none⟩) k c2 qs
 b : Below w.heap.size w wr
theorem PS.next {w wr w' : World} {Q : Nat → Prop} {A V : Option Addr} {n cs q cv g1 g2 k c1 c2 : Nat} {ps qs : List (List Int)} (h : PS w Q A V n cs q cv g1 g2 k c1 c2 ps qs wr) (hQ : ∀ b, Q b → b < w.heap.size) (hb : Below wr.heap.size wr w') : PS w Q A V n cs q cv g1 g2 k c1 c2 ps qs w' :=
 have hQ' : ∀ b, Q b → b < wr.heap.size := fun b h1 => Nat.lt_of_lt_of_le (hQ b h1) h.b.size
 ⟨h.r.next hb, h.p.next hb hQ', h.q.next hb hQ', next_trans h.b hb⟩
set_option maxHeartbeats 4000000 in
theorem l12Parallel (a v : Value) (d : Dat sSystem) (Q : Nat → Prop) (hz : sz sSystem d ≤ 1048576) (oks : sysOkB d.1 d.2 = true) (hs : Arities d.1) : ∀ (f : Nat) (T U : Option Addr) (m k mc kc : Nat) (t y : List Int) (w : World), t.length < f → Rd w w.heap.size sSystem [a, v] d → RdQ w Q sI [.slice T m mc] t → RdQ w Q sI [.slice U k kc] y → (∀ b, Q b → b < w.heap.size) → m ≤ 1048576 → k ≤ 1048576 → Fo d.1 1 t → Fo d.1 1 y →
  Calls Tryz.prog 37 #[.agg #[a, v], .slice T m mc, .slice U k kc] w (AnsB w (parB d.1 d.2 t y))
 | 0, _, _, _, _, _, _, _, _, _, hf, _, _, _, _, _, _, _, _ => absurd hf (Nat.not_lt_zero _)
 | f + 1, T, U, m, k, mc, kc, t, y, w, hf, h, ht, hy, hQ, hm, hk, ft, fy => by
  have IH := hid (fun (w1 : World) (bb : Below w.heap.size w w1) (T' U' : Option Addr) (m' k' mc' kc' : Nat) (t' y' : List Int) hf' h1 h2 hm' hk' f1 f2 => l12Parallel a v d Q hz oks hs f T' U' m' k' mc' kc' t' y' w1 hf' (h.next bb) h1 h2 (fun b hb => Nat.lt_of_lt_of_le (hQ b hb) bb.size) hm' hk' f1 f2)
  obtain ⟨A, n, cs, V, q, cv, rfl, rfl, hsg, hc, hcv, hq, hn, hq1, hrs, hsgr, hE⟩ := rd_sys h hz
  obtain ⟨W, hW, rA, bel⟩ := box1 w 33 #[.slice A n cs, .slice V q cv]
  have htl := rdq_len ht
  have hyl := rdq_len hy
  have hm1 : 0 < m := by have := fo_pos ft; omega
  have hk1 : 0 < k := by have := fo_pos fy; omega
  have hQW : ∀ b, Q b → b < W.heap.size := fun b hb => Nat.lt_of_lt_of_le (hQ b hb) bel.size
  have tW : RdQ W Q sI [.slice T m mc] t := ht.keep (Keep.below bel hQ)
  have yW : RdQ W Q sI [.slice U k kc] y := hy.keep (Keep.below bel hQ)
  have sT : Seg W W.heap.size T m t := shape.Rd.seg (tW.rd hQW)
  have sU : Seg W W.heap.size U k y := shape.Rd.seg (yW.rd hQW)
  obtain ⟨b1, o1, rfl, hb1, hx⟩ := sT.round hm1
  obtain ⟨b2, o2, rfl, hb2, hxy⟩ := sU.round hk1
  obtain ⟨x, ex⟩ : ∃ x, t.getD 0 0 = x := ⟨_, rfl⟩
  obtain ⟨z, ez⟩ : ∃ z, y.getD 0 0 = z := ⟨_, rfl⟩
  rw [ex] at hx
  rw [ez] at hxy
  have LE := hid (specSame _ _ m k mc kc t y W sT sU hm hk)
  have LR := hid (fun dd => l12Root (.slice A n cs) (.slice V q cv) (.slice (some ⟨b1, o1, none⟩) m mc) (some ⟨b2, o2, none⟩) k kc d t y (W.drewN dd) (h.next (below_drewN bel dd)) (ht.rd hQ |>.next (below_drewN bel dd)) (sU.drewN dd) hz (by rw [sz_ints]; omega) hk)
  have LP := hid (fun (w1 : World) (bb : Below w.heap.size w w1) (T' : Option Addr) (m' mc' : Nat) (t' : List Int) h1 h2 h3 h4 => l13Parts Q A T' n cs m' mc' d.1 t' w1 ((hsg.below bb).more bb.size) h1 (fun b hb => Nat.lt_of_lt_of_le (hQ b hb) bb.size) hn h2 hs h3 h4)
  have HT := hid ht
  have HY := hid hy
  have HQ := hid hQ
  have HW := hid hW
  have HFT := hid ft
  have HFY := hid fy
  have HX := hid ex
  have HZ := hid ez
  have HSG := hid hs
  have HF := hid hf
  have HTL := hid htl
  have HYL := hid hyl
  have K0 : (w.alloc (.cells #[.slice A n cs, .slice V q cv] 33)).cell? ⟨w.heap.size, 0, none⟩ = some (.slice A n cs) := (Row.new w _ _).cell 0
  have K1 : (w.alloc (.cells #[.slice A n cs, .slice V q cv] 33)).cell? ⟨w.heap.size, 1, none⟩ = some (.slice V q cv) := (Row.new w _ _).cell 1
  clear h hsg hc hcv hq hrs hsgr hE hz oks ht hy hQ hQW tW yW sT sU ft fy ex ez hs hf htl hyl hW
  go_enter Tryz.func37, Tryz.ntmps37
  go_wp2_with fail
  rw [← HW.out]
  clear K0 K1
  refine LE.out.mono ?_
  rintro e w2 ⟨rfl, dd, rfl⟩
  have r2 := rA.drewN dd
  have bel2 := below_drewN bel dd
  have hx2 : (W.drewN dd).cell? ⟨b1, o1 + 0, none⟩ = some (.int .i64 x) := hx
  have hz2 : (W.drewN dd).cell? ⟨b2, o2 + 0, none⟩ = some (.int .i64 z) := hxy
  have K0 : (W.drewN dd).cell? ⟨w.heap.size, 0, none⟩ = some (.slice A n cs) := r2.cell 0
  have K1 : (W.drewN dd).cell? ⟨w.heap.size, 1, none⟩ = some (.slice V q cv) := r2.cell 1
  have L2 := hid (LR.out dd)
  have hs2 : b1 < (W.drewN dd).heap.size := hb1
  have hs3 : b2 < (W.drewN dd).heap.size := hb2
  generalize hw2 : W.drewN dd = w2 at *
  clear LE LR rA bel hx hxy hw2 HW hb1 hb2
  by_cases hty : t = y
  ·have F := hid (show AnsB w (parB d.1 d.2 t y) (.returned (.bool true)) w2 from ⟨by rw [par_same hty], bel2⟩)
   rw [decide_eq_true hty]
   clear r2 bel2
   go_wp2
   go_ret
   exact F.out
  ·have HNE := hid hty
   rw [decide_eq_false hty]
   clear hty
   go_wp2_with fail
   refine L2.out.mono ?_
   rintro e w3 ⟨rfl, bb⟩
   have r3 := r2.next bb
   have bel3 := next_trans bel2 bb
   have hx3 : w3.cell? ⟨b1, o1, none⟩ = some (.int .i64 x) := (bb.cell (p := ⟨b1, o1 + 0, none⟩) hs2).trans hx2
   have hz3 : w3.cell? ⟨b2, o2, none⟩ = some (.int .i64 z) := (bb.cell (p := ⟨b2, o2 + 0, none⟩) hs3).trans hz2
   have K0 : w3.cell? ⟨w.heap.size, 0, none⟩ = some (.slice A n cs) := r3.cell 0
   have K1 : w3.cell? ⟨w.heap.size, 1, none⟩ = some (.slice V q cv) := r3.cell 1
   clear r2 bel2 hx2 hz2 bb hs2 hs3 L2
   cases hroot : rootB d.1 d.2 t y d.2.length with
   | true =>
    have F := hid (show AnsB w (parB d.1 d.2 t y) (.returned (.bool true)) w3 from ⟨by rw [par_root hroot], bel3⟩)
    clear r3 bel3
    go_wp2
    go_ret
    exact F.out
   | false =>
    have HR := hid hroot
    clear hroot
    have j1 : (0 : Int) < (m : Int) := by omega
    have j2 : (0 : Int) < (k : Int) := by omega
    by_cases hxz : x = z
    ·subst hxz
     have e0 : (x != x) = false := by simp
     by_cases hx0 : x < 0
     ·have e1 : decide (x < 0) = true := decide_eq_true hx0
      have F := hid (fun n' => show AnsB w (parB d.1 d.2 t y) (.returned (.bool false)) (w3.drewN n') from ⟨by rw [par_neg HNE.out HR.out (by rw [HX.out]; exact hx0)], below_drewN bel3 n'⟩)
      clear r3 bel3
      go_wp2_with fail
      go_quiet (fail)
      go_wp2
      go_ret
      exact F.out _
     ·have e1 : decide (x < 0) = false := decide_eq_false hx0
      have hpz : 0 ≤ t.getD 0 0 := by rw [HX.out]; exact Int.not_lt.1 hx0
      have hqz : 0 ≤ y.getD 0 0 := by rw [HZ.out]; exact Int.not_lt.1 hx0
      have LA := hid (fun n' => LP.out (w3.drewN n') (below_drewN bel3 n') (some ⟨b1, o1, none⟩) m mc t (HT.out.keep (Keep.below (below_drewN bel3 n') HQ.out)) hm HFT.out hpz)
      have HS3 := hid (fun n' => (⟨r3.drewN n', below_drewN bel3 n'⟩ : Row (w3.drewN n') w.heap.size 33 #[.slice A n cs, .slice V q cv] ∧ Below w.heap.size w (w3.drewN n')))
      clear r3 bel3
      go_wp2_with fail
      go_quiet (fail)
      go_wp2_with fail
      refine (LA.out _).mono ?_
      rintro e w4 ⟨g1, pk, c1, ps, rfl, oP, hP, bb⟩
      obtain ⟨r3, bel3⟩ := HS3.out _
      have r4 := r3.next bb
      have bel4 := next_trans bel3 bb
      have oP4 := oP.lower bel3.size
      have LB := hid (LP.out w4 bel4 (some ⟨b2, o2, none⟩) k kc y (HY.out.keep (Keep.below bel4 HQ.out)) hk HFY.out hqz)
      have K0 : w4.cell? ⟨w.heap.size, 0, none⟩ = some (.slice A n cs) := r4.cell 0
      clear r3 bel3 bb LA HS3 oP hx3 hz3 K1 e0 e1 hx0 hpz hqz
      go_wp2_with fail
      refine LB.out.mono ?_
      rintro e w5 ⟨g2, qk, c2, qs, rfl, oQ, hQs, bb⟩
      have oQ5 := oQ.lower bel4.size
      have hl := prt_len2 hP hQs (by rw [HX.out, HZ.out])
      have hpk : pk = qk := by rw [← oQ5.1, ← oP4.1, hl]
      subst hpk
      have hpl : ps.length = pk := oP4.1
      have hpm : pk ≤ 1048576 := by have h1 := hP.len; have h2 := flat_le (ps := ps) fun p hp => fo_pos (hP.2 p hp); have h3 := HTL.out; obtain ⟨⟨x', -, -, e, -⟩, -⟩ := hP; rw [e, List.length_cons] at h3; omega
      have S5 := hid (show PS w Q A V n cs q cv g1 g2 pk c1 c2 ps qs w5 from ⟨r4.next bb, oP4.next bb (fun b hb => Nat.lt_of_lt_of_le (HQ.out b hb) bel4.size), oQ5, next_trans bel4 bb⟩)
      have HPP := hid hP
      have HQQ := hid hQs
      have HPL := hid hpl
      clear r4 bel4 bb oP4 oQ oQ5 hl hP hQs K0 LB hpl
      go_wp2_with fail
      go_loopg [9] pk (fun g i wr => ∃ j : Nat, i = .int .i64 j ∧ j + g = pk ∧ (∀ i, i < j → parB d.1 d.2 (ps.getD i []) (qs.getD i []) = true) ∧ PS w Q A V n cs q cv g1 g2 pk c1 c2 ps qs wr)
      case atStart => exact ⟨0, rfl, by omega, fun i hi => absurd hi (Nat.not_lt_zero i), S5.out⟩
      case round =>
       clear S5
       obtain ⟨j, rfl, hjg, hyes, S⟩ := hrel
       have HJ := hid hjg
       have HY2 := hid hyes
       clear hjg hyes
       have i0 : (0 : Int) ≤ (j : Int) := by omega
       by_cases hj : j < pk
       ·have i1 : (j : Int) < (pk : Int) := by omega
        obtain ⟨X, xn, xc, cx, hX⟩ := stk_at S.p hj
        obtain ⟨Y, yn, yc, cy, hY⟩ := stk_at S.q hj
        have hjl : j < ps.length := by rw [HPL.out]; exact hj
        have hjl2 : j < qs.length := by have := S.q.1; omega
        have hxl := rdq_len hX
        have hyl := rdq_len hY
        have hlt := part_lt HPP.out hjl
        have hlt2 := part_lt HQQ.out hjl2
        have hxn : xn ≤ 1048576 := by have := HTL.out; omega
        have hyn : yn ≤ 1048576 := by have := HYL.out; omega
        have K0 : wr.cell? ⟨w.heap.size, 0, none⟩ = some (.slice A n cs) := S.r.cell 0
        have K1 : wr.cell? ⟨w.heap.size, 1, none⟩ = some (.slice V q cv) := S.r.cell 1
        have LI := hid (fun dd => IH.out (wr.drewN dd) (below_drewN S.b dd) X Y xn yn xc yc (ps.getD j []) (qs.getD j []) (by have := HF.out; omega) (hX.keep fun _ _ => rfl) (hY.keep fun _ _ => rfl) hxn hyn (part_fo HPP.out hjl) (part_fo HQQ.out hjl2))
        have HS := hid (fun dd => (⟨S.r.drewN dd, S.p.drewN dd, S.q.drewN dd, below_drewN S.b dd⟩ : PS w Q A V n cs q cv g1 g2 pk c1 c2 ps qs (wr.drewN dd)))
        have zG1 : ∀ dd, g1 < (wr.drewN dd).heap.size := fun dd => (S.p.ge g1 rfl).2
        have zG2 : ∀ dd, g2 < (wr.drewN dd).heap.size := fun dd => (S.q.ge g2 rfl).2
        clear hX hY hxl hyl hlt hlt2 S
        obtain ⟨bo, hbo⟩ : ∃ bo, parB d.1 d.2 (ps.getD j []) (qs.getD j []) = bo := ⟨_, rfl⟩
        rw [hbo] at LI
        have HB := hid hbo
        clear hbo
        go_wp2_with fail
        go_region_held3 (fun w' => w'.cell? ⟨w.heap.size, 0, none⟩ = some (.slice A n cs) ∧ w'.cell? ⟨w.heap.size, 1, none⟩ = some (.slice V q cv) ∧ w'.cell? ⟨g1, j, none⟩ = some (.slice X xn xc) ∧ w'.cell? ⟨g2, j, none⟩ = some (.slice Y yn yc))
         (go_keep)
         (first
          | (go_at_call 37; refine (LI.out _).mono ?_; rintro e w6 ⟨rfl, bb⟩; have S6 := (HS.out _).next HQ.out bb; have k0 : w6.cell? ⟨w.heap.size, 0, none⟩ = some (.slice A n cs) := S6.r.cell 0; have k1 : w6.cell? ⟨w.heap.size, 1, none⟩ = some (.slice V q cv) := S6.r.cell 1; have k2 : w6.cell? ⟨g1, j, none⟩ = some (.slice X xn xc) := (bb.cell (p := ⟨g1, j, none⟩) (zG1 _)).trans cx; have k3 : w6.cell? ⟨g2, j, none⟩ = some (.slice Y yn yc) := (bb.cell (p := ⟨g2, j, none⟩) (zG2 _)).trans cy; clear HS LI))
        clear k0 k1 k2 k3 cx cy K0 K1 bb zG1 zG2
        have HS6 := hid S6
        clear S6
        cases bo with
        | true =>
         have HN := hid (show ∀ i, i < j + 1 → parB d.1 d.2 (ps.getD i []) (qs.getD i []) = true from fun i hi => by
          rcases Nat.lt_succ_iff_lt_or_eq.1 hi with h1 | h1
          ·exact HY2.out i h1
          ·rw [h1]; exact HB.out)
         go_wp2
         go_roundg (gk - 1)
         case measure => have := HJ.out; omega
         case rel => exact ⟨j + 1, by simp, by have := HJ.out; omega, HN.out, HS6.out⟩
        | false =>
         have F := hid (show AnsB w (parB d.1 d.2 t y) (.returned (.bool false)) w6 from ⟨by rw [par_miss HNE.out HR.out HPP.out HQQ.out hjl HB.out], HS6.out.b⟩)
         clear HS6
         go_wp2
         go_ret
         exact F.out
       ·have i1 : ¬ (j : Int) < (pk : Int) := by omega
        have F := hid (show AnsB w (parB d.1 d.2 t y) (.returned (.bool true)) wr from ⟨by rw [par_all HPP.out HQQ.out (by rw [HX.out, HZ.out]) fun i hi => HY2.out i (by have := HPL.out; have := HJ.out; omega)], S.b⟩)
        clear S
        go_wp2
        go_ret
        exact F.out
    ·have e0 : (x != z) = true := by simp [hxz]
     have F := hid (fun n' => show AnsB w (parB d.1 d.2 t y) (.returned (.bool false)) (w3.drewN n') from ⟨by rw [par_head HNE.out HR.out (by rw [HX.out, HZ.out]; exact hxz)], below_drewN bel3 n'⟩)
     clear r3 bel3
     go_wp2_with fail
     go_quiet (fail)
     go_wp2
     go_ret
     exact F.out _
end parSpec
end
section
open Go.Lib (hid)
namespace parImpl
open Go.RowKit base ints sig term arity termOk marks app sym sub segs kinds same shifted shape kindsR varsOf ruleMath ruleSpec stepMath walkMath stepSpec drawX forest stk partsSpec cursor curO parMath parRoot parSpec
set_option maxRecDepth 100000
def upto (ps : List (List Int)) (j : Nat) : Nat := 1 + (ps.take j).flatten.length
theorem upto_next {ps : List (List Int)} {j : Nat} (hj : j < ps.length) : upto ps (j + 1) = upto ps j + (ps.getD j []).length := by
 unfold upto
 rw [List.take_add_one, List.flatten_append, List.length_append, List.getD, List.getElem?_eq_getElem hj]
 simp
 omega
theorem upto_drop {sg t : List Int} {ps : List (List Int)} (h : Prt sg t ps) {j : Nat} (hj : j < ps.length) : t.drop (upto ps j) = ps.getD j [] ++ (ps.drop (j + 1)).flatten := by
 obtain ⟨⟨x, -, -, e, -⟩, -⟩ := h
 have e1 : ps.flatten = (ps.take j).flatten ++ (ps.drop j).flatten := by rw [← List.flatten_append, List.take_append_drop]
 have e2 : ps.drop j = ps.getD j [] :: ps.drop (j + 1) := by rw [List.drop_eq_getElem_cons hj, List.getD, List.getElem?_eq_getElem hj]; rfl
 rw [e, e1, upto, Nat.add_comm, List.drop_succ_cons, List.drop_left, e2, List.flatten_cons]
theorem upto_cut {sg t : List Int} {ps : List (List Int)} (h : Prt sg t ps) {j : Nat} (hj : j < ps.length) : (t.drop (upto ps j)).take (ps.getD j []).length = ps.getD j [] := by
 rw [upto_drop h hj, List.take_left]
theorem upto_le {sg t : List Int} {ps : List (List Int)} (h : Prt sg t ps) {j : Nat} (hj : j < ps.length) : upto ps j + (ps.getD j []).length ≤ t.length := by
 have h1 := congrArg List.length (upto_drop h hj)
 rw [List.length_drop, List.length_append] at h1
 have h2 := fo_pos (part_fo h hj)
 omega
theorem part_in {sg t : List Int} {ps : List (List Int)} (h : Prt sg t ps) {j : Nat} (hj : j < ps.length) (hv : ∀ x ∈ t, -24 ≤ x) : ∀ x ∈ ps.getD j [], -24 ≤ x := by
 intro x hx
 refine hv x ?_
 have h1 : x ∈ t.drop (upto ps j) := by rw [upto_drop h hj]; exact List.mem_append_left _ hx
 exact List.mem_of_mem_drop h1
theorem upto_scan {sg t : List Int} {ps : List (List Int)} (h : Prt sg t ps) {j : Nat} (hj : j < ps.length) (hv : ∀ x ∈ t, -24 ≤ x) : scan sg 1 (t.drop (upto ps j)) = some (ps.getD j []).length := by
 rw [upto_drop h hj]
 exact Go.Proofs.YtlmofkeemlfpgaaGreat.termMath.scan_append (scan_fo (part_fo h hj) (part_in h hj hv))
theorem rdq_cap {w : World} {Q : Nat → Prop} {A : Option Addr} {n c : Nat} {t : List Int} (h : RdQ w Q sI [.slice A n c] t) : Cap A n c := by
 obtain ⟨A', n', c', e, hc, -⟩ := h
 injection e with e
 injection e with e1 e2 e3
 rw [e1, e2, e3]
 exact hc
structure CC (w : World) (A V T U : Option Addr) (n cs q cv m mc k kc p1 p2 i j : Nat) (wr : World) : Prop where
 r : Row wr w.heap.size 76 #[.slice A n cs, .slice V q cv]
 a : Row wr p1 108 #[.slice A n cs, .slice T m mc, .int .i64 i]
 b : Row wr p2 108 #[.slice A n cs, .slice U k kc, .int .i64 j]
 ne : p1 ≠ p2
 ga : w.heap.size < p1
 gb : w.heap.size < p2
 bel : Below w.heap.size w wr
section
variable {w wr w' : World} {A V T U : Option Addr} {n cs q cv m mc k kc p1 p2 i j i' j' : Nat}
theorem CC.next (h : CC w A V T U n cs q cv m mc k kc p1 p2 i j wr) (hb : Below wr.heap.size wr w') : CC w A V T U n cs q cv m mc k kc p1 p2 i j w' :=
 ⟨h.r.next hb, h.a.next hb, h.b.next hb, h.ne, h.ga, h.gb, next_trans h.bel hb⟩
theorem CC.moveA (h : CC w A V T U n cs q cv m mc k kc p1 p2 i j wr) (hg : wr.grownBy w' (some p1)) (ha : Row w' p1 108 #[.slice A n cs, .slice T m mc, .int .i64 i']) : CC w A V T U n cs q cv m mc k kc p1 p2 i' j w' :=
 ⟨marks.Row.away h.r hg (fun e => by injection e with e; have := h.ga; omega), ha, marks.Row.away h.b hg (fun e => by injection e with e; exact h.ne e), h.ne, h.ga, h.gb, h.bel.grown hg h.bel.size (fun z e => by injection e with e; have := h.ga; omega)⟩
theorem CC.moveB (h : CC w A V T U n cs q cv m mc k kc p1 p2 i j wr) (hg : wr.grownBy w' (some p2)) (hb : Row w' p2 108 #[.slice A n cs, .slice U k kc, .int .i64 j']) : CC w A V T U n cs q cv m mc k kc p1 p2 i j' w' :=
 ⟨marks.Row.away h.r hg (fun e => by injection e with e; have := h.gb; omega), marks.Row.away h.a hg (fun e => by injection e with e; exact h.ne e.symm), hb, h.ne, h.ga, h.gb, h.bel.grown hg h.bel.size (fun z e => by injection e with e; have := h.gb; omega)⟩
theorem CC.curA {sg t : List Int} (h : CC w A V T U n cs q cv m mc k kc p1 p2 i j wr) (hs : Seg w w.heap.size A n sg) (ht : Seg w w.heap.size T m t) (hi : i ≤ m) (hn : n ≤ 1048576) (hm : m ≤ 1048576) (ha : Arities sg) : Cur wr p1 A n cs T m mc sg t i :=
 ⟨h.a, (hs.below h.bel).more (Nat.le_of_lt h.ga), (ht.below h.bel).more (Nat.le_of_lt h.ga), hi, hn, hm, ha⟩
theorem CC.curB {sg t : List Int} (h : CC w A V T U n cs q cv m mc k kc p1 p2 i j wr) (hs : Seg w w.heap.size A n sg) (ht : Seg w w.heap.size U k t) (hj : j ≤ k) (hn : n ≤ 1048576) (hk : k ≤ 1048576) (ha : Arities sg) : Cur wr p2 A n cs U k kc sg t j :=
 ⟨h.b, (hs.below h.bel).more (Nat.le_of_lt h.gb), (ht.below h.bel).more (Nat.le_of_lt h.gb), hj, hn, hk, ha⟩
theorem CC.drewN (h : CC w A V T U n cs q cv m mc k kc p1 p2 i j wr) (dd : Nat) : CC w A V T U n cs q cv m mc k kc p1 p2 i j (wr.drewN dd) :=
 ⟨h.r.drewN dd, h.a.drewN dd, h.b.drewN dd, h.ne, h.ga, h.gb, below_drewN h.bel dd⟩
theorem cc_new (hr : Row wr w.heap.size 76 #[.slice A n cs, .slice V q cv]) (hb : Below w.heap.size w wr) (T U : Option Addr) (m mc k kc : Nat) : CC w A V T U n cs q cv m mc k kc wr.heap.size (wr.heap.size + 1) 0 0 ((wr.alloc (.cells #[.slice A n cs, .slice T m mc, .int .i64 0] 108)).alloc (.cells #[.slice A n cs, .slice U k kc, .int .i64 0] 108)).drew := by
 have h1 := hr.lt
 have h2 := Row.new (wr.alloc (.cells #[.slice A n cs, .slice T m mc, .int .i64 0] 108)) 108 #[.slice A n cs, .slice U k kc, .int .i64 0]
 rw [show (wr.alloc (.cells #[.slice A n cs, .slice T m mc, .int .i64 0] 108)).heap.size = wr.heap.size + 1 by simp] at h2
 exact ⟨((hr.alloc _).alloc _).drew, ((Row.new _ _ _).alloc _).drew, h2.drew, by omega, by omega, by omega, ((hb.alloc (by omega) _).alloc (by simp; omega) _).drew⟩
theorem cc_new' (hr : Row wr w.heap.size 76 #[.slice A n cs, .slice V q cv]) (hb : Below w.heap.size w wr) (T U : Option Addr) (m mc k kc : Nat) : CC w A V T U n cs q cv m mc k kc (wr.heap.size + 1) wr.heap.size 0 0 ((wr.alloc (.cells #[.slice A n cs, .slice U k kc, .int .i64 0] 108)).alloc (.cells #[.slice A n cs, .slice T m mc, .int .i64 0] 108)).drew := by
 have h1 := hr.lt
 have h2 := Row.new (wr.alloc (.cells #[.slice A n cs, .slice U k kc, .int .i64 0] 108)) 108 #[.slice A n cs, .slice T m mc, .int .i64 0]
 rw [show (wr.alloc (.cells #[.slice A n cs, .slice U k kc, .int .i64 0] 108)).heap.size = wr.heap.size + 1 by simp] at h2
 exact ⟨((hr.alloc _).alloc _).drew, h2.drew, ((Row.new _ _ _).alloc _).drew, by omega, by omega, by omega, ((hb.alloc (by omega) _).alloc (by simp; omega) _).drew⟩
end
set_option maxHeartbeats 4000000 in
theorem parallel (a v : Value) (d : Dat sSystem) (Q : Nat → Prop) (hz : sz sSystem d ≤ 1048576) (oks : sysOkB d.1 d.2 = true) (hs : Arities d.1) : ∀ (f : Nat) (T U : Option Addr) (m k mc kc : Nat) (t y : List Int) (w : World), t.length < f → Rd w w.heap.size sSystem [a, v] d → RdQ w Q sI [.slice T m mc] t → RdQ w Q sI [.slice U k kc] y → (∀ b, Q b → b < w.heap.size) → m ≤ 1048576 → k ≤ 1048576 → Fo d.1 1 t → Fo d.1 1 y → (∀ x ∈ t, -24 ≤ x) → (∀ x ∈ y, -24 ≤ x) →
  Calls Tryz.prog 64 #[.agg #[a, v], .slice T m mc, .slice U k kc] w (AnsB w (parB d.1 d.2 t y))
 | 0, _, _, _, _, _, _, _, _, _, hf, _, _, _, _, _, _, _, _, _, _ => absurd hf (Nat.not_lt_zero _)
 | f + 1, T, U, m, k, mc, kc, t, y, w, hf, h, ht, hy, hQ, hm, hk, ft, fy, vt, vy => by
  have IH := hid (fun (w1 : World) (bb : Below w.heap.size w w1) (T' U' : Option Addr) (m' k' mc' kc' : Nat) (t' y' : List Int) hf' h1 h2 hm' hk' f1 f2 v1 v2 => parallel a v d Q hz oks hs f T' U' m' k' mc' kc' t' y' w1 hf' (h.next bb) h1 h2 (fun b hb => Nat.lt_of_lt_of_le (hQ b hb) bb.size) hm' hk' f1 f2 v1 v2)
  obtain ⟨A, n, cs, V, q, cv, rfl, rfl, hsg, hc, hcv, hq, hn, hq1, hrs, hsgr, hE⟩ := rd_sys h hz
  obtain ⟨W, hW, rA, bel⟩ := box1 w 76 #[.slice A n cs, .slice V q cv]
  have htl := rdq_len ht
  have hyl := rdq_len hy
  have hm1 : 0 < m := by have := fo_pos ft; omega
  have hk1 : 0 < k := by have := fo_pos fy; omega
  have hQW : ∀ b, Q b → b < W.heap.size := fun b hb => Nat.lt_of_lt_of_le (hQ b hb) bel.size
  have tW : RdQ W Q sI [.slice T m mc] t := ht.keep (Keep.below bel hQ)
  have yW : RdQ W Q sI [.slice U k kc] y := hy.keep (Keep.below bel hQ)
  have sT : Seg W W.heap.size T m t := shape.Rd.seg (tW.rd hQW)
  have sU : Seg W W.heap.size U k y := shape.Rd.seg (yW.rd hQW)
  obtain ⟨b1, o1, rfl, hb1, hx⟩ := sT.round hm1
  obtain ⟨b2, o2, rfl, hb2, hxy⟩ := sU.round hk1
  obtain ⟨x, ex⟩ : ∃ x, t.getD 0 0 = x := ⟨_, rfl⟩
  obtain ⟨z, ez⟩ : ∃ z, y.getD 0 0 = z := ⟨_, rfl⟩
  rw [ex] at hx
  rw [ez] at hxy
  have LE := hid (implSame _ _ m k mc kc t y W sT sU hm hk)
  have LR := hid (fun dd => leadsOnTop (.slice A n cs) (.slice V q cv) (.slice (some ⟨b1, o1, none⟩) m mc) (some ⟨b2, o2, none⟩) k kc d t y (W.drewN dd) (h.next (below_drewN bel dd)) (ht.rd hQ |>.next (below_drewN bel dd)) (sU.drewN dd) hz (by rw [sz_ints]; omega) hk oks)
  have HT := hid ht
  have HY := hid hy
  have HQ := hid hQ
  have HW := hid hW
  have HFT := hid ft
  have HFY := hid fy
  have HX := hid ex
  have HZ := hid ez
  have HS := hid hs
  have HSG := hid hsg
  have HVT := hid vt
  have HVY := hid vy
  have HF := hid hf
  have HTL := hid htl
  have HYL := hid hyl
  have K0 : (w.alloc (.cells #[.slice A n cs, .slice V q cv] 76)).cell? ⟨w.heap.size, 0, none⟩ = some (.slice A n cs) := (Row.new w _ _).cell 0
  have K1 : (w.alloc (.cells #[.slice A n cs, .slice V q cv] 76)).cell? ⟨w.heap.size, 1, none⟩ = some (.slice V q cv) := (Row.new w _ _).cell 1
  clear h hsg hc hcv hq hrs hsgr hE hz oks ht hy hQ hQW tW yW sT sU ft fy ex ez hs hf htl hyl hW vt vy
  go_enter Tryz.func64, Tryz.ntmps64
  go_wp2_with fail
  rw [← HW.out]
  clear K0 K1
  refine LE.out.mono ?_
  rintro e w2 ⟨rfl, dd, rfl⟩
  have r2 := rA.drewN dd
  have bel2 := below_drewN bel dd
  have hx2 : (W.drewN dd).cell? ⟨b1, o1 + 0, none⟩ = some (.int .i64 x) := hx
  have hz2 : (W.drewN dd).cell? ⟨b2, o2 + 0, none⟩ = some (.int .i64 z) := hxy
  have K0 : (W.drewN dd).cell? ⟨w.heap.size, 0, none⟩ = some (.slice A n cs) := r2.cell 0
  have K1 : (W.drewN dd).cell? ⟨w.heap.size, 1, none⟩ = some (.slice V q cv) := r2.cell 1
  have L2 := hid (LR.out dd)
  have hs2 : b1 < (W.drewN dd).heap.size := hb1
  have hs3 : b2 < (W.drewN dd).heap.size := hb2
  generalize hw2 : W.drewN dd = w2 at *
  clear LE LR rA bel hx hxy hw2 HW hb1 hb2
  by_cases hty : t = y
  ·have F := hid (show AnsB w (parB d.1 d.2 t y) (.returned (.bool true)) w2 from ⟨by rw [par_same hty], bel2⟩)
   rw [decide_eq_true hty]
   clear r2 bel2
   go_wp2
   go_ret
   exact F.out
  ·have HNE := hid hty
   rw [decide_eq_false hty]
   clear hty
   go_wp2_with fail
   refine L2.out.mono ?_
   rintro e w3 ⟨rfl, bb⟩
   have r3 := r2.next bb
   have bel3 := next_trans bel2 bb
   have hx3 : w3.cell? ⟨b1, o1, none⟩ = some (.int .i64 x) := (bb.cell (p := ⟨b1, o1 + 0, none⟩) hs2).trans hx2
   have hz3 : w3.cell? ⟨b2, o2, none⟩ = some (.int .i64 z) := (bb.cell (p := ⟨b2, o2 + 0, none⟩) hs3).trans hz2
   have K0 : w3.cell? ⟨w.heap.size, 0, none⟩ = some (.slice A n cs) := r3.cell 0
   have K1 : w3.cell? ⟨w.heap.size, 1, none⟩ = some (.slice V q cv) := r3.cell 1
   clear r2 bel2 hx2 hz2 bb hs2 hs3 L2
   cases hroot : rootB d.1 d.2 t y d.2.length with
   | true =>
    have F := hid (show AnsB w (parB d.1 d.2 t y) (.returned (.bool true)) w3 from ⟨by rw [par_root hroot], bel3⟩)
    clear r3 bel3
    go_wp2
    go_ret
    exact F.out
   | false =>
    have HR := hid hroot
    clear hroot
    have j1 : (0 : Int) < (m : Int) := by omega
    have j2 : (0 : Int) < (k : Int) := by omega
    by_cases hxz : x = z
    ·subst hxz
     have e0 : (x != x) = false := by simp
     have hpz : 0 ≤ t.getD 0 0 := by
      refine Int.not_lt.1 fun hn0 => HNE.out (heads_neg HFT.out HFY.out hn0 (by rw [HX.out, HZ.out]))
     obtain ⟨ps, hP⟩ := prt_ex HFT.out hpz
     obtain ⟨qs, hQs⟩ := prt_ex HFY.out (by rw [HZ.out, ← HX.out]; exact hpz)
     have HP := hid hP
     have HQQ := hid hQs
     have HR3 := hid (fun n' => (⟨r3.drewN n', below_drewN bel3 n'⟩ : Row (w3.drewN n') w.heap.size 76 #[.slice A n cs, .slice V q cv] ∧ Below w.heap.size w (w3.drewN n')))
     clear hP hQs hpz r3 bel3
     go_wp2_with fail
     go_quiet (fail)
     generalize hw4 : w3.drewN _ = w4
     have r4 : Row w4 w.heap.size 76 #[.slice A n cs, .slice V q cv] := by rw [← hw4]; exact (HR3.out _).1
     have bel4 : Below w.heap.size w w4 := by rw [← hw4]; exact (HR3.out _).2
     have K0 : w4.cell? ⟨w.heap.size, 0, none⟩ = some (.slice A n cs) := r4.cell 0
     clear hw4 HR3 K1 hx3 hz3
     go_wp2_with fail
     go_cut [7, 8] (fun a b wx => ∃ p1 p2, a = .pointer (some ⟨p1, 0, none⟩) ∧ b = .pointer (some ⟨p2, 0, none⟩) ∧ CC w A V (some ⟨b1, o1, none⟩) (some ⟨b2, o2, none⟩) n cs q cv m mc k kc p1 p2 0 0 wx)
     case first =>
      have C1 := hid (cc_new r4 bel4 (some ⟨b1, o1, none⟩) (some ⟨b2, o2, none⟩) m mc k kc)
      have C2 := hid (cc_new' r4 bel4 (some ⟨b1, o1, none⟩) (some ⟨b2, o2, none⟩) m mc k kc)
      clear r4 bel4
      go_region_held3 (fun w' => w'.cell? ⟨w.heap.size, 0, none⟩ = some (.slice A n cs)) (go_keep) ((fail))
      all_goals
       go_wp2_with fail
       go_meet
       first
        | exact ⟨_, _, rfl, rfl, C1.out⟩
        | exact ⟨_, _, rfl, rfl, C2.out⟩
     case rest =>
      rename World => wc
      obtain ⟨p1, p2, rfl, rfl, C0⟩ := hcut
      have sT0 : Seg w w.heap.size (some ⟨b1, o1, none⟩) m t := shape.Rd.seg (HT.out.rd HQ.out)
      have sU0 : Seg w w.heap.size (some ⟨b2, o2, none⟩) k y := shape.Rd.seg (HY.out.rd HQ.out)
      have HA := hid (fun (wx : World) (i j : Nat) (C : CC w A V (some ⟨b1, o1, none⟩) (some ⟨b2, o2, none⟩) n cs q cv m mc k kc p1 p2 i j wx) (hi : i ≤ m) => C.curA HSG.out sT0 hi hn hm HS.out)
      have HB := hid (fun (wx : World) (i j : Nat) (C : CC w A V (some ⟨b1, o1, none⟩) (some ⟨b2, o2, none⟩) n cs q cv m mc k kc p1 p2 i j wx) (hj : j ≤ k) => C.curB HSG.out sU0 hj hn hk HS.out)
      have hpl := HP.out
      obtain ⟨⟨x', hx0, hx2, hux, hpl⟩, -⟩ := hpl
      have exx : x' = x := by have := HX.out; rw [hux] at this; exact this
      subst exx
      have hbd := (ar_bd HS.out x').2
      obtain ⟨pk, hpk⟩ := Int.eq_ofNat_of_zero_le hx2
      rw [hpk, Int.toNat_natCast] at hpl
      rw [hpk] at hbd
      have HPK := hid hpk
      have HPL := hid hpl
      have HQL := hid ((prt_len2 HP.out HQQ.out (by rw [HX.out, HZ.out])).symm.trans hpl)
      have hcT := rdq_cap HT.out
      have hcU := rdq_cap HY.out
      have cT1 := hcT.1
      have cT2 := hcT.2.1
      have cU1 := hcU.1
      have cU2 := hcU.2.1
      have LN := hid (next p2 A n cs (some ⟨b2, o2, none⟩) k kc d.1 y 0 wc (HB.out wc 0 0 C0 (Nat.zero_le _)))
      have HC0 := hid C0
      clear C0 sT0 sU0 hcT hcU hux hpl hpk hx0 hx2 r4 bel4 K0
      go_wp2_with fail
      refine LN.out.mono ?_
      rintro e w5 ⟨g5, ⟨-, rfl, hc5⟩ | ⟨h0, -⟩⟩
      case inr => omega
      have HC5 := hid (HC0.out.moveB g5 hc5.row)
      have LM := hid (next p1 A n cs (some ⟨b1, o1, none⟩) m mc d.1 t 0 w5 (HA.out w5 0 1 HC5.out (Nat.zero_le _)))
      clear g5 hc5 LN HC0
      go_wp2_with fail
      refine LM.out.mono ?_
      rintro e w6 ⟨g6, ⟨-, rfl, hc6⟩ | ⟨h0, -⟩⟩
      case inr => omega
      have HC6 := hid (HC5.out.moveA g6 hc6.row)
      rw [HX.out, HPK.out]
      clear g6 hc6 LM HC5
      go_wp2_with fail
      go_loopg [35] pk (fun g i wr => ∃ j : Nat, i = .int .i64 j ∧ j + g = pk ∧ (∀ i, i < j → parB d.1 d.2 (ps.getD i []) (qs.getD i []) = true) ∧ CC w A V (some ⟨b1, o1, none⟩) (some ⟨b2, o2, none⟩) n cs q cv m mc k kc p1 p2 (upto ps j) (upto qs j) wr)
      case atStart => exact ⟨0, rfl, by omega, fun i hi => absurd hi (Nat.not_lt_zero i), HC6.out⟩
      case round =>
       clear HC6
       obtain ⟨j, rfl, hjg, hyes, S⟩ := hrel
       have HJ := hid hjg
       have HY2 := hid hyes
       clear hjg hyes
       by_cases hj : j < pk
       ·have i1 : (j : Int) < (pk : Int) := by omega
        have hjl : j < ps.length := by rw [HPL.out]; exact hj
        have hjl2 : j < qs.length := by rw [HQL.out]; exact hj
        have hlt := part_lt HP.out hjl
        have ule := upto_le HP.out hjl
        have ule2 := upto_le HQQ.out hjl2
        have u1 := fo_pos (part_fo HP.out hjl)
        have u2 := fo_pos (part_fo HQQ.out hjl2)
        rw [HTL.out] at ule
        rw [HYL.out] at ule2
        have HSA := hid (upto_scan HP.out hjl HVT.out)
        have HSB := hid (upto_scan HQQ.out hjl2 HVY.out)
        have HCA := hid (upto_cut HP.out hjl)
        have HCB := hid (upto_cut HQQ.out hjl2)
        have HNA := hid (upto_next hjl)
        have HNB := hid (upto_next hjl2)
        obtain ⟨ua, hua⟩ : ∃ u, upto ps j = u := ⟨_, rfl⟩
        obtain ⟨ub, hub⟩ : ∃ u, upto qs j = u := ⟨_, rfl⟩
        obtain ⟨pa, hpa⟩ : ∃ u, ps.getD j [] = u := ⟨_, rfl⟩
        obtain ⟨pb, hpb⟩ : ∃ u, qs.getD j [] = u := ⟨_, rfl⟩
        rw [hua, hub] at S
        rw [hua, hpa] at HSA HCA HNA ule
        rw [hub, hpb] at HSB HCB HNB ule2
        rw [hpa] at hlt u1
        rw [hpb] at u2
        obtain ⟨la, hla⟩ : ∃ u, pa.length = u := ⟨_, rfl⟩
        obtain ⟨lb, hlb⟩ : ∃ u, pb.length = u := ⟨_, rfl⟩
        rw [hla] at HSA HCA HNA ule u1
        rw [hlb] at HSB HCB HNB ule2 u2
        have K0 : wr.cell? ⟨w.heap.size, 0, none⟩ = some (.slice A n cs) := S.r.cell 0
        have K1 : wr.cell? ⟨w.heap.size, 1, none⟩ = some (.slice V q cv) := S.r.cell 1
        have LA := hid (fun dd => (partC p1 A n cs b1 o1 m mc d.1 t ua la (wr.drewN dd) (HA.out _ ua ub (S.drewN dd) (by omega)) HSA.out ule u1 cT1 cT2).mono fun e w' (r : _ ∧ _ ∧ _) => (⟨r.1, (S.drewN dd).moveA r.2.1 r.2.2.row⟩ : e = .returned (.slice (some ⟨b1, o1 + ua, none⟩) la (mc - ua)) ∧ CC w A V (some ⟨b1, o1, none⟩) (some ⟨b2, o2, none⟩) n cs q cv m mc k kc p1 p2 (ua + la) ub w'))
        have LB := hid (fun (wx : World) (C : CC w A V (some ⟨b1, o1, none⟩) (some ⟨b2, o2, none⟩) n cs q cv m mc k kc p1 p2 (ua + la) ub wx) => (partC p2 A n cs b2 o2 k kc d.1 y ub lb wx (HB.out _ _ ub C (by omega)) HSB.out ule2 u2 cU1 cU2).mono fun e w' (r : _ ∧ _ ∧ _) => (⟨r.1, C.moveB r.2.1 r.2.2.row⟩ : e = .returned (.slice (some ⟨b2, o2 + ub, none⟩) lb (kc - ub)) ∧ CC w A V (some ⟨b1, o1, none⟩) (some ⟨b2, o2, none⟩) n cs q cv m mc k kc p1 p2 (ua + la) (ub + lb) w'))
        have LI := hid (fun (wx : World) (C : CC w A V (some ⟨b1, o1, none⟩) (some ⟨b2, o2, none⟩) n cs q cv m mc k kc p1 p2 (ua + la) (ub + lb) wx) => IH.out wx C.bel (some ⟨b1, o1 + ua, none⟩) (some ⟨b2, o2 + ub, none⟩) la lb (mc - ua) (kc - ub) pa pb (by have := HF.out; omega)
         (by have h9 := rdq_cut (HT.out.keep (Keep.below C.bel HQ.out)) u1 ule; rw [HCA.out] at h9; exact h9)
         (by have h9 := rdq_cut (HY.out.keep (Keep.below C.bel HQ.out)) u2 ule2; rw [HCB.out] at h9; exact h9) (by omega) (by omega)
         (by have h9 := part_fo HP.out hjl; rw [hpa] at h9; exact h9) (by have h9 := part_fo HQQ.out hjl2; rw [hpb] at h9; exact h9)
         (by have h9 := part_in HP.out hjl HVT.out; rw [hpa] at h9; exact h9) (by have h9 := part_in HQQ.out hjl2 HVY.out; rw [hpb] at h9; exact h9))
        obtain ⟨bo, hbo⟩ : ∃ bo, parB d.1 d.2 pa pb = bo := ⟨_, rfl⟩
        rw [hbo] at LI
        have HBO := hid (show parB d.1 d.2 (ps.getD j []) (qs.getD j []) = bo by rw [hpa, hpb]; exact hbo)
        clear S hbo hla hlb hpa hpb hlt hua hub u1 u2
        go_wp2_with fail
        go_region_held3 (fun w' => w'.cell? ⟨w.heap.size, 0, none⟩ = some (.slice A n cs) ∧ w'.cell? ⟨w.heap.size, 1, none⟩ = some (.slice V q cv))
         (go_keep)
         (first
          | (go_at_call 64; refine (LI.out w8 C8).mono ?_; rintro e w9 ⟨rfl, bb⟩; have C9 := C8.next bb; have k0 : w9.cell? ⟨w.heap.size, 0, none⟩ = some (.slice A n cs) := C9.r.cell 0; have k1 : w9.cell? ⟨w.heap.size, 1, none⟩ = some (.slice V q cv) := C9.r.cell 1; clear bb)
          | (go_at_call 92; refine (LB.out w7 C7).mono ?_; rintro e w8 ⟨rfl, C8⟩; have k0 : w8.cell? ⟨w.heap.size, 0, none⟩ = some (.slice A n cs) := C8.r.cell 0; have k1 : w8.cell? ⟨w.heap.size, 1, none⟩ = some (.slice V q cv) := C8.r.cell 1)
          | (go_at_call 92; refine (LA.out _).mono ?_; rintro e w7 ⟨rfl, C7⟩; have k0 : w7.cell? ⟨w.heap.size, 0, none⟩ = some (.slice A n cs) := C7.r.cell 0; have k1 : w7.cell? ⟨w.heap.size, 1, none⟩ = some (.slice V q cv) := C7.r.cell 1))
        clear LA LB LI C7 C8 k0 k1 K0 K1
        have HC9 := hid C9
        clear C9
        cases bo with
        | true =>
         have HN := hid (show ∀ i, i < j + 1 → parB d.1 d.2 (ps.getD i []) (qs.getD i []) = true from fun i hi => by
          rcases Nat.lt_succ_iff_lt_or_eq.1 hi with h1 | h1
          ·exact HY2.out i h1
          ·rw [h1]; exact HBO.out)
         go_wp2
         go_roundg (gk - 1)
         case measure => have := HJ.out; omega
         case rel => exact ⟨j + 1, by simp, by have := HJ.out; omega, HN.out, by rw [HNA.out, HNB.out]; exact HC9.out⟩
        | false =>
         have F := hid (show AnsB w (parB d.1 d.2 t y) (.returned (.bool false)) w9 from ⟨by rw [par_miss HNE.out HR.out HP.out HQQ.out hjl HBO.out], HC9.out.bel⟩)
         clear HC9
         go_wp2
         go_ret
         exact F.out
       ·have i1 : ¬ (j : Int) < (pk : Int) := by omega
        have F := hid (show AnsB w (parB d.1 d.2 t y) (.returned (.bool true)) wr from ⟨by rw [par_all HP.out HQQ.out (by rw [HX.out, HZ.out]) fun i hi => HY2.out i (by have := HPL.out; have := HJ.out; omega)], S.bel⟩)
        clear S
        go_wp2
        go_ret
        exact F.out
    ·have e0 : (x != z) = true := by simp [hxz]
     have F := hid (fun n' => show AnsB w (parB d.1 d.2 t y) (.returned (.bool false)) (w3.drewN n') from ⟨by rw [par_head HNE.out HR.out (by rw [HX.out, HZ.out]; exact hxz)], below_drewN bel3 n'⟩)
     clear r3 bel3
     go_wp2_with fail
     go_quiet (fail)
     go_wp2
     go_ret
     exact F.out _
end parImpl
end
section
open Go.Lib (hid)
namespace parX
open Go.RowKit base ints sig term termOk termFacts marks app sym segs kinds shape kindsR varsOf ruleMath ruleSpec ruleImpl stepMath walkMath stepSpec drawX forest parMath parSpec parImpl
noncomputable def parToB (sg : List Int) (rs : List Rl) (t y : List Int) : Bool := sysOkB sg rs && (termOkB sg t && (termOkB sg y && parB sg rs t y))
section
variable {sg : List Int} {rs : List Rl} {t y : List Int}
theorem par_sys (h : sysOkB sg rs = false) : parToB sg rs t y = false := by unfold parToB; rw [h]; rfl
theorem par_one (h : sysOkB sg rs = true) (h1 : termOkB sg t = false) : parToB sg rs t y = false := by unfold parToB; rw [h, h1]; rfl
theorem par_two (h : sysOkB sg rs = true) (h1 : termOkB sg t = true) (h2 : termOkB sg y = false) : parToB sg rs t y = false := by unfold parToB; rw [h, h1, h2]; rfl
theorem par_ok (h : sysOkB sg rs = true) (h1 : termOkB sg t = true) (h2 : termOkB sg y = true) : parToB sg rs t y = parB sg rs t y := by unfold parToB; rw [h, h1, h2]; rfl
end
theorem rdq_ints {w : World} {A : Option Addr} {n c : Nat} {t : List Int} (h : Seg w w.heap.size A n t) (hc : Cap A n c) : RdQ w (fun b => b < w.heap.size) sI [.slice A n c] t :=
 rdq_seg h.1 hc fun hn => by obtain ⟨b, off, e, hb, hj⟩ := h.2 hn; exact ⟨b, off, e, hb, hj⟩
theorem vars24 {sg t : List Int} (h : termOkB sg t = true) : ∀ x ∈ t, -24 ≤ x := fun x hx => (term_mem h hx).1
set_option maxHeartbeats 4000000 in
theorem implParallelToX (a v u z : Value) (d : Dat sSystem) (t y : List Int) (w : World) (h : Rd w w.heap.size sSystem [a, v] d) (ht : Rd w w.heap.size sI [u] t) (hy : Rd w w.heap.size sI [z] y) (hz : sz sSystem d ≤ 1048576) (hz1 : sz sI t ≤ 1048576) (hz2 : sz sI y ≤ 1048576) :
  Calls Tryz.prog 39 #[.agg #[a, v], u, z] w (AnsB w (parToB d.1 d.2 t y)) := by
 obtain ⟨T, m, mc, rfl, hT, hcT⟩ := rd_ints.1 ht
 obtain ⟨U, k, kc, rfl, hU, hcU⟩ := rd_ints.1 hy
 have hm : m ≤ 1048576 := len_ints hT.1 hz1
 have hk : k ≤ 1048576 := len_ints hU.1 hz2
 have qT := rdq_ints hT hcT
 have qU := rdq_ints hU hcU
 have h0 := h
 obtain ⟨A, n, cs, V, q, cv, rfl, rfl, hs, hc, hcv, hq, hn, hq1, hrs, hsg, hE⟩ := rd_sys h hz
 obtain ⟨W, hW, rA, bel⟩ := box1 w 33 #[.slice A n cs, .slice V q cv]
 have HW := hid hW
 have L1 := hid (ruleImpl.systemOf _ _ d W (h.next bel) hz)
 have L2 := hid (fun (w1 : World) (bb : Below w.heap.size w w1) => implTermOk A T n cs m mc d.1 t w1 (hs.next bb) (hT.next bb) hn hm)
 have L3 := hid (fun (w1 : World) (bb : Below w.heap.size w w1) => implTermOk A U n cs k kc d.1 y w1 (hs.next bb) (hU.next bb) hn hk)
 have L4 := hid (fun (w1 : World) (bb : Below w.heap.size w w1) oks (t1 : termOkB d.1 t = true) (t2 : termOkB d.1 y = true) => parallel _ _ d (fun b => b < w.heap.size) hz oks (sig_arities (sys_parts oks).1).1 (t.length + 1) T U m k mc kc t y w1 (Nat.lt_succ_self _) (h0.next bb) (qT.keep (stk.Keep.below bb fun b hb => hb)) (qU.keep (stk.Keep.below bb fun b hb => hb)) (fun b hb => Nat.lt_of_lt_of_le hb bb.size) hm hk (fo_term t1) (fo_term t2) (vars24 t1) (vars24 t2))
 clear hW h h0 hz hs hc hcv hq hrs hsg hE ht hy hT hU hcT hcU qT qU hz1 hz2
 cases ok1 : sysOkB d.1 d.2 with
 | false =>
  have HS := hid ok1
  clear ok1
  go_enter Tryz.func39, Tryz.ntmps39
  go_wp2_with fail
  rw [← HW.out]
  refine L1.out.mono ?_
  rintro e w1 ⟨he, bb⟩
  rw [HS.out] at he
  have he : e = .returned (.tuple #[.agg #[.slice none 0 0, .slice none 0 0], .bool false]) := he
  subst he
  have F := hid (fun o => ansB (b := parToB d.1 d.2 t y) (a := false) (by rw [par_sys HS.out]) ((next_trans bel bb).alloc (next_trans bel bb).size o))
  clear bb bel rA
  go_wp2
  go_ret
  exact F.out _
 | true =>
  obtain ⟨bt, hbt⟩ : ∃ b, termOkB d.1 t = b := ⟨_, rfl⟩
  obtain ⟨bu, hbu⟩ : ∃ b, termOkB d.1 y = b := ⟨_, rfl⟩
  have HS := hid ok1
  have HB := hid hbt
  have HU := hid hbu
  clear ok1 hbt hbu
  go_enter Tryz.func39, Tryz.ntmps39
  go_wp2_with fail
  rw [← HW.out]
  refine L1.out.mono ?_
  rintro e w1 ⟨he, bb⟩
  rw [HS.out] at he
  have he : e = .returned (.tuple #[.agg #[.slice A n cs, .slice V q cv], .bool true]) := he
  subst he
  have bel1 := next_trans bel bb
  obtain ⟨wb, hwb⟩ : ∃ wb, wb = w1.alloc (.cells #[.slice A n cs, .slice V q cv] 76) := ⟨_, rfl⟩
  have rB : Row wb w1.heap.size 76 #[.slice A n cs, .slice V q cv] := by rw [hwb]; exact Row.new _ _ _
  have belB : Below w.heap.size w wb := by rw [hwb]; exact bel1.alloc bel1.size _
  have k0 : (w1.alloc (.cells #[.slice A n cs, .slice V q cv] 76)).cell? ⟨w1.heap.size, 0, none⟩ = some (.slice A n cs) := by rw [← hwb]; exact rB.cell 0
  have k1 : (w1.alloc (.cells #[.slice A n cs, .slice V q cv] 76)).cell? ⟨w1.heap.size, 1, none⟩ = some (.slice V q cv) := by rw [← hwb]; exact rB.cell 1
  have HWB := hid hwb
  clear bb L1 bel1 rA hwb bel
  go_wp2_with fail
  rw [← HWB.out]
  clear k0 k1
  refine (L2.out _ belB).mono ?_
  rintro e w2 ⟨he, bb⟩
  rw [HB.out] at he
  subst he
  replace rB := rB.next bb
  replace belB := next_trans belB bb
  have k0 : w2.cell? ⟨w1.heap.size, 0, none⟩ = some (.slice A n cs) := rB.cell 0
  have k1 : w2.cell? ⟨w1.heap.size, 1, none⟩ = some (.slice V q cv) := rB.cell 1
  clear bb L2
  cases bt with
  | false =>
   have F := hid (ansB (b := parToB d.1 d.2 t y) (a := false) (by rw [par_one HS.out HB.out]) belB)
   clear belB rB
   go_wp2
   go_ret
   exact F.out
  | true =>
   go_wp2_with fail
   refine (L3.out _ belB).mono ?_
   rintro e w3 ⟨he, bb⟩
   rw [HU.out] at he
   subst he
   replace rB := rB.next bb
   replace belB := next_trans belB bb
   have k0 : w3.cell? ⟨w1.heap.size, 0, none⟩ = some (.slice A n cs) := rB.cell 0
   have k1 : w3.cell? ⟨w1.heap.size, 1, none⟩ = some (.slice V q cv) := rB.cell 1
   clear bb L3
   cases bu with
   | false =>
    have F := hid (ansB (b := parToB d.1 d.2 t y) (a := false) (by rw [par_two HS.out HB.out HU.out]) belB)
    clear belB rB
    go_wp2
    go_ret
    exact F.out
   | true =>
    have LL := hid (L4.out _ belB HS.out HB.out HU.out)
    obtain ⟨bz, hbz⟩ : ∃ b, parB d.1 d.2 t y = b := ⟨_, rfl⟩
    rw [hbz] at LL
    have HZ := hid hbz
    clear hbz L4 rB
    go_wp2_with fail
    refine LL.out.mono ?_
    rintro e w4 ⟨rfl, bb⟩
    have F := hid (ansB (b := parToB d.1 d.2 t y) (a := bz) (by rw [par_ok HS.out HB.out HU.out, HZ.out]) (next_trans belB bb))
    clear bb LL belB
    go_wp2
    go_ret
    exact F.out
end parX
end
section
namespace openX
open Go.ChangeShapes Go.WideShapes Go.ChangeAt Go.RowKit base segs shape
def Wf : (s : Sh) → Dat s → Prop
 | .num, (x : Int) => -9223372036854775808 ≤ x ∧ x ≤ 9223372036854775807
 | .bit, _ => True
 | .row _ s, (d : List (Dat s)) => ∀ j, j < d.length → Wf s (d.getD j (dft s))
 | .cat a b, d => Wf a d.1 ∧ Wf b d.2
mutual
def fitsB (P : Program) : Nat → Sh → TypeId → Bool
 | 0, _, _ => false
 | n + 1, s, t => match P.underlying t with
  | some (.struct fs) => P.cellsOf t == nc s && fitsL P n fs.toList 0 s
  | some (.int .i64) => match s with | .num => true | _ => false
  | some .bool => match s with | .bit => true | _ => false
  | some (.slice e) => match s with | .row _ s' => P.cellsOf e == nc s' && fitsB P n s' e | _ => false
  | _ => false
def fitsL (P : Program) : Nat → List Field → Nat → Sh → Bool
 | 0, _, _, _ => false
 | _ + 1, [], _, _ => false
 | n + 1, [f], k, s => f.offset == k && (P.cellsOf f.type == nc s && fitsB P n s f.type)
 | n + 1, f :: g :: fs, k, s => match s with | .cat a b => f.offset == k && (P.cellsOf f.type == nc a && (fitsB P n a f.type && fitsL P n (g :: fs) (k + nc a) b)) | _ => false
end
section
variable {H : Type} {enc : TypeId × Value → H} {P : Program} {w : World} {held : Bool}
theorem addr_add {b off i : Nat} : (⟨b, off, none⟩ : Addr).add i = ⟨b, off + i, none⟩ := by unfold Addr.add; split <;> simp_all
theorem rd_trod : ∀ n : Nat, (∀ (s : Sh) (t : TypeId) (fuel : Nat) (cs : List Value) (x : DataW H × List MemPlace), fitsB P n s t = true → DataW.trod enc P w 0 (fun _ => true) held fuel t cs = some x → ∃ d, Rd w w.heap.size s cs d ∧ Wf s d) ∧
  (∀ (fs : List Field) (k : Nat) (s : Sh) (cs : List Value) (m : Nat), fitsL P n fs k s = true → (∀ (i : Nat) (f : Field), fs[i]? = some f → ∃ x, DataW.trod enc P w 0 (fun _ => true) held m f.type ((cs.drop f.offset).take (P.cellsOf f.type)) = some x) →
   ∃ d, Rd w w.heap.size s ((cs.drop k).take (nc s)) d ∧ Wf s d) := by
 intro n
 induction n with
 | zero => exact ⟨fun _ _ _ _ _ h => by simp [fitsB] at h, fun _ _ _ _ _ h => by simp [fitsL] at h⟩
 | succ n ih =>
  refine ⟨fun s t fuel cs x hf h => ?_, fun fs k s cs m hf h => ?_⟩
  ·unfold fitsB at hf
   split at hf
   ·rename_i fs hu
    simp only [Bool.and_eq_true, beq_iff_eq] at hf
    obtain ⟨xs, n', hfu, hx, hlen, hxl, hg⟩ := DataW.trod_struct hu h
    obtain ⟨d, hr, hw⟩ := ih.2 fs.toList 0 s cs n' hf.2 (fun i f hi => by
     have hi' : fs[i]? = some f := by simpa using hi
     have h1 := hg i f hi'
     have hlt : i < fs.size := (Array.getElem?_eq_some_iff.1 hi').1
     exact ⟨xs[i]'(by omega), by rw [h1]; exact List.getElem?_eq_getElem (by omega)⟩)
    rw [List.drop_zero, List.take_of_length_le (by omega)] at hr
    exact ⟨d, hr, hw⟩
   ·rename_i hu
    split at hf
    ·obtain ⟨z, e1, _, hw⟩ := DataW.trod_int hu h
     refine ⟨z, e1, ?_⟩
     show -9223372036854775808 ≤ z ∧ z ≤ 9223372036854775807
     simpa [Lit.wf, IntKind.min, IntKind.max, IntKind.signed, IntKind.bits] using hw
    ·cases hf
   ·rename_i hu
    split at hf
    ·obtain ⟨z, e1, _⟩ := DataW.trod_bool hu h
     exact ⟨z, e1, trivial⟩
    ·cases hf
   ·rename_i e hu
    split at hf
    ·rename_i e0 s'
     simp only [Bool.and_eq_true, beq_iff_eq] at hf
     rcases Go.Deep.open_slice hu h with ⟨hcs, _⟩ | ⟨a, len, cap, m, n', D, Pl, hcs, _, hl, hm, hmm, _, hi⟩
     ·exact ⟨[], ⟨none, 0, 0, hcs, ⟨by omega, by omega, fun _ => rfl⟩, rfl, fun h => absurd h (by omega)⟩, fun j hj => absurd hj (Nat.not_lt_zero _)⟩
     ·have hmc : m = cap := by simpa using hmm
      subst hmc
      have hd : ∀ j, j < len → ∃ (es : List Value) (dj : Dat s'), es.length = nc s' ∧ (∀ i, i < nc s' → w.cell? ((a.add (j * nc s')).add i) = es[i]?) ∧ Rd w w.heap.size s' es dj ∧ Wf s' dj := fun j hj => by
       obtain ⟨cs', hc, ht⟩ := hi j (by omega)
       obtain ⟨dj, hr, hw⟩ := ih.1 s' e n' cs' _ hf.2 ht
       rw [hf.1] at hc
       obtain ⟨_, hcl, hat⟩ := World.cells?_some hc
       exact ⟨cs', dj, hcl, hat, hr, hw⟩
      have hspot : 0 < len → a.spot = none := fun h0 => by
       obtain ⟨es, dj, h1, h2, _⟩ := hd 0 h0
       have hp := nc_pos s'
       have h3 := h2 0 (by omega)
       rw [List.getElem?_eq_getElem (by omega)] at h3
       have := World.cell?_spot h3
       simpa [Addr.add] using this
      obtain ⟨ds, hdl, hds⟩ : ∃ ds : List (Dat s'), ds.length = len ∧ ∀ j, j < len → ∃ es : List Value, es.length = nc s' ∧ (∀ i, i < nc s' → w.cell? ((a.add (j * nc s')).add i) = es[i]?) ∧ Rd w w.heap.size s' es (ds.getD j (dft s')) ∧ Wf s' (ds.getD j (dft s')) := by
       refine ⟨(List.range len).map fun j => if hj : j < len then Classical.choose (Classical.choose_spec (hd j hj)) else dft s', by simp, fun j hj => ?_⟩
       refine ⟨Classical.choose (hd j hj), ?_⟩
       have h1 := Classical.choose_spec (Classical.choose_spec (hd j hj))
       have e1 : ((List.range len).map fun j => if hj : j < len then Classical.choose (Classical.choose_spec (hd j hj)) else dft s').getD j (dft s') = Classical.choose (Classical.choose_spec (hd j hj)) := by simp [List.getD, hj]
       rw [e1]
       exact h1
      refine ⟨ds, ⟨some a, len, m, hcs, ⟨hl, by unfold maxLen at hm; omega, fun e => by cases e⟩, hdl, fun h0 => ?_⟩, fun j hj => by
       obtain ⟨es, _, _, _, hw⟩ := hds j (by rw [← hdl]; exact hj)
       exact hw⟩
      obtain ⟨b, off, spot⟩ := a
      have hs := hspot h0
      simp only at hs
      subst hs
      refine ⟨b, off, rfl, ?_, fun j hj => ?_⟩
      ·obtain ⟨es, h1, h2, _⟩ := hds 0 h0
       have hp := nc_pos s'
       have h3 := h2 0 (by omega)
       rw [List.getElem?_eq_getElem (by omega)] at h3
       have h4 := World.block_lt_of_cell? _ _ h3
       simpa [addr_add] using h4
      ·obtain ⟨es, h1, h2, h3, _⟩ := hds j hj
       refine ⟨es, h1, fun i hi2 => ?_, h3⟩
       have := h2 i (by omega)
       rw [addr_add, addr_add] at this
       exact this
    ·cases hf
   ·cases hf
  ·match fs, hf, h with
   | [], hf, _ => simp [fitsL] at hf
   | [f], hf, h =>
    unfold fitsL at hf
    simp only [Bool.and_eq_true, beq_iff_eq] at hf
    obtain ⟨h1, h2, h3⟩ := hf
    obtain ⟨x, hx⟩ := h 0 f rfl
    rw [h1, h2] at hx
    exact ih.1 s f.type m _ x h3 hx
   | f :: g :: fs, hf, h =>
    cases s with
    | cat a b =>
     unfold fitsL at hf
     simp only [Bool.and_eq_true, beq_iff_eq] at hf
     obtain ⟨h1, h2, h3, h4⟩ := hf
     obtain ⟨x, hx⟩ := h 0 f rfl
     rw [h1, h2] at hx
     obtain ⟨d1, r1, w1⟩ := ih.1 a f.type m _ x h3 hx
     obtain ⟨d2, r2, w2⟩ := ih.2 (g :: fs) (k + nc a) b cs m h4 (fun i f' hi => h (i + 1) f' hi)
     refine ⟨(d1, d2), ⟨_, _, ?_, r1, r2⟩, w1, w2⟩
     show List.take (nc a + nc b) (List.drop k cs) = _
     rw [List.take_add, List.drop_drop]
    | num => simp [fitsL] at hf
    | bit => simp [fitsL] at hf
    | row e s' => simp [fitsL] at hf
theorem open_val {s : Sh} {t : TypeId} {v : Value} {d : DataW H} {p : List MemPlace} {n : Nat} (hf : fitsB P n s t = true) (h : DataW.Trod enc P w 0 (fun _ => true) held t v d p) : ∃ x, Rd w w.heap.size s v.cells.toList x ∧ Wf s x := by
 obtain ⟨fuel, hfu⟩ := h
 exact (rd_trod n).1 s t fuel _ _ hf hfu
end
end openX
end
end Go.Proofs.YtlmofkeemlfpgaaGreat
