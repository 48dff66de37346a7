/-
  MERGED: my texts Gives, StepMath, WalkMath, Shape, Shape2, KindsR, Rename, one behind the other, as they are. By an AI agent.
-/
import Derived.Test.YtfkgiimcnlagmaaMFnExactPickBy2
import Derived.Deep.RegionHeld3
import Derived.Deep.QuietTactic
import Derived.BigQuiet
section
/-
  CONTRACTS: impl.SubstOk, spec.l2Gives, impl.lookupIn and what it returns, impl.tooLong. Conditions: the slices read as lists ('Seg', 'Segs'), at most 1048576 values. By an AI agent.
-/
namespace Go.Proofs.Ytfkgiimcnlagmaa.gives
open Go.RowKit Go.Proofs.Ytfkgiimcnlagmaa.base Go.Proofs.Ytfkgiimcnlagmaa.ints Go.Proofs.Ytfkgiimcnlagmaa.sig Go.Proofs.Ytfkgiimcnlagmaa.term Go.Proofs.Ytfkgiimcnlagmaa.termOk Go.Proofs.Ytfkgiimcnlagmaa.marks Go.Proofs.Ytfkgiimcnlagmaa.app Go.Proofs.Ytfkgiimcnlagmaa.sym Go.Proofs.Ytfkgiimcnlagmaa.sub Go.Proofs.Ytfkgiimcnlagmaa.segs Go.Proofs.Ytfkgiimcnlagmaa.segsHelp Go.Proofs.Ytfkgiimcnlagmaa.termFacts Go.Proofs.Ytfkgiimcnlagmaa.varsMath Go.Proofs.Ytfkgiimcnlagmaa.varsOf Go.Proofs.Ytfkgiimcnlagmaa.fillMath Go.Proofs.Ytfkgiimcnlagmaa.look Go.Proofs.Ytfkgiimcnlagmaa.substOk
set_option maxRecDepth 100000

/-! ### what a substitution gives for a variable -/
def givesL (ss : List (List Int)) (i : Nat) : List Int := if (ss.getD i []).length = 0 then vt i else ss.getD i []
theorem gives_var {ss : List (List Int)} {i : Nat} (h : (ss.getD i []).length = 0) : givesL ss i = vt i := by unfold givesL; rw [if_pos h]
theorem gives_term {ss : List (List Int)} {i : Nat} (h : ¬ (ss.getD i []).length = 0) : givesL ss i = ss.getD i [] := by unfold givesL; rw [if_neg h]
theorem gives_out {ss : List (List Int)} {i : Nat} (h : ¬ i < ss.length) : givesL ss i = vt i := gives_var (by simp [List.getD, h])
theorem gives_ok {sg : List Int} {ss : List (List Int)} (h : substOkB sg ss = true) {i : Nat} (hi : i < 24) : termOkB sg (givesL ss i) = true := by
  obtain ⟨h1, h2, h3⟩ := substOk_parts h
  by_cases hl : i < ss.length
  · have h4 := h3 i hl
    by_cases hz : (ss.getD i []).length = 0
    · rw [gives_var hz]; exact var_term h1 hi
    · rw [gives_term hz]
      unfold goodB at h4
      rw [decide_eq_false hz, Bool.false_or] at h4
      exact h4
  · rw [gives_out hl]; exact var_term h1 hi
theorem gives_len {sg : List Int} {ss : List (List Int)} (h : substOkB sg ss = true) (i : Nat) : (givesL ss i).length ≤ 60 := by
  by_cases hi : i < ss.length
  · have h2 := (substOk_parts h).2.1
    exact (term_len (gives_ok h (show i < 24 by omega))).2
  · rw [gives_out hi]; simp [vt]
theorem gives_pos (ss : List (List Int)) (i : Nat) : 1 ≤ (givesL ss i).length := by
  unfold givesL
  split
  · simp [vt]
  · omega

set_option maxHeartbeats 2000000 in
theorem l2Gives (S : Option Addr) (m c : Nat) (ss : List (List Int)) (i : Nat) (w : World) (h : Segs w w.heap.size S m ss) (ht : tot ss ≤ 1048576) (hi : i ≤ 1048576) :
    Calls Try.prog 136 #[.agg #[.slice S m c], .int .i64 (i : Int)] w (AnsList w (givesL ss i)) := by
  have hm : m ≤ 1048576 := tot_len h.1 ht
  have HT := Lib.hid (tot_each ht)
  have HL := Lib.hid h.1
  clear ht
  have bel : Below w.heap.size w (w.alloc (.cells #[.slice S m c] 111)) := (Below.refl _ _).alloc (Nat.le_refl _) _
  have i0 : (0 : Int) ≤ (i : Int) := by omega
  have var : ∀ (hv : givesL ss i = vt i), AnsList w (givesL ss i) (.returned (.slice (some ⟨w.heap.size + 1, 0, none⟩) 1 1)) ((w.alloc (.cells #[.slice S m c] 111)).alloc (.cells #[.int .i64 (-1 - (i : Int))] 2)) := fun hv => by
    refine ⟨_, 1, 1, rfl, ?_, bel.alloc (by simp) _⟩
    rw [hv]
    have := Own.of_row (base := w.heap.size) (n := 1) (c := 1) (xs := vt i) (Row.new (w.alloc (.cells #[.slice S m c] 111)) 2 #[.int .i64 (-1 - (i : Int))]) rfl rfl (Nat.le_refl _) (by omega) (by simp) (fun j hj => by
      have e : j = 0 := by omega
      subst e
      rfl)
    simpa using this
  have VAR := Lib.hid var
  clear var
  by_cases hlt : i < m
  · obtain ⟨b, off, A', n', cc, rfl, hbB, hx, hseg, hcap⟩ := h.spot hlt
    have hx1 : (w.alloc (.cells #[.slice (some ⟨b, off, none⟩) m c] 111)).cell? ⟨b, off + i, none⟩ = some (.slice A' n' cc) := (bel.cell (p := ⟨b, off + i, none⟩) hbB).trans hx
    by_cases hz : n' = 0
    · subst hz
      have F := Lib.hid (VAR.out (gives_var hseg.1))
      clear h hseg hcap hx bel VAR
      go_enter Try.func136, Try.ntmps136
      go_wp2
      go_ret
      exact F.out
    · have hpos : 0 < n' := by omega
      have E := Lib.hid (gives_term (ss := ss) (i := i) (by rw [hseg.1]; exact hz))
      have L := Lib.hid (copyInts A' n' cc _ _ ((hseg.below bel).more bel.size) hcap.2.2 (by rw [← hseg.1]; exact HT.out i))
      clear h hseg hcap hx VAR
      go_enter Try.func136, Try.ntmps136
      go_wp2_with fail
      refine L.out.mono ?_
      rintro e w1 ⟨D, dn, dc, rfl, o1, b1⟩
      have F : AnsList w (givesL ss i) (.returned (.slice D dn dc)) w1 := ⟨D, dn, dc, rfl, by rw [E.out]; exact Own.lower o1 bel.size, next_trans bel b1⟩
      have HF := Lib.hid F
      clear F o1 b1 bel L
      go_wp2
      go_ret
      exact HF.out
  · have hge : ¬ (i : Int) < (m : Int) := by omega
    have F := Lib.hid (VAR.out (gives_out (by rw [HL.out]; exact hlt)))
    clear h bel VAR
    go_enter Try.func136, Try.ntmps136
    go_wp2
    go_ret
    exact F.out

/-! ### impl's look-up in a substitution -/
theorem lookupIn (S : Option Addr) (m c : Nat) (w : World) :
    Calls Try.prog 145 #[.agg #[.slice S m c]] w fun e w' => e = .returned (.func (.func 149) #[] #[.pointer (some ⟨w.heap.size, 0, none⟩)]) ∧ w' = w.alloc (.cells #[.slice S m c] 111) := by
  have hmf : ∀ (fn : Fn) (first cap : Array Value) (w : World), (Instr.makeFunc fn first cap).run Try.prog w = .ok (.func fn first cap) w := fun _ _ _ _ => rfl
  go_enter Try.func145, Try.ntmps145
  go_wp2
  go_ret
  exact ⟨rfl, rfl⟩

set_option maxHeartbeats 2000000 in
theorem lookSubstC (B : Nat) (S : Option Addr) (m c : Nat) (ss : List (List Int)) (w : World) (hB : B < w.heap.size) (hc : w.cell? ⟨B, 0, none⟩ = some (.slice S m c)) (h : Segs w w.heap.size S m ss) (hm : m ≤ 1048576) :
    Looks 149 #[.pointer (some ⟨B, 0, none⟩)] w (givesL ss) 24 := by
  intro W i hb hi
  have cB : W.cell? ⟨B, 0, none⟩ = some (.slice S m c) := (hb.cell (p := ⟨B, 0, none⟩) hB).trans hc
  have h1 := h.below hb
  have HL := Lib.hid h.1
  have i0 : (0 : Int) ≤ (i : Int) := by omega
  have LV := Lib.hid (varTerm (i : Int) W (by omega) (by omega))
  have hws := hb.size
  clear hB hc h hb
  show Calls Try.prog 149 #[.int .i64 (i : Int), .pointer (some ⟨B, 0, none⟩)] W _
  by_cases hlt : i < m
  · obtain ⟨b, off, A', n', cc, rfl, hbB, hx, hseg0, hcap⟩ := h1.spot hlt
    have hseg := hseg0.more hws
    by_cases hz : n' = 0
    · subst hz
      have E := Lib.hid (gives_var (ss := ss) (i := i) hseg.1)
      clear h1 hseg hseg0 hcap
      go_enter Try.func149, Try.ntmps149
      go_wp2_with fail
      refine LV.out.mono ?_
      rintro e w1 ⟨D, dn, dc, rfl, o1, b1⟩
      have F : AnsLook w.heap.size W (givesL ss i) (.returned (.slice D dn dc)) w1 := by rw [E.out]; exact look_new o1 b1
      have HF := Lib.hid F
      clear F o1 b1 LV
      go_wp2
      go_ret
      exact HF.out
    · have hpos : 0 < n' := by omega
      have F : AnsLook w.heap.size W (givesL ss i) (.returned (.slice A' n' cc)) W := ⟨A', n', cc, rfl, by rw [gives_term (by rw [hseg.1]; exact hz)]; exact hseg, hcap, fun k hk => .inl (by obtain ⟨b2, off2, e2, hb2, _⟩ := hseg0.2 hpos; rw [e2] at hk; have : b2 = k := Option.some.inj hk; omega), Below.refl _ _⟩
      have HF := Lib.hid F
      clear F h1 hseg hseg0 hcap LV
      go_enter Try.func149, Try.ntmps149
      go_wp2
      go_ret
      exact HF.out
  · have hge : ¬ (i : Int) < (m : Int) := by omega
    have E := Lib.hid (gives_out (ss := ss) (i := i) (by rw [HL.out]; exact hlt))
    clear h1
    go_enter Try.func149, Try.ntmps149
    go_wp2_with fail
    refine LV.out.mono ?_
    rintro e w1 ⟨D, dn, dc, rfl, o1, b1⟩
    have F : AnsLook w.heap.size W (givesL ss i) (.returned (.slice D dn dc)) w1 := by rw [E.out]; exact look_new o1 b1
    have HF := Lib.hid F
    clear F o1 b1 LV
    go_wp2
    go_ret
    exact HF.out

theorem lookSubst (B : Nat) (S : Option Addr) (m c : Nat) (ss : List (List Int)) (w : World) (hr : Row w B 111 #[.slice S m c]) (h : Segs w w.heap.size S m ss) (hm : m ≤ 1048576) :
    Looks 149 #[.pointer (some ⟨B, 0, none⟩)] w (givesL ss) 24 := lookSubstC B S m c ss w hr.lt (hr.cell 0) h hm

theorem tooLong (A : Option Addr) (n c : Nat) (w : World) (hn : n ≤ 9223372036854775807) :
    Calls Try.prog 144 #[.slice A n c] w fun e w' => w = w' ∧ e = .returned (.bool (decide (60 < n))) := by
  have E : decide ((60 : Int) < (n : Int)) = decide (60 < n) := decide_eq_decide.2 (by omega)
  rw [← E]
  have HE := Lib.hid E
  clear E
  generalize hz : decide ((60 : Int) < (n : Int)) = z
  have HZ := Lib.hid hz
  clear hz
  go_enter Try.func144, Try.ntmps144
  go_wp2
  go_ret
  exact ⟨rfl, by rw [← HZ.out]; rfl⟩
end Go.Proofs.Ytfkgiimcnlagmaa.gives
end

section
/-
  PLAIN MATHEMATICS of rewrite steps: what a step makes ('stepO'); it is the one term that an instance of a rule's right side makes ('step_iff'); it can be carried out inside a term ('step_inside') and under a substitution ('step_under'). Conditions: none but those named. By an AI agent.
-/
namespace Go.Proofs.Ytfkgiimcnlagmaa.stepMath
open Go.Proofs.Ytfkgiimcnlagmaa.sig Go.Proofs.Ytfkgiimcnlagmaa.term Go.Proofs.Ytfkgiimcnlagmaa.termOk Go.Proofs.Ytfkgiimcnlagmaa.termFacts Go.Proofs.Ytfkgiimcnlagmaa.fillMath Go.Proofs.Ytfkgiimcnlagmaa.gives Go.Proofs.Ytfkgiimcnlagmaa.endAt Go.Proofs.Ytfkgiimcnlagmaa.sub Go.Proofs.Ytfkgiimcnlagmaa.matchMath Go.Proofs.Ytfkgiimcnlagmaa.termMath Go.Proofs.Ytfkgiimcnlagmaa.posMath Go.Proofs.Ytfkgiimcnlagmaa.putMath Go.Proofs.Ytfkgiimcnlagmaa.ruleMath

/-- the term put at place a -/
def putAt (sg t u : List Int) (a : Nat) : List Int := putL t a (len1 sg t a) u
/-- what rule x makes of t at a -/
def stepO (sg : List Int) (x : Rl) (t : List Int) (a : Nat) : Option (List Int) :=
  match mst sg (subL sg t a) x.1 0 s0 with
  | none => none
  | some ss => if (fillL (givesL ss) x.2).length ≤ 60 ∧ (putAt sg t (fillL (givesL ss) x.2) a).length ≤ 60 then some (putAt sg t (fillL (givesL ss) x.2) a) else none
/-- whether rule x matches t at a -/
def redB (sg : List Int) (x : Rl) (t : List Int) (a : Nat) : Bool := (mst sg (subL sg t a) x.1 0 s0).isSome

theorem sub_ok {sg t : List Int} (h : termOkB sg t = true) {a : Nat} (ha : a < t.length) : termOkB sg (subL sg t a) = true := by
  obtain ⟨h1, h2, h3⟩ := term_parts h
  obtain ⟨e1, e2, e3⟩ := sub_len1 h ha
  have h4 := term_at h ha
  exact term_mk h1 (by omega) e3
/-- a term that matches tells what the variables stand for -/
theorem gives_of {sg l s : List Int} {ss : List (List Int)} (h1 : termOkB sg l = true) (h2 : termOkB sg s = true) (h : mst sg s l 0 s0 = some ss) : Turns sg l s (givesL ss) ∧ ∀ x ∈ l, x < 0 → givesL ss (vr x) = ss.getD (vr x) [] := by
  have hm : matchO sg l s = some ss := by rw [match_yes h1 h2]; exact h
  obtain ⟨e, t1, t2⟩ := match_turns hm
  have hg : ∀ x ∈ l, x < 0 → givesL ss (vr x) = ss.getD (vr x) [] := fun x hx h0 => by
    have this : scan sg 1 (ss.getD (vr x) []) = some (ss.getD (vr x) []).length := t2 x hx h0
    unfold givesL
    rw [if_neg ?_]
    intro e0
    have e1 : ss.getD (vr x) [] = [] := List.length_eq_zero_iff.1 e0
    rw [e1] at this
    exact absurd this (by simp [scan])
  refine ⟨⟨?_, fun x hx h0 => by rw [hg x hx h0]; exact t2 x hx h0⟩, hg⟩
  rw [fill_ext (L' := fun i => ss.getD i []) (fun x hx h0 => hg x hx h0)]
  exact t1
theorem step_iff {sg : List Int} {x : Rl} {t v : List Int} {a : Nat} (hx : ruleOkB sg x = true) (ht : termOkB sg t = true) (ha : a < t.length) :
    stepO sg x t a = some v ↔ ∃ L, Turns sg x.1 (subL sg t a) L ∧ v = putAt sg t (fillL L x.2) a ∧ (fillL L x.2).length ≤ 60 ∧ v.length ≤ 60 := by
  obtain ⟨h1, h2, h3, h4⟩ := rule_parts hx
  have hs := sub_ok ht ha
  constructor
  · intro h
    unfold stepO at h
    cases hm : mst sg (subL sg t a) x.1 0 s0 with
    | none => rw [hm] at h; cases h
    | some ss =>
      rw [hm] at h
      dsimp only at h
      split at h
      · rename_i hf
        injection h with h
        subst h
        exact ⟨_, (gives_of h1 hs hm).1, rfl, hf.1, hf.2⟩
      · cases h
  · rintro ⟨L, hL, rfl, hf, hv⟩
    obtain ⟨ss, hm, hg⟩ := turns_match h1 hs hL
    rw [match_yes h1 hs] at hm
    have g := gives_of h1 hs hm
    have e : fillL (givesL ss) x.2 = fillL L x.2 := fill_ext (fun y hy h0 => by
      have hy1 := h4 y hy h0
      show givesL ss (vr y) = L (vr y)
      rw [g.2 y hy1 h0]
      exact hg y hy1 h0)
    unfold stepO
    rw [hm]
    dsimp only
    rw [e, if_pos ⟨hf, hv⟩]
theorem red_iff {sg : List Int} {x : Rl} {t : List Int} {a : Nat} (hx : ruleOkB sg x = true) (ht : termOkB sg t = true) (ha : a < t.length) : redB sg x t a = true ↔ ∃ L, Turns sg x.1 (subL sg t a) L := by
  obtain ⟨h1, h2, h3, h4⟩ := rule_parts hx
  have hs := sub_ok ht ha
  rw [← inst_iff h1 hs]
  unfold redB instB
  rw [match_yes h1 hs]
/-- what a step makes is a term -/
theorem step_ok {sg : List Int} {x : Rl} {t v : List Int} {a : Nat} (hx : ruleOkB sg x = true) (ht : termOkB sg t = true) (ha : a < t.length) (h : stepO sg x t a = some v) : termOkB sg v = true := by
  obtain ⟨L, hL, rfl, hf, hv⟩ := (step_iff hx ht ha).1 h
  obtain ⟨h1, h2, h3, h4⟩ := rule_parts hx
  obtain ⟨s1, s2, s3⟩ := term_parts ht
  exact put_term ht (term_mk s1 hf (scan_fill (term_parts h2).2.2 (fun y hy h0 => hL.2 y (h4 y hy h0) h0))) ha hv
/-! ### inside a term -/
theorem sub_in {sg A x B : List Int} (h : termOkB sg x = true) {a : Nat} (ha : a < x.length) : len1 sg (A ++ (x ++ B)) (A.length + a) = len1 sg x a ∧ subL sg (A ++ (x ++ B)) (A.length + a) = subL sg x a := by
  obtain ⟨h1, h2, h3⟩ := term_at h ha
  have e : (A ++ (x ++ B)).drop (A.length + a) = x.drop a ++ B := by
    rw [← List.drop_drop, List.drop_left, List.drop_append_of_le_length (by omega)]
  have e1 : len1 sg (A ++ (x ++ B)) (A.length + a) = len1 sg x a := len1_eq (by rw [e]; exact scan_append h1)
  refine ⟨e1, ?_⟩
  unfold subL
  rw [e1, e, List.take_append_of_le_length (by rw [List.length_drop]; omega)]
theorem put_in {A x B u : List Int} {a i : Nat} (h : a + i ≤ x.length) : putL (A ++ (x ++ B)) (A.length + a) i u = A ++ (putL x a i u ++ B) := by
  unfold putL
  rw [List.take_append, List.take_of_length_le (by omega), show A.length + a - A.length = a by omega, List.take_append_of_le_length (by omega)]
  rw [show A.length + a + i = A.length + (a + i) by omega, ← List.drop_drop, List.drop_left, List.drop_append_of_le_length (by omega)]
  simp only [List.append_assoc]
theorem put_form {sg C x : List Int} {p : Nat} (hp : p ≤ C.length) : ∃ B, (∀ y, putAt sg C y p = C.take p ++ (y ++ B)) ∧ (C.take p).length = p := ⟨C.drop (p + len1 sg C p), fun _ => rfl, by rw [List.length_take]; omega⟩
/-- a step inside a term -/
theorem step_inside {sg : List Int} {x : Rl} {t v C : List Int} {a p : Nat} (hx : ruleOkB sg x = true) (ht : termOkB sg t = true) (ha : a < t.length) (h : stepO sg x t a = some v) (hC : termOkB sg C = true) (hp : p < C.length) (h1 : (putAt sg C t p).length ≤ 60) (h2 : (putAt sg C v p).length ≤ 60) :
    stepO sg x (putAt sg C t p) (p + a) = some (putAt sg C v p) ∧ p + a < (putAt sg C t p).length := by
  obtain ⟨L, hL, rfl, hf, hv⟩ := (step_iff hx ht ha).1 h
  have hT : termOkB sg (putAt sg C t p) = true := put_term hC ht hp h1
  obtain ⟨B, hB, hl⟩ := put_form (sg := sg) (x := x.1) (show p ≤ C.length by omega)
  obtain ⟨s1, s2⟩ := sub_in (A := C.take p) (B := B) ht ha
  rw [hl] at s1 s2
  rw [← hB t] at s1 s2
  have h3 := term_at ht ha
  have hpl : p + a < (putAt sg C t p).length := by rw [hB t, List.length_append, List.length_append, hl]; omega
  refine ⟨(step_iff hx hT hpl).2 ⟨L, by rw [s2]; exact hL, ?_, hf, h2⟩, hpl⟩
  have e := put_in (A := C.take p) (B := B) (u := fillL L x.2) (show a + len1 sg t a ≤ t.length from h3.2.2)
  rw [hl, ← hB t] at e
  show putAt sg C (putAt sg t (fillL L x.2) a) p = putL (putAt sg C t p) (p + a) (len1 sg (putAt sg C t p) (p + a)) (fillL L x.2)
  rw [s1, e, hB]
  rfl
/-- what was put in can be read again -/
theorem put_read {sg C t : List Int} {p : Nat} (ht : termOkB sg t = true) (hp : p ≤ C.length) : subL sg (putAt sg C t p) p = t := (put_sub ht hp _).2
/-! ### under a substitution -/
theorem step_under {sg : List Int} {x : Rl} {t v : List Int} {a : Nat} {M : Nat → List Int} (hx : ruleOkB sg x = true) (ht : termOkB sg t = true) (ha : a < t.length) (h : stepO sg x t a = some v) (hM : ∀ y ∈ t, y < 0 → termOkB sg (M (vr y)) = true) (h1 : (fillL M t).length ≤ 60) (h2 : (fillL M v).length ≤ 60) :
    stepO sg x (fillL M t) (fillL M (t.take a)).length = some (fillL M v) ∧ (fillL M (t.take a)).length < (fillL M t).length := by
  obtain ⟨L, hL, rfl, hf, hv⟩ := (step_iff hx ht ha).1 h
  obtain ⟨e1, e2, e3⟩ := sub_len1 ht ha
  have hT := fill_term ht hM h1
  have hspl : t = t.take a ++ (subL sg t a ++ t.drop (a + (subL sg t a).length)) := by rw [← e2, List.take_append_drop]
  have hmem : ∀ y ∈ subL sg t a, y ∈ t := fun y hy => by rw [hspl]; simp [hy]
  have hsub := sub_ok ht ha
  have hscan : scan sg 1 (fillL M (subL sg t a)) = some (fillL M (subL sg t a)).length := scan_fill e3 (fun y hy h0 => (term_parts (hM y (hmem y hy) h0)).2.2)
  have hft : fillL M t = fillL M (t.take a) ++ (fillL M (subL sg t a) ++ fillL M (t.drop (a + (subL sg t a).length))) := by
    rw [← fill_append, ← fill_append]
    exact congrArg (fillL M) hspl
  have hpos : 1 ≤ (fillL M (subL sg t a)).length := scan_pos (q := 0) hscan
  have hlt : (fillL M (t.take a)).length < (fillL M t).length := by rw [hft, List.length_append, List.length_append]; omega
  have hdrop : (fillL M t).drop (fillL M (t.take a)).length = fillL M (subL sg t a) ++ fillL M (t.drop (a + (subL sg t a).length)) := by rw [hft, List.drop_left]
  have hl1 : len1 sg (fillL M t) (fillL M (t.take a)).length = (fillL M (subL sg t a)).length := len1_eq (by rw [hdrop]; exact scan_append hscan)
  have hs2 : subL sg (fillL M t) (fillL M (t.take a)).length = fillL M (subL sg t a) := by
    unfold subL
    rw [hl1, hdrop]
    exact List.take_left
  have hput : putAt sg (fillL M t) (fillL M (fillL L x.2)) (fillL M (t.take a)).length = fillL M (putAt sg t (fillL L x.2) a) := by
    have hd2 : (fillL M t).drop ((fillL M (t.take a)).length + (fillL M (subL sg t a)).length) = fillL M (t.drop (a + len1 sg t a)) := by rw [← List.drop_drop, hdrop, List.drop_left, e1]
    have ht2 : (fillL M t).take (fillL M (t.take a)).length = fillL M (t.take a) := by rw [hft, List.take_left]
    unfold putAt putL
    rw [hl1, fill_append, fill_append, hd2, ht2]
  refine ⟨(step_iff hx hT hlt).2 ⟨fun i => fillL M (L i), ?_, ?_, ?_, h2⟩, hlt⟩
  · rw [hs2]
    exact turns_trans hL ⟨rfl, fun y hy h0 => (term_parts (hM y (hmem y hy) h0)).2.2⟩
  · rw [← fill_fill, hput]
  · rw [← fill_fill]
    have h3 : (fillL M (putAt sg t (fillL L x.2) a)).length ≤ 60 := h2
    rw [← hput] at h3
    unfold putAt putL at h3
    rw [List.length_append, List.length_append] at h3
    omega
end Go.Proofs.Ytfkgiimcnlagmaa.stepMath
end

section
/-
  PLAIN MATHEMATICS of walks: a walk goes on ('goOn'), ends ('endL'), can be cut and joined ('go_append'), carried out inside a term ('go_inside') and under a substitution ('go_under'). Conditions: none but those named. By an AI agent.
-/
namespace Go.Proofs.Ytfkgiimcnlagmaa.walkMath
open Go.Proofs.Ytfkgiimcnlagmaa.sig Go.Proofs.Ytfkgiimcnlagmaa.term Go.Proofs.Ytfkgiimcnlagmaa.termOk Go.Proofs.Ytfkgiimcnlagmaa.termFacts Go.Proofs.Ytfkgiimcnlagmaa.fillMath Go.Proofs.Ytfkgiimcnlagmaa.gives Go.Proofs.Ytfkgiimcnlagmaa.sub Go.Proofs.Ytfkgiimcnlagmaa.matchMath Go.Proofs.Ytfkgiimcnlagmaa.putMath Go.Proofs.Ytfkgiimcnlagmaa.ruleMath Go.Proofs.Ytfkgiimcnlagmaa.stepMath

/-- a step: place, rule, result; a walk: the first term, the steps -/
abbrev St := Int × Int × List Int
abbrev Wk := List Int × List St
def inB (x : Int) (n : Nat) : Bool := decide (0 ≤ x ∧ x < n)
def rightB (sg : List Int) (rs : List Rl) (t : List Int) : Bool := sysOkB sg rs && termOkB sg t
def thereR (sg : List Int) (rs : List Rl) (t : List Int) (a r : Int) : Bool := rightB sg rs t && (inB a t.length && inB r rs.length)
def rl (rs : List Rl) (r : Int) : Rl := rs.getD r.toNat ([], [])
def redexB (sg : List Int) (rs : List Rl) (t : List Int) (a r : Int) : Bool := thereR sg rs t a r && redB sg (rl rs r) t a.toNat
def stepAtO (sg : List Int) (rs : List Rl) (t : List Int) (a r : Int) : Option (List Int) := if thereR sg rs t a r = true then stepO sg (rl rs r) t a.toNat else none
/-- all steps of t, in their order -/
def stepsL (sg : List Int) (rs : List Rl) (t : List Int) : List St := (List.range t.length).flatMap fun a => (List.range rs.length).filterMap fun r => (stepO sg (rs.getD r ([], [])) t a).map fun v => ((a : Int), (r : Int), v)
def stepsI (sg : List Int) (rs : List Rl) (t : List Int) : List St := if rightB sg rs t = true then stepsL sg rs t else []
def normalB (sg : List Int) (rs : List Rl) (t : List Int) : Bool := rightB sg rs t && (List.range t.length).all fun a => rs.all fun x => !redB sg x t a
def goOn (sg : List Int) (rs : List Rl) : List Int → List St → Option (List Int)
  | t, [] => some t
  | t, s :: ss => match stepAtO sg rs t s.1 s.2.1 with
    | some v => if v = s.2.2 then goOn sg rs v ss else none
    | none => none
def walkB (sg : List Int) (rs : List Rl) (w : Wk) : Bool := rightB sg rs w.1 && (decide (w.2.length ≤ 60) && (goOn sg rs w.1 w.2).isSome)
def endL (w : Wk) : List Int := match w.2.getLast? with
  | some s => s.2.2
  | none => w.1

theorem there_parts {sg : List Int} {rs : List Rl} {t : List Int} {a r : Int} (h : thereR sg rs t a r = true) : sysOkB sg rs = true ∧ termOkB sg t = true ∧ (0 ≤ a ∧ a < t.length) ∧ (0 ≤ r ∧ r < rs.length) := by
  unfold thereR rightB inB at h
  simp only [Bool.and_eq_true, decide_eq_true_eq] at h
  exact ⟨h.1.1, h.1.2, h.2.1, h.2.2⟩
theorem there_mk {sg : List Int} {rs : List Rl} {t : List Int} {a r : Int} (h1 : sysOkB sg rs = true) (h2 : termOkB sg t = true) (h3 : 0 ≤ a ∧ a < t.length) (h4 : 0 ≤ r ∧ r < rs.length) : thereR sg rs t a r = true := by
  unfold thereR rightB inB
  rw [h1, h2, decide_eq_true h3, decide_eq_true h4]
  rfl
theorem rl_ok {sg : List Int} {rs : List Rl} {r : Int} (h : sysOkB sg rs = true) (hr : 0 ≤ r ∧ r < rs.length) : ruleOkB sg (rl rs r) = true := (sys_parts h).2.2 _ (rl_mem (by omega))
theorem stepAt_parts {sg : List Int} {rs : List Rl} {t v : List Int} {a r : Int} (h : stepAtO sg rs t a r = some v) : thereR sg rs t a r = true ∧ stepO sg (rl rs r) t a.toNat = some v := by
  unfold stepAtO at h
  split at h
  · exact ⟨by assumption, h⟩
  · cases h
theorem stepAt_ok {sg : List Int} {rs : List Rl} {t v : List Int} {a r : Int} (h : stepAtO sg rs t a r = some v) : termOkB sg v = true := by
  obtain ⟨h1, h2⟩ := stepAt_parts h
  obtain ⟨q1, q2, q3, q4⟩ := there_parts h1
  exact step_ok (rl_ok q1 q4) q2 (by omega) h2
theorem stepAt_redex {sg : List Int} {rs : List Rl} {t v : List Int} {a r : Int} (h : stepAtO sg rs t a r = some v) : redexB sg rs t a r = true := by
  obtain ⟨h1, h2⟩ := stepAt_parts h
  unfold redexB
  rw [h1, Bool.true_and]
  unfold stepO at h2
  unfold redB
  cases hm : mst sg (subL sg t a.toNat) (rl rs r).1 0 s0 with
  | none => rw [hm] at h2; cases h2
  | some ss => rfl
theorem go_cons {sg : List Int} {rs : List Rl} {t v : List Int} {s : St} {ss : List St} : goOn sg rs t (s :: ss) = some v ↔ stepAtO sg rs t s.1 s.2.1 = some s.2.2 ∧ goOn sg rs s.2.2 ss = some v := by
  rw [goOn]
  cases h : stepAtO sg rs t s.1 s.2.1 with
  | none => simp
  | some u =>
    dsimp only
    split
    · rename_i e
      subst e
      simp
    · rename_i e
      constructor
      · intro h; cases h
      · rintro ⟨h, _⟩
        injection h with h
        exact absurd h e
theorem go_append {sg : List Int} {rs : List Rl} : ∀ {a b : List St} {t : List Int}, goOn sg rs t (a ++ b) = (goOn sg rs t a).bind fun v => goOn sg rs v b
  | [], b, t => rfl
  | s :: a, b, t => by
    show goOn sg rs t (s :: (a ++ b)) = _
    rw [goOn, goOn]
    cases h : stepAtO sg rs t s.1 s.2.1 with
    | none => rfl
    | some u =>
      dsimp only
      split
      · exact go_append
      · rfl
theorem end_cons (t : List Int) (s : St) (ss : List St) : endL (t, s :: ss) = endL (s.2.2, ss) := by
  unfold endL
  cases ss with
  | nil => rfl
  | cons u r =>
    rw [List.getLast?_cons_cons]
    cases h : (u :: r).getLast? with
    | none => simp at h
    | some z => rfl
theorem go_end {sg : List Int} {rs : List Rl} : ∀ {ss : List St} {t v : List Int}, goOn sg rs t ss = some v → v = endL (t, ss)
  | [], t, v, h => by injection h with h; exact h.symm
  | s :: ss, t, v, h => by
    obtain ⟨_, h2⟩ := go_cons.1 h
    rw [end_cons]
    exact go_end h2
/-- every term of a walk is a term -/
theorem go_ok {sg : List Int} {rs : List Rl} : ∀ {ss : List St} {t v : List Int}, termOkB sg t = true → goOn sg rs t ss = some v → termOkB sg v = true ∧ ∀ s ∈ ss, termOkB sg s.2.2 = true
  | [], t, v, ht, h => by injection h with h; subst h; exact ⟨ht, fun s hs => by cases hs⟩
  | s :: ss, t, v, _, h => by
    obtain ⟨h1, h2⟩ := go_cons.1 h
    have h3 := stepAt_ok h1
    obtain ⟨h4, h5⟩ := go_ok h3 h2
    refine ⟨h4, fun u hu => ?_⟩
    rcases List.mem_cons.1 hu with rfl | hu
    · exact h3
    · exact h5 u hu
theorem walk_parts {sg : List Int} {rs : List Rl} {w : Wk} (h : walkB sg rs w = true) : sysOkB sg rs = true ∧ termOkB sg w.1 = true ∧ w.2.length ≤ 60 ∧ goOn sg rs w.1 w.2 = some (endL w) := by
  unfold walkB rightB at h
  simp only [Bool.and_eq_true, decide_eq_true_eq] at h
  obtain ⟨⟨h1, h2⟩, h3, h4⟩ := h
  obtain ⟨v, hv⟩ := Option.isSome_iff_exists.1 h4
  exact ⟨h1, h2, h3, by rw [hv, go_end hv]⟩
theorem walk_mk {sg : List Int} {rs : List Rl} {w : Wk} {v : List Int} (h1 : sysOkB sg rs = true) (h2 : termOkB sg w.1 = true) (h3 : w.2.length ≤ 60) (h4 : goOn sg rs w.1 w.2 = some v) : walkB sg rs w = true := by
  unfold walkB rightB
  rw [h1, h2, decide_eq_true h3, h4]
  rfl
/-- joined walks -/
theorem walk_join {sg : List Int} {rs : List Rl} {a b : Wk} (ha : walkB sg rs a = true) (hb : walkB sg rs b = true) (he : endL a = b.1) (hl : a.2.length + b.2.length ≤ 60) : walkB sg rs (a.1, a.2 ++ b.2) = true ∧ endL (a.1, a.2 ++ b.2) = endL b := by
  obtain ⟨a1, a2, a3, a4⟩ := walk_parts ha
  obtain ⟨b1, b2, b3, b4⟩ := walk_parts hb
  have h : goOn sg rs a.1 (a.2 ++ b.2) = some (endL b) := by
    rw [go_append, a4]
    show goOn sg rs (endL a) b.2 = _
    rw [he]
    exact b4
  exact ⟨walk_mk (w := (a.1, a.2 ++ b.2)) a1 a2 (by simpa using hl) h, (go_end h).symm⟩
/-- a walk cut in two -/
theorem walk_cut {sg : List Int} {rs : List Rl} {w : Wk} (h : walkB sg rs w = true) (k : Nat) : walkB sg rs (w.1, w.2.take k) = true ∧ walkB sg rs (endL (w.1, w.2.take k), w.2.drop k) = true := by
  obtain ⟨h1, h2, h3, h4⟩ := walk_parts h
  have e : goOn sg rs w.1 (w.2.take k ++ w.2.drop k) = some (endL w) := by rw [List.take_append_drop]; exact h4
  rw [go_append] at e
  cases hv : goOn sg rs w.1 (w.2.take k) with
  | none => rw [hv] at e; cases e
  | some v =>
    rw [hv] at e
    have e : goOn sg rs v (w.2.drop k) = some (endL w) := e
    have hve := go_end hv
    refine ⟨walk_mk (w := (w.1, w.2.take k)) h1 h2 (by rw [List.length_take]; omega) hv, ?_⟩
    rw [← hve]
    exact walk_mk (w := (v, w.2.drop k)) h1 (go_ok h2 hv).1 (by rw [List.length_drop]; omega) e
/-! ### inside a term -/
def insS (sg C : List Int) (p : Nat) (ss : List St) : List St := ss.map fun s => ((p : Int) + s.1, s.2.1, putAt sg C s.2.2 p)
theorem go_inside {sg : List Int} {rs : List Rl} {C : List Int} {p : Nat} (hC : termOkB sg C = true) (hp : p < C.length) : ∀ {ss : List St} {t v : List Int}, goOn sg rs t ss = some v → (putAt sg C t p).length ≤ 60 → (∀ s ∈ ss, (putAt sg C s.2.2 p).length ≤ 60) → goOn sg rs (putAt sg C t p) (insS sg C p ss) = some (putAt sg C v p)
  | [], t, v, h, _, _ => by injection h with h; subst h; rfl
  | s :: ss, t, v, h, h60, hs => by
    obtain ⟨h1, h2⟩ := go_cons.1 h
    obtain ⟨q1, q2⟩ := stepAt_parts h1
    obtain ⟨r1, r2, r3, r4⟩ := there_parts q1
    have g60 := hs s (List.mem_cons_self ..)
    obtain ⟨e1, e2⟩ := step_inside (rl_ok r1 r4) r2 (show s.1.toNat < t.length by omega) q2 hC hp h60 g60
    refine go_cons.2 ⟨?_, go_inside hC hp h2 g60 fun u hu => hs u (List.mem_cons_of_mem _ hu)⟩
    show stepAtO sg rs (putAt sg C t p) ((p : Int) + s.1) s.2.1 = some (putAt sg C s.2.2 p)
    have ok2 : termOkB sg (putAt sg C t p) = true := put_term hC r2 hp h60
    unfold stepAtO
    rw [if_pos (there_mk r1 ok2 (by omega) r4), show ((p : Int) + s.1).toNat = p + s.1.toNat by omega]
    exact e1
/-! ### under a substitution -/
def undS (M : Nat → List Int) : List Int → List St → List St
  | _, [] => []
  | t, s :: ss => (((fillL M (t.take s.1.toNat)).length : Int), s.2.1, fillL M s.2.2) :: undS M s.2.2 ss
theorem und_len (M : Nat → List Int) : ∀ (t : List Int) (ss : List St), (undS M t ss).length = ss.length
  | _, [] => rfl
  | _, s :: ss => by rw [undS, List.length_cons, List.length_cons, und_len M _ ss]
theorem go_under {sg : List Int} {rs : List Rl} {M : Nat → List Int} (hM : ∀ i, termOkB sg (M i) = true) : ∀ {ss : List St} {t v : List Int}, goOn sg rs t ss = some v → (fillL M t).length ≤ 60 → (∀ s ∈ ss, (fillL M s.2.2).length ≤ 60) → goOn sg rs (fillL M t) (undS M t ss) = some (fillL M v)
  | [], t, v, h, _, _ => by injection h with h; subst h; rfl
  | s :: ss, t, v, h, h60, hs => by
    obtain ⟨h1, h2⟩ := go_cons.1 h
    obtain ⟨q1, q2⟩ := stepAt_parts h1
    obtain ⟨r1, r2, r3, r4⟩ := there_parts q1
    have g60 := hs s (List.mem_cons_self ..)
    obtain ⟨e1, e2⟩ := step_under (rl_ok r1 r4) r2 (show s.1.toNat < t.length by omega) q2 (fun y _ _ => hM (vr y)) h60 g60
    refine go_cons.2 ⟨?_, go_under hM h2 g60 fun u hu => hs u (List.mem_cons_of_mem _ hu)⟩
    show stepAtO sg rs (fillL M t) ((fillL M (t.take s.1.toNat)).length : Int) s.2.1 = some (fillL M s.2.2)
    unfold stepAtO
    rw [if_pos (there_mk r1 (fill_term r2 (fun y _ _ => hM _) h60) (by omega) r4), Int.toNat_natCast]
    exact e1
/-! ### all steps -/
theorem steps_mem {sg : List Int} {rs : List Rl} {t : List Int} {s : St} : s ∈ stepsL sg rs t ↔ ∃ a r : Nat, a < t.length ∧ r < rs.length ∧ s.1 = (a : Int) ∧ s.2.1 = (r : Int) ∧ stepO sg (rs.getD r ([], [])) t a = some s.2.2 := by
  unfold stepsL
  rw [List.mem_flatMap]
  constructor
  · rintro ⟨a, ha, h⟩
    obtain ⟨r, hr, h⟩ := List.mem_filterMap.1 h
    obtain ⟨v, hv, rfl⟩ := Option.map_eq_some_iff.1 h
    exact ⟨a, r, List.mem_range.1 ha, List.mem_range.1 hr, rfl, rfl, hv⟩
  · rintro ⟨a, r, ha, hr, e1, e2, h⟩
    refine ⟨a, List.mem_range.2 ha, List.mem_filterMap.2 ⟨r, List.mem_range.2 hr, ?_⟩⟩
    rw [h, Option.map_some, ← e1, ← e2]
theorem steps_at {sg : List Int} {rs : List Rl} {t : List Int} {s : St} (h1 : sysOkB sg rs = true) (h2 : termOkB sg t = true) (h : s ∈ stepsL sg rs t) : stepAtO sg rs t s.1 s.2.1 = some s.2.2 := by
  obtain ⟨a, r, ha, hr, e1, e2, e3⟩ := steps_mem.1 h
  unfold stepAtO
  rw [if_pos (there_mk h1 h2 (by omega) (by omega)), e1, e2, Int.toNat_natCast]
  unfold rl
  rw [Int.toNat_natCast]
  exact e3
theorem normal_none {sg : List Int} {rs : List Rl} {t : List Int} (h : normalB sg rs t = true) : stepsI sg rs t = [] := by
  unfold normalB at h
  rw [Bool.and_eq_true] at h
  obtain ⟨h1, h2⟩ := h
  unfold stepsI
  rw [if_pos h1, List.eq_nil_iff_forall_not_mem]
  intro s hs
  obtain ⟨a, r, ha, hr, -, -, e3⟩ := steps_mem.1 hs
  have h3 := List.all_eq_true.1 (List.all_eq_true.1 h2 a (List.mem_range.2 ha)) _ (rl_mem hr)
  unfold redB at h3
  unfold stepO at e3
  cases hm : mst sg (subL sg t a) (rs.getD r ([], [])).1 0 s0 with
  | none => rw [hm] at e3; cases e3
  | some ss => rw [hm] at h3; cases h3
end Go.Proofs.Ytfkgiimcnlagmaa.walkMath
end

section
/-
  WORDS FOR MEMORY OVER SHAPES: a value of any type that is made of int64, bool, slices and structs, reads as data ('Rd'); it and all that it reaches is the call's own ('Ow' with its blocks, 'Owned' between two blocks); how many numbers it holds ('sz'), the laws' marks ('cntv', 'mkv'). Conditions: none; plain lemmas. By an AI agent.
-/
namespace Go.Proofs.Ytfkgiimcnlagmaa.shape
open Go.RowKit Go.Proofs.Ytfkgiimcnlagmaa.base Go.Proofs.Ytfkgiimcnlagmaa.ints Go.Proofs.Ytfkgiimcnlagmaa.sig Go.Proofs.Ytfkgiimcnlagmaa.cursor Go.Proofs.Ytfkgiimcnlagmaa.marks Go.Proofs.Ytfkgiimcnlagmaa.app Go.Proofs.Ytfkgiimcnlagmaa.sym Go.Proofs.Ytfkgiimcnlagmaa.appAt Go.Proofs.Ytfkgiimcnlagmaa.segs Go.Proofs.Ytfkgiimcnlagmaa.segsHelp Go.Proofs.Ytfkgiimcnlagmaa.segsMark Go.Proofs.Ytfkgiimcnlagmaa.kinds

/-- a type's shape; a struct is its fields, one behind the other; 'row' names the elements' type -/
inductive Sh where
  | num : Sh
  | bit : Sh
  | row : TypeId → Sh → Sh
  | cat : Sh → Sh → Sh
@[reducible] def Dat : Sh → Type
  | .num => Int
  | .bit => Bool
  | .row _ s => List (Dat s)
  | .cat a b => Dat a × Dat b
/-- how many cells -/
def nc : Sh → Nat
  | .num => 1
  | .bit => 1
  | .row _ _ => 1
  | .cat a b => nc a + nc b
def dft : (s : Sh) → Dat s
  | .num => (0 : Int)
  | .bit => false
  | .row _ _ => []
  | .cat a b => (dft a, dft b)
/-- the cells es lie in block b from off on -/
def Piece (w : World) (b off : Nat) (es : List Value) : Prop := ∀ i, i < es.length → w.cell? ⟨b, off + i, none⟩ = es[i]?
theorem nc_pos : ∀ s : Sh, 1 ≤ nc s
  | .num => Nat.le_refl _
  | .bit => Nat.le_refl _
  | .row _ _ => Nat.le_refl _
  | .cat a b => Nat.le_trans (nc_pos a) (Nat.le_add_right _ _)

/-- the cells cs read as d; all blocks lie below B -/
def Rd (w : World) (B : Nat) : (s : Sh) → List Value → Dat s → Prop
  | .num, cs, (x : Int) => cs = [.int .i64 x]
  | .bit, cs, (x : Bool) => cs = [.bool x]
  | .row _ s, cs, (d : List (Dat s)) => ∃ A n c, cs = [.slice A n c] ∧ Cap A n c ∧ d.length = n ∧
      (0 < n → ∃ b off, A = some ⟨b, off, none⟩ ∧ b < B ∧ ∀ j, j < n → ∃ es, es.length = nc s ∧ Piece w b (off + j * nc s) es ∧ Rd w B s es (d.getD j (dft s)))
  | .cat a b, cs, d => ∃ ca cb, cs = ca ++ cb ∧ Rd w B a ca d.1 ∧ Rd w B b cb d.2

/-- the cells cs read as d, and all that they reach is the call's own: it lies in the blocks F -/
def Ow (w : World) : (s : Sh) → List Value → Dat s → List Nat → Prop
  | .num, cs, (x : Int), F => cs = [.int .i64 x] ∧ F = []
  | .bit, cs, (x : Bool), F => cs = [.bool x] ∧ F = []
  | .row e s, cs, (d : List (Dat s)), F => ∃ A n c, cs = [.slice A n c] ∧ d.length = n ∧
      ((A = none ∧ n = 0 ∧ c = 0 ∧ F = []) ∨ ∃ (g : Nat) (cur : Array Value) (E : Nat → List Value) (G : Nat → List Nat), A = some ⟨g, 0, none⟩ ∧ Row w g e cur ∧ n ≤ c ∧ c ≤ 9223372036854775807 ∧ cur.size = c * nc s ∧
        F = g :: (List.range n).flatMap G ∧ ∀ j, j < n → (E j).length = nc s ∧ (∀ i, i < nc s → cur[j * nc s + i]? = (E j)[i]?) ∧ Ow w s (E j) (d.getD j (dft s)) (G j))
  | .cat a b, cs, d, F => ∃ ca cb Fa Fb, cs = ca ++ cb ∧ F = Fa ++ Fb ∧ Ow w a ca d.1 Fa ∧ Ow w b cb d.2 Fb

section
variable {w w' : World} {B B' : Nat}
theorem Rd.len : ∀ {s : Sh} {cs : List Value} {d : Dat s}, Rd w B s cs d → cs.length = nc s
  | .num, _, _, h => by have h : _ = _ := h; rw [h]; rfl
  | .bit, _, _, h => by have h : _ = _ := h; rw [h]; rfl
  | .row _ _, _, _, h => by obtain ⟨A, n, c, e, _⟩ := h; rw [e]; rfl
  | .cat a b, _, _, h => by
    obtain ⟨ca, cb, e, h1, h2⟩ := h
    rw [e, List.length_append, h1.len, h2.len]; rfl
theorem Piece.keep {b off : Nat} {es : List Value} (h : Piece w b off es) (hk : ∀ p : Addr, p.block = b → w'.cell? p = w.cell? p) : Piece w' b off es := fun i hi => (hk _ rfl).trans (h i hi)
theorem Rd.keep (hk : ∀ p : Addr, p.block < B → w'.cell? p = w.cell? p) : ∀ {s : Sh} {cs : List Value} {d : Dat s}, Rd w B s cs d → Rd w' B s cs d
  | .num, _, _, h => h
  | .bit, _, _, h => h
  | .row _ s, _, _, h => by
    obtain ⟨A, n, c, e, hc, hl, h1⟩ := h
    refine ⟨A, n, c, e, hc, hl, fun hn => ?_⟩
    obtain ⟨b, off, e2, hb, h2⟩ := h1 hn
    refine ⟨b, off, e2, hb, fun j hj => ?_⟩
    obtain ⟨es, he, hp, hr⟩ := h2 j hj
    exact ⟨es, he, hp.keep (fun p hp => hk p (by rw [hp]; exact hb)), hr.keep hk⟩
  | .cat a b, _, _, h => by
    obtain ⟨ca, cb, e, h1, h2⟩ := h
    exact ⟨ca, cb, e, h1.keep hk, h2.keep hk⟩
theorem Rd.more (hB : B ≤ B') : ∀ {s : Sh} {cs : List Value} {d : Dat s}, Rd w B s cs d → Rd w B' s cs d
  | .num, _, _, h => h
  | .bit, _, _, h => h
  | .row _ s, _, _, h => by
    obtain ⟨A, n, c, e, hc, hl, h1⟩ := h
    refine ⟨A, n, c, e, hc, hl, fun hn => ?_⟩
    obtain ⟨b, off, e2, hb, h2⟩ := h1 hn
    refine ⟨b, off, e2, by omega, fun j hj => ?_⟩
    obtain ⟨es, he, hp, hr⟩ := h2 j hj
    exact ⟨es, he, hp, hr.more hB⟩
  | .cat a b, _, _, h => by
    obtain ⟨ca, cb, e, h1, h2⟩ := h
    exact ⟨ca, cb, e, h1.more hB, h2.more hB⟩
theorem Rd.below {s : Sh} {cs : List Value} {d : Dat s} (h : Rd w B s cs d) (hb : Below B w w') : Rd w' B s cs d := h.keep fun _ hp => hb.cell hp
theorem Rd.next {s : Sh} {cs : List Value} {d : Dat s} (h : Rd w w.heap.size s cs d) (hb : Below w.heap.size w w') : Rd w' w'.heap.size s cs d := (h.below hb).more hb.size

theorem Ow.len : ∀ {s : Sh} {cs : List Value} {d : Dat s} {F : List Nat}, Ow w s cs d F → cs.length = nc s
  | .num, _, _, _, h => by obtain ⟨e, _⟩ := h; rw [e]; rfl
  | .bit, _, _, _, h => by obtain ⟨e, _⟩ := h; rw [e]; rfl
  | .row _ _, _, _, _, h => by obtain ⟨A, n, c, e, _⟩ := h; rw [e]; rfl
  | .cat a b, _, _, _, h => by
    obtain ⟨ca, cb, Fa, Fb, e, _, h1, h2⟩ := h
    rw [e, List.length_append, h1.len, h2.len]; rfl
theorem Ow.keep : ∀ {s : Sh} {cs : List Value} {d : Dat s} {F : List Nat}, Ow w s cs d F → (∀ k ∈ F, w'.heap[k]? = w.heap[k]?) → Ow w' s cs d F
  | .num, _, _, _, h, _ => h
  | .bit, _, _, _, h, _ => h
  | .row e s, _, _, F, h, hk => by
    obtain ⟨A, n, c, e1, hl, h1⟩ := h
    refine ⟨A, n, c, e1, hl, ?_⟩
    rcases h1 with h1 | ⟨g, cur, E, G, e2, hr, h2, h3, h4, h5, h6⟩
    · exact .inl h1
    · subst h5
      refine .inr ⟨g, cur, E, G, e2, (hk g (List.mem_cons_self ..)).trans hr, h2, h3, h4, rfl, fun j hj => ?_⟩
      obtain ⟨q1, q2, q3⟩ := h6 j hj
      exact ⟨q1, q2, q3.keep fun k hkG => hk k (List.mem_cons_of_mem _ (List.mem_flatMap.2 ⟨j, List.mem_range.2 hj, hkG⟩))⟩
  | .cat a b, _, _, F, h, hk => by
    obtain ⟨ca, cb, Fa, Fb, e, e2, h1, h2⟩ := h
    subst e2
    exact ⟨ca, cb, Fa, Fb, e, rfl, h1.keep fun k h => hk k (List.mem_append_left _ h), h2.keep fun k h => hk k (List.mem_append_right _ h)⟩
theorem Ow.lt : ∀ {s : Sh} {cs : List Value} {d : Dat s} {F : List Nat}, Ow w s cs d F → ∀ k ∈ F, k < w.heap.size
  | .num, _, _, _, h, k, hk => by obtain ⟨_, e⟩ := h; rw [e] at hk; cases hk
  | .bit, _, _, _, h, k, hk => by obtain ⟨_, e⟩ := h; rw [e] at hk; cases hk
  | .row e s, _, _, F, h, k, hk => by
    obtain ⟨A, n, c, e1, hl, h1⟩ := h
    rcases h1 with ⟨_, _, _, h1⟩ | ⟨g, cur, E, G, e2, hr, h2, h3, h4, h5, h6⟩
    · rw [h1] at hk; cases hk
    · rw [h5] at hk
      rcases List.mem_cons.1 hk with hk | hk
      · rw [hk]; exact hr.lt
      · obtain ⟨j, hj, hk⟩ := List.mem_flatMap.1 hk
        exact (h6 j (List.mem_range.1 hj)).2.2.lt k hk
  | .cat a b, _, _, F, h, k, hk => by
    obtain ⟨ca, cb, Fa, Fb, e, e2, h1, h2⟩ := h
    rw [e2] at hk
    rcases List.mem_append.1 hk with hk | hk
    · exact h1.lt k hk
    · exact h2.lt k hk
theorem Ow.next {s : Sh} {cs : List Value} {d : Dat s} {F : List Nat} (h : Ow w s cs d F) (hb : Below w.heap.size w w') : Ow w' s cs d F := h.keep fun k hk => hb.block k (h.lt k hk)
theorem Ow.rd : ∀ {s : Sh} {cs : List Value} {d : Dat s} {F : List Nat}, Ow w s cs d F → Rd w w.heap.size s cs d
  | .num, _, _, _, h => h.1
  | .bit, _, _, _, h => h.1
  | .row e s, _, _, F, h => by
    obtain ⟨A, n, c, e1, hl, h1⟩ := h
    rcases h1 with ⟨rfl, rfl, rfl, _⟩ | ⟨g, cur, E, G, e2, hr, h2, h3, h4, h5, h6⟩
    · exact ⟨none, 0, 0, e1, ⟨by omega, by omega, fun _ => rfl⟩, hl, fun h => absurd h (by omega)⟩
    · refine ⟨A, n, c, e1, ⟨h2, h3, fun e => by rw [e] at e2; cases e2⟩, hl, fun hn => ⟨g, 0, e2, hr.lt, fun j hj => ?_⟩⟩
      obtain ⟨q1, q2, q3⟩ := h6 j hj
      refine ⟨E j, q1, fun i hi => ?_, q3.rd⟩
      rw [Nat.zero_add, hr.cell, q2 i (by omega)]
  | .cat a b, _, _, F, h => by
    obtain ⟨ca, cb, Fa, Fb, e, e2, h1, h2⟩ := h
    exact ⟨ca, cb, e, h1.rd, h2.rd⟩

/-! ### the call's own, in blocks from lo on and below hi -/
def Owned (w : World) (lo hi : Nat) (s : Sh) (cs : List Value) (d : Dat s) : Prop := ∃ F, Ow w s cs d F ∧ F.Nodup ∧ ∀ k ∈ F, lo ≤ k ∧ k < hi
variable {lo hi : Nat} {s : Sh} {cs : List Value} {d : Dat s}
theorem Owned.rd (h : Owned w lo hi s cs d) : Rd w w.heap.size s cs d := by obtain ⟨F, h, _⟩ := h; exact h.rd
theorem Owned.next (h : Owned w lo hi s cs d) (hb : Below w.heap.size w w') : Owned w' lo hi s cs d := by obtain ⟨F, h, h2⟩ := h; exact ⟨F, h.next hb, h2⟩
theorem Owned.drew (h : Owned w lo hi s cs d) : Owned w.drew lo hi s cs d := h.next (drew_below w)
theorem Owned.drewN (h : Owned w lo hi s cs d) (k : Nat) : Owned (w.drewN k) lo hi s cs d := h.next (drewN_below w k)
theorem Owned.wider {lo' hi' : Nat} (h : Owned w lo hi s cs d) (h1 : lo' ≤ lo) (h2 : hi ≤ hi') : Owned w lo' hi' s cs d := by
  obtain ⟨F, h, h3, h4⟩ := h
  exact ⟨F, h, h3, fun k hk => by have := h4 k hk; omega⟩
theorem Owned.btw {lo' hi' : Nat} (h : Owned w lo hi s cs d) (hb : Btw lo' hi' w w') (ho : hi ≤ lo' ∨ hi' ≤ lo) : Owned w' lo hi s cs d := by
  obtain ⟨F, h, h3, h4⟩ := h
  exact ⟨F, h.keep fun k hk => hb.block k (h.lt k hk) (by have := h4 k hk; omega), h3, h4⟩
theorem Owned.put {g i : Nat} {u : Value} (h : Owned w lo hi s cs d) (hg : g < lo ∨ hi ≤ g) : Owned (w.setCell ⟨g, i, none⟩ u) lo hi s cs d := by
  obtain ⟨F, h, h3, h4⟩ := h
  exact ⟨F, h.keep fun k hk => Below.heap_setCell w _ u k (by have := h4 k hk; show k ≠ g; omega), h3, h4⟩
theorem Owned.cat {mid mid' : Nat} {a b : Sh} {ca cb : List Value} {da : Dat a} {db : Dat b} (h1 : Owned w lo mid a ca da) (h2 : Owned w mid' hi b cb db) (hm : mid ≤ mid') (hl : lo ≤ mid') (hh : mid ≤ hi) : Owned w lo hi (.cat a b) (ca ++ cb) (da, db) := by
  obtain ⟨F, h1, n1, b1⟩ := h1
  obtain ⟨G, h2, n2, b2⟩ := h2
  refine ⟨F ++ G, ⟨ca, cb, F, G, rfl, rfl, h1, h2⟩, List.nodup_append.2 ⟨n1, n2, fun x hx y hy e => ?_⟩, fun k hk => ?_⟩
  · have := b1 x hx; have := b2 y hy; omega
  · rcases List.mem_append.1 hk with hk | hk
    · have := b1 k hk; omega
    · have := b2 k hk; omega
end

/-! ### slices of int64 -/
abbrev sI : Sh := .row 2 .num
section
variable {w w' : World} {B : Nat}
theorem rd_ints {v : Value} {xs : List Int} : Rd w B sI [v] xs ↔ ∃ A n c, v = .slice A n c ∧ Seg w B A n xs ∧ Cap A n c := by
  constructor
  · rintro ⟨A, n, c, e, hc, hl, h⟩
    refine ⟨A, n, c, by injection e, ⟨hl, fun hn => ?_⟩, hc⟩
    obtain ⟨b, off, e2, hb, h2⟩ := h hn
    refine ⟨b, off, e2, hb, fun j hj => ?_⟩
    obtain ⟨es, he, hp, hr⟩ := h2 j hj
    have hr : es = [.int .i64 (xs.getD j 0)] := hr
    have := hp 0 (by rw [hr]; simp)
    rw [hr] at this
    simpa [nc] using this
  · rintro ⟨A, n, c, rfl, h, hc⟩
    refine ⟨A, n, c, rfl, hc, h.1, fun hn => ?_⟩
    obtain ⟨b, off, e2, hb, h2⟩ := h.2 hn
    refine ⟨b, off, e2, hb, fun j hj => ⟨[.int .i64 (xs.getD j 0)], rfl, fun i hi => ?_, rfl⟩⟩
    have hi : i = 0 := by simpa using hi
    subst hi
    simpa [nc] using h2 j hj
theorem Rd.seg {A : Option Addr} {n c : Nat} {xs : List Int} (h : Rd w B sI [.slice A n c] xs) : Seg w B A n xs := by
  obtain ⟨A', n', c', e, h, _⟩ := rd_ints.1 h
  injection e with e1 e2 e3
  subst e1 e2
  exact h
theorem ow_ints {lo hi : Nat} {A : Option Addr} {n c : Nat} {xs : List Int} : Owned w lo hi sI [.slice A n c] xs ↔ Ownd w lo hi A n c xs := by
  constructor
  · rintro ⟨F, ⟨A', n', c', e, hl, h⟩, _, hb⟩
    injection e with e
    injection e with e1 e2 e3
    subst e1 e2 e3
    rcases h with ⟨rfl, rfl, rfl, rfl⟩ | ⟨g, cur, E, G, rfl, hr, h2, h3, h4, rfl, h6⟩
    · have hx : xs = [] := List.eq_nil_of_length_eq_zero hl
      subst hx
      exact ⟨Own.nil _ _, fun k hk => by cases hk⟩
    · have hg := hb g (List.mem_cons_self ..)
      refine ⟨Own.of_row hr hl (by simpa [nc] using h4) h2 h3 hg.1 fun j hj => ?_, fun k hk => by have : g = k := Option.some.inj hk; omega⟩
      obtain ⟨q1, q2, q3⟩ := h6 j hj
      have q3 : E j = [.int .i64 (xs.getD j 0)] := q3.1
      have := q2 0 (by simp [nc])
      rw [q3] at this
      simpa [nc] using this
  · rintro ⟨ho, hb⟩
    have hl := Own.len ho
    rcases own_form (n := n) (vs := xs.map (Value.int .i64)) (by rw [hl]; rw [hl] at ho; exact ho) with ⟨rfl, h1, rfl, _⟩ | ⟨g, cur, rfl, hlo, hr, h1, h2, h3, _, h5⟩
    · subst h1
      exact ⟨[], ⟨none, 0, 0, rfl, hl.symm, .inl ⟨rfl, rfl, rfl, rfl⟩⟩, List.nodup_nil, fun k hk => by cases hk⟩
    · have hg := hb g rfl
      refine ⟨[g], ⟨some ⟨g, 0, none⟩, n, c, rfl, hl.symm, .inr ⟨g, cur, fun j => [.int .i64 (xs.getD j 0)], fun _ => [], rfl, hr, h1, h3, by simp [nc, h2], ?_, fun j hj => ⟨rfl, fun i hi => ?_, rfl, rfl⟩⟩⟩, by simp, fun k hk => ?_⟩
      · have : ∀ l : List Nat, l.flatMap (fun _ => ([] : List Nat)) = [] := fun l => by induction l <;> simp_all
        rw [this]
      · have hi : i = 0 := by simpa [nc] using hi
        subst hi
        have := h5 j hj
        simp only [nc, Nat.mul_one, Nat.add_zero]
        rw [this]
        have hj' : j < xs.length := by omega
        simp [List.getD, hj']
      · rw [List.mem_singleton.1 hk]; exact ⟨hlo, hg⟩
end

/-! ### how many numbers -/
def sz : (s : Sh) → Dat s → Nat
  | .num, _ => 0
  | .bit, _ => 0
  | .row _ s, (d : List (Dat s)) => d.length + (d.map (sz s)).sum
  | .cat a b, d => sz a d.1 + sz b d.2
/-- the first k elements of a slice -/
def szs (s : Sh) (d : List (Dat s)) (k : Nat) : Nat := ((d.take k).map (sz s)).sum
theorem szs_succ {s : Sh} {d : List (Dat s)} {k : Nat} (h : k < d.length) : szs s d (k + 1) = szs s d k + sz s (d.getD k (dft s)) := by
  unfold szs
  rw [List.take_succ_eq_append_getElem h, List.map_append, List.sum_append]
  simp [List.getD, h]
theorem szs_mono {s : Sh} {d : List (Dat s)} : ∀ {k m : Nat}, k ≤ m → m ≤ d.length → szs s d k ≤ szs s d m
  | k, 0, h, _ => by rw [show k = 0 by omega]; exact Nat.le_refl _
  | k, m + 1, h, hm => by
    by_cases e : k = m + 1
    · rw [e]; exact Nat.le_refl _
    · have := szs_mono (d := d) (show k ≤ m by omega) (by omega)
      rw [szs_succ (by omega)]
      omega
theorem szs_all {s : Sh} {d : List (Dat s)} {n : Nat} (h : d.length = n) : szs s d n = (d.map (sz s)).sum := by unfold szs; rw [List.take_of_length_le (by omega)]
theorem sz_row {e : TypeId} {s : Sh} {d : List (Dat s)} : sz (.row e s) d = d.length + szs s d d.length := by rw [szs_all rfl]; rfl
theorem sz_each {e : TypeId} {s : Sh} {d : List (Dat s)} {L : Nat} (h : sz (.row e s) d ≤ L) {j : Nat} (hj : j < d.length) : sz s (d.getD j (dft s)) ≤ L := by
  have h1 := szs_succ hj
  have h2 := szs_mono (d := d) (show j + 1 ≤ d.length by omega) (Nat.le_refl _)
  rw [sz_row] at h
  omega
theorem sz_len {e : TypeId} {s : Sh} {d : List (Dat s)} {L : Nat} (h : sz (.row e s) d ≤ L) : d.length ≤ L := by rw [sz_row] at h; omega
theorem sz_ints (xs : List Int) : sz sI xs = xs.length := by
  have : ∀ l : List Int, (l.map (sz .num)).sum = 0 := fun l => by induction l <;> simp_all [sz]
  show xs.length + (xs.map (sz .num)).sum = _
  rw [this]; rfl

/-! ### marks -/
/-- how many numbers are marked in cells -/
def cnt : (s : Sh) → Dat s → Nat
  | .num, _ => 1
  | .bit, _ => 1
  | .row _ s, (d : List (Dat s)) => (d.map (cnt s)).sum
  | .cat a b, d => cnt a d.1 + cnt b d.2
/-- how many are marked behind a value -/
def cntv : (s : Sh) → Dat s → Nat
  | .num, _ => 0
  | .bit, _ => 0
  | .row _ s, (d : List (Dat s)) => (d.map (cnt s)).sum
  | .cat a b, d => cntv a d.1 + cntv b d.2
def cnts (s : Sh) (d : List (Dat s)) (k : Nat) : Nat := ((d.take k).map (cnt s)).sum
theorem cnts_succ {s : Sh} {d : List (Dat s)} {k : Nat} (h : k < d.length) : cnts s d (k + 1) = cnts s d k + cnt s (d.getD k (dft s)) := by
  unfold cnts
  rw [List.take_succ_eq_append_getElem h, List.map_append, List.sum_append]
  simp [List.getD, h]
theorem cnts_zero {s : Sh} {d : List (Dat s)} : cnts s d 0 = 0 := rfl
theorem cnts_mono {s : Sh} {d : List (Dat s)} : ∀ {k m : Nat}, k ≤ m → m ≤ d.length → cnts s d k ≤ cnts s d m
  | k, 0, h, _ => by rw [show k = 0 by omega]; exact Nat.le_refl _
  | k, m + 1, h, hm => by
    by_cases e : k = m + 1
    · rw [e]; exact Nat.le_refl _
    · have := cnts_mono (d := d) (show k ≤ m by omega) (by omega)
      rw [cnts_succ (by omega)]
      omega
theorem cnts_all {s : Sh} {d : List (Dat s)} {n : Nat} (h : d.length = n) : cnts s d n = (d.map (cnt s)).sum := by unfold cnts; rw [List.take_of_length_le (by omega)]
def mkc : (s : Sh) → Int → Dat s → Dat s
  | .num, k, _ => k
  | .bit, k, _ => decide (k % 3 = 0)
  | .row _ s, k, (d : List (Dat s)) => (List.range d.length).map fun j => mkc s (k + (cnts s d j : Int)) (d.getD j (dft s))
  | .cat a b, k, d => (mkc a k d.1, mkc b (k + (cnt a d.1 : Int)) d.2)
def mkv : (s : Sh) → Int → Dat s → Dat s
  | .num, _, d => d
  | .bit, _, d => d
  | .row _ s, k, (d : List (Dat s)) => (List.range d.length).map fun j => mkc s (k + (cnts s d j : Int)) (d.getD j (dft s))
  | .cat a b, k, d => (mkv a k d.1, mkv b (k + (cntv a d.1 : Int)) d.2)
theorem mk_len {e : TypeId} {s : Sh} {k : Int} {d : List (Dat s)} : List.length (mkv (.row e s) k d : List (Dat s)) = d.length := by
  show ((List.range d.length).map _).length = _
  simp
theorem mk_get {e : TypeId} {s : Sh} {k : Int} {d : List (Dat s)} {j : Nat} (h : j < d.length) : (mkv (.row e s) k d : List (Dat s)).getD j (dft s) = mkc s (k + (cnts s d j : Int)) (d.getD j (dft s)) := by
  show ((List.range d.length).map _).getD j _ = _
  simp [List.getD, h]
theorem cnt_ints : ∀ xs : List Int, (xs.map (cnt .num)).sum = xs.length
  | [] => rfl
  | x :: xs => by rw [List.map_cons, List.sum_cons, cnt_ints xs, List.length_cons]; show 1 + xs.length = _; omega
theorem cnts_ints (xs : List Int) {j : Nat} (h : j ≤ xs.length) : cnts .num xs j = j := by
  unfold cnts
  rw [cnt_ints, List.length_take]
  omega
theorem mk_ints (k : Int) (xs : List Int) : mkv sI k xs = marks k xs.length := by
  show (List.range xs.length).map _ = (List.range xs.length).map _
  refine List.map_congr_left fun j hj => ?_
  show k + ((cnts .num xs j : Nat) : Int) = k + (j : Int)
  rw [cnts_ints xs (Nat.le_of_lt (List.mem_range.1 hj))]
/-- how many fields at most -/
def wd : Sh → Nat
  | .num => 1
  | .bit => 1
  | .row _ s => wd s
  | .cat a b => wd a + wd b
theorem sum_le {α : Type} {f g : α → Nat} {C : Nat} : ∀ {l : List α}, (∀ x ∈ l, f x ≤ C * (1 + g x)) → (l.map f).sum ≤ C * (l.length + (l.map g).sum)
  | [], _ => Nat.zero_le _
  | x :: l, h => by
    have h1 := h x (List.mem_cons_self ..)
    have h2 := sum_le (l := l) fun y hy => h y (List.mem_cons_of_mem _ hy)
    simp only [List.map_cons, List.sum_cons, List.length_cons]
    have e : C * (l.length + 1 + (g x + (l.map g).sum)) = C * (1 + g x) + C * (l.length + (l.map g).sum) := by rw [← Nat.mul_add]; congr 1; omega
    omega
theorem cnt_le : ∀ (s : Sh) (d : Dat s), cnt s d ≤ wd s * (1 + sz s d)
  | .num, _ => by simp [cnt, wd]
  | .bit, _ => by simp [cnt, wd]
  | .row _ s, (d : List (Dat s)) => by
    have h := sum_le (f := cnt s) (g := sz s) (C := wd s) (l := d) fun x _ => cnt_le s x
    show (d.map (cnt s)).sum ≤ wd s * (1 + (d.length + (d.map (sz s)).sum))
    have : wd s * (d.length + (d.map (sz s)).sum) ≤ wd s * (1 + (d.length + (d.map (sz s)).sum)) := Nat.mul_le_mul_left _ (by omega)
    omega
  | .cat a b, d => by
    have h1 := cnt_le a d.1
    have h2 := cnt_le b d.2
    show cnt a d.1 + cnt b d.2 ≤ (wd a + wd b) * (1 + (sz a d.1 + sz b d.2))
    have h3 : wd a * (1 + sz a d.1) ≤ wd a * (1 + (sz a d.1 + sz b d.2)) := Nat.mul_le_mul_left _ (by omega)
    have h4 : wd b * (1 + sz b d.2) ≤ wd b * (1 + (sz a d.1 + sz b d.2)) := Nat.mul_le_mul_left _ (by omega)
    rw [Nat.add_mul]
    omega
theorem cntv_le : ∀ (s : Sh) (d : Dat s), cntv s d ≤ wd s * sz s d
  | .num, _ => Nat.zero_le _
  | .bit, _ => Nat.zero_le _
  | .row _ s, (d : List (Dat s)) => sum_le (f := cnt s) (g := sz s) (C := wd s) (l := d) fun x _ => cnt_le s x
  | .cat a b, d => by
    have h1 := cntv_le a d.1
    have h2 := cntv_le b d.2
    show cntv a d.1 + cntv b d.2 ≤ (wd a + wd b) * (sz a d.1 + sz b d.2)
    have h3 : wd a * sz a d.1 ≤ wd a * (sz a d.1 + sz b d.2) := Nat.mul_le_mul_left _ (by omega)
    have h4 : wd b * sz b d.2 ≤ wd b * (sz a d.1 + sz b d.2) := Nat.mul_le_mul_left _ (by omega)
    rw [Nat.add_mul]
    omega
end Go.Proofs.Ytfkgiimcnlagmaa.shape
end

section
/-
  SHAPES, the steps of the laws' helpers: an element of a slice, a slice that is being copied, an element that turns, the forms of the contracts. Conditions: none; plain lemmas. By an AI agent.
-/
namespace Go.Proofs.Ytfkgiimcnlagmaa.shape
open Go.RowKit Go.Proofs.Ytfkgiimcnlagmaa.base Go.Proofs.Ytfkgiimcnlagmaa.ints Go.Proofs.Ytfkgiimcnlagmaa.sig Go.Proofs.Ytfkgiimcnlagmaa.cursor Go.Proofs.Ytfkgiimcnlagmaa.marks Go.Proofs.Ytfkgiimcnlagmaa.app Go.Proofs.Ytfkgiimcnlagmaa.sym Go.Proofs.Ytfkgiimcnlagmaa.appAt Go.Proofs.Ytfkgiimcnlagmaa.segs Go.Proofs.Ytfkgiimcnlagmaa.segsHelp Go.Proofs.Ytfkgiimcnlagmaa.segsMark Go.Proofs.Ytfkgiimcnlagmaa.kinds

/-- only the blocks F, and what is new, have turned -/
structure Only (F : List Nat) (w w' : World) : Prop where
  os : w'.os = w.os
  tape : w'.tape = w.tape
  output : w'.output = w.output
  size : w.heap.size ≤ w'.heap.size
  block : ∀ k, k < w.heap.size → k ∉ F → w'.heap[k]? = w.heap[k]?
section
variable {w w' w2 : World} {B : Nat} {s : Sh} {e : TypeId} {v : Value} {F G : List Nat}
theorem Only.refl (F : List Nat) (w : World) : Only F w w := ⟨rfl, rfl, rfl, Nat.le_refl _, fun _ _ _ => rfl⟩
theorem Only.of_below (h : Below w.heap.size w w') : Only F w w' := ⟨h.os, h.tape, h.output, h.size, fun k hk _ => h.block k hk⟩
theorem Only.trans (h : Only F w w') (k : Only F w' w2) : Only F w w2 :=
  ⟨k.os.trans h.os, k.tape.trans h.tape, k.output.trans h.output, Nat.le_trans h.size k.size, fun i hi ho => (k.block i (Nat.lt_of_lt_of_le hi h.size) ho).trans (h.block i hi ho)⟩
theorem Only.wider (h : Only F w w') (hF : ∀ k ∈ F, k ∈ G) : Only G w w' := ⟨h.os, h.tape, h.output, h.size, fun k hk ho => h.block k hk fun hk2 => ho (hF k hk2)⟩
theorem Only.btw {lo hi : Nat} (h : Only F w w') (hF : ∀ k ∈ F, lo ≤ k ∧ k < hi) : Btw lo hi w w' := ⟨h.os, h.tape, h.output, h.size, fun k hk ho => h.block k hk fun hk2 => by have := hF k hk2; omega⟩
theorem Only.put {g i : Nat} {u : Value} (hg : g ∈ F) : Only F w (w.setCell ⟨g, i, none⟩ u) :=
  ⟨rfl, rfl, rfl, by simp, fun k _ hk => Below.heap_setCell w _ u k (fun e => by
    have e : k = g := e
    rw [e] at hk
    exact hk hg)⟩
theorem Ow.only {cs : List Value} {d : Dat s} (h : Ow w s cs d F) (ho : Only G w w') (hd : ∀ k ∈ F, k ∉ G) : Ow w' s cs d F := h.keep fun k hk => ho.block k (h.lt k hk) (hd k hk)

/-- an element of a slice -/
theorem Rd.elem {D : List (Dat s)} {j : Nat} (h : Rd w B (.row e s) [v] D) (hj : j < D.length) : ∃ b off n c es, v = .slice (some ⟨b, off, none⟩) n c ∧ D.length = n ∧ n ≤ c ∧ b < B ∧ es.length = nc s ∧ Piece w b (off + j * nc s) es ∧ Rd w B s es (D.getD j (dft s)) := by
  obtain ⟨A, n, c, e1, hc, hl, h1⟩ := h
  injection e1 with e1
  subst hl
  obtain ⟨b, off, e2, hb, h2⟩ := h1 (by omega)
  obtain ⟨es, he, hp, hr⟩ := h2 j hj
  exact ⟨b, off, _, c, es, by rw [e1, e2], rfl, hc.1, hb, he, hp, hr⟩
theorem Rd.slice {D : List (Dat s)} (h : Rd w B (.row e s) [v] D) : ∃ A c, v = .slice A D.length c ∧ Cap A D.length c := by
  obtain ⟨A, n, c, e1, hc, hl, h1⟩ := h
  injection e1 with e1
  subst hl
  exact ⟨A, c, e1, hc⟩
theorem rd_cat {a b : Sh} {cs : List Value} {x : Dat a} {y : Dat b} (h : Rd w B (.cat a b) cs (x, y)) : ∃ ca cb, cs = ca ++ cb ∧ ca.length = nc a ∧ cb.length = nc b ∧ Rd w B a ca x ∧ Rd w B b cb y := by
  obtain ⟨ca, cb, e, h1, h2⟩ := h
  exact ⟨ca, cb, e, h1.len, h2.len, h1, h2⟩
theorem ow_cat {a b : Sh} {cs : List Value} {d : Dat (.cat a b)} (h : Ow w (.cat a b) cs d F) : ∃ ca cb Fa Fb, cs = ca ++ cb ∧ F = Fa ++ Fb ∧ ca.length = nc a ∧ cb.length = nc b ∧ Ow w a ca d.1 Fa ∧ Ow w b cb d.2 Fb := by
  obtain ⟨ca, cb, Fa, Fb, e, e2, h1, h2⟩ := h
  exact ⟨ca, cb, Fa, Fb, e, e2, h1.len, h2.len, h1, h2⟩

theorem nodup_flat {G : Nat → List Nat} {n : Nat} (h : ((List.range n).flatMap G).Nodup) {i j : Nat} (hi : i < n) (hj : j < n) (hne : i ≠ j) {k : Nat} (hk : k ∈ G i) : k ∉ G j := by
  induction n with
  | zero => omega
  | succ n ih =>
    rw [List.range_succ, List.flatMap_append, List.nodup_append] at h
    obtain ⟨h1, _, h3⟩ := h
    intro hk2
    by_cases e1 : i = n
    · subst e1
      exact h3 k (List.mem_flatMap.2 ⟨j, List.mem_range.2 (by omega), hk2⟩) k (by simpa using hk) rfl
    · by_cases e2 : j = n
      · subst e2
        exact h3 k (List.mem_flatMap.2 ⟨i, List.mem_range.2 (by omega), hk⟩) k (by simpa using hk2) rfl
      · exact ih h1 (by omega) (by omega) hk2
theorem nodup_part {G : Nat → List Nat} {n : Nat} (h : ((List.range n).flatMap G).Nodup) {j : Nat} (hj : j < n) : (G j).Nodup := by
  induction n with
  | zero => omega
  | succ n ih =>
    rw [List.range_succ, List.flatMap_append, List.nodup_append] at h
    obtain ⟨h1, h2, h3⟩ := h
    by_cases e : j = n
    · subst e; simpa using h2
    · exact ih h1 (by omega)

/-- an element of a slice of the call's own, and what becomes of the slice when the element turns -/
theorem Ow.elem {D : List (Dat s)} {j : Nat} (h : Ow w (.row e s) [v] D F) (hF : F.Nodup) (hj : j < D.length) :
    ∃ g n c es Gj, v = .slice (some ⟨g, 0, none⟩) n c ∧ D.length = n ∧ es.length = nc s ∧ Piece w g (j * nc s) es ∧ (∀ i, w.frozen? ⟨g, i, none⟩ = false) ∧ Ow w s es (D.getD j (dft s)) Gj ∧ g ∈ F ∧ Gj.Nodup ∧ g ∉ Gj ∧ (∀ k ∈ Gj, k ∈ F) ∧
      ∀ (w2 : World) (es2 : List Value) (d2 : Dat s), es2.length = nc s → Piece w2 g (j * nc s) es2 → Ow w2 s es2 d2 Gj → Only (g :: Gj) w w2 →
        (∀ cur, Row w g e cur → ∃ cur2, Row w2 g e cur2 ∧ cur2.size = cur.size ∧ ∀ q, (q < j * nc s ∨ j * nc s + nc s ≤ q) → cur2[q]? = cur[q]?) → Ow w2 (.row e s) [v] (D.set j d2) F := by
  obtain ⟨A, n, c, e1, hl, h1⟩ := h
  injection e1 with e1
  rcases h1 with ⟨_, e2, _⟩ | ⟨g, cur, E, G, e2, hr, h2, h3, h4, h5, h6⟩
  · omega
  subst e1 e2 h5
  rw [List.nodup_cons] at hF
  obtain ⟨q1, q2, q3⟩ := h6 j (by omega)
  refine ⟨g, n, c, E j, G j, rfl, hl, q1, fun i hi => by rw [hr.cell]; exact q2 i (by omega), fun i => hr.free i, q3, List.mem_cons_self .., nodup_part hF.2 (by omega), fun hg => hF.1 (List.mem_flatMap.2 ⟨j, List.mem_range.2 (by omega), hg⟩),
    fun k hk => List.mem_cons_of_mem _ (List.mem_flatMap.2 ⟨j, List.mem_range.2 (by omega), hk⟩), fun w2 es2 d2 hl2 hp2 ho2 hon hcur => ?_⟩
  obtain ⟨cur2, hr2, hs2, hc2⟩ := hcur cur hr
  refine ⟨_, n, c, rfl, by simpa using hl, .inr ⟨g, cur2, fun i => if i = j then es2 else E i, G, rfl, hr2, h2, h3, by rw [hs2]; exact h4, rfl, fun i hi => ?_⟩⟩
  by_cases ei : i = j
  · subst ei
    dsimp only
    rw [if_pos rfl]
    refine ⟨hl2, fun q hq => by rw [← hr2.cell, hp2 q (by omega)], ?_⟩
    have : (D.set i d2).getD i (dft s) = d2 := by simp [List.getD, hj]
    rw [this]; exact ho2
  · dsimp only
    rw [if_neg ei]
    obtain ⟨p1, p2, p3⟩ := h6 i hi
    refine ⟨p1, fun q hq => ?_, ?_⟩
    · have : i * nc s + q < j * nc s ∨ j * nc s + nc s ≤ i * nc s + q := by
        rcases Nat.lt_or_ge i j with h | h
        · left
          have := Nat.mul_le_mul_right (nc s) (show i + 1 ≤ j by omega)
          rw [Nat.add_mul] at this
          omega
        · right
          have := Nat.mul_le_mul_right (nc s) (show j + 1 ≤ i by omega)
          rw [Nat.add_mul] at this
          omega
      rw [hc2 _ this]
      exact p2 q hq
    · have : (D.set j d2).getD i (dft s) = D.getD i (dft s) := by simp [List.getD, List.getElem?_set_ne (show j ≠ i by omega)]
      rw [this]
      refine p3.only hon fun k hk hk2 => ?_
      rcases List.mem_cons.1 hk2 with hk2 | hk2
      · subst hk2
        exact hF.1 (List.mem_flatMap.2 ⟨i, List.mem_range.2 hi, hk⟩)
      · exact nodup_flat hF.2 hi (by omega) ei hk hk2
/-- the same where the element's own cells stay -/
theorem Ow.elem' {D : List (Dat s)} {j : Nat} (h : Ow w (.row e s) [v] D F) (hF : F.Nodup) (hj : j < D.length) :
    ∃ g n c es Gj, v = .slice (some ⟨g, 0, none⟩) n c ∧ D.length = n ∧ es.length = nc s ∧ Piece w g (j * nc s) es ∧ g < w.heap.size ∧ Ow w s es (D.getD j (dft s)) Gj ∧ Gj.Nodup ∧ g ∉ Gj ∧ (∀ k ∈ Gj, k ∈ F) ∧
      ∀ (w2 : World) (d2 : Dat s), Ow w2 s es d2 Gj → Only Gj w w2 → Ow w2 (.row e s) [v] (D.set j d2) F := by
  obtain ⟨g, n, c, es, Gj, h1, h2, h3, h4, h5, h6, h7, h8, h9, h10, h11⟩ := h.elem hF hj
  have hg := h.lt g h7
  refine ⟨g, n, c, es, Gj, h1, h2, h3, h4, hg, h6, h8, h9, h10, fun w2 d2 ho hon => h11 w2 es d2 h3 (h4.keep fun p hp => ?_) ho (hon.wider fun k hk => List.mem_cons_of_mem _ hk) fun cur hr => ⟨cur, (hon.block g hg h9).trans hr, rfl, fun _ _ => rfl⟩⟩
  exact World.cell?_of_block (by rw [hp]; exact hon.block g hg h9)

/-! ### the contracts' forms -/
def Copy1 (w : World) (s : Sh) (d : Dat s) (e : Ending) (w' : World) : Prop := ∃ A n c, e = .returned (.slice A n c) ∧ Owned w' w.heap.size w'.heap.size s [.slice A n c] d ∧ Below w.heap.size w w'
def AnsSzK (w : World) (left : Int) (t : Nat) (e : Ending) (w' : World) : Prop := e = .returned (.int .i64 (if left - t < 0 then -1 else left - t)) ∧ Below w.heap.size w w'
def Yes (w : World) (e : Ending) (w' : World) : Prop := e = .returned (.bool true) ∧ Below w.heap.size w w'
def AnsMarkF (w : World) (s : Sh) (cs : List Value) (d : Dat s) (k : Int) (F : List Nat) (e : Ending) (w' : World) : Prop := e = .returned (.int .i64 (k + (cntv s d : Int))) ∧ Ow w' s cs (mkv s k d) F ∧ Only F w w'
def AnsHeld (w : World) (z : Int) (e : Ending) (w' : World) : Prop := e = .returned (.int .i64 z) ∧ Below w.heap.size w w'

/-! ### slices of int64 -/
theorem szK_ints (v : Value) (xs : List Int) (left : Int) (w : World) (h : Rd w w.heap.size sI [v] xs) (h0 : 0 ≤ left) (h1 : left ≤ 1048576) :
    Calls Try.prog 95 #[v, .int .i64 left] w (AnsSzK w left (sz sI xs)) := by
  obtain ⟨A, n, c, rfl, hs, hc⟩ := rd_ints.1 h
  rw [sz_ints, hs.1]
  exact (szInts A n c left w (Nat.le_trans hc.1 hc.2.1) h0 h1).mono fun _ _ ⟨e1, e2⟩ => ⟨e2, e1 ▸ Below.refl _ _⟩
theorem toK_ints (v : Value) (xs : List Int) (w : World) (h : Rd w w.heap.size sI [v] xs) (hz : sz sI xs ≤ 1048576) :
    Calls Try.prog 26 #[v] w (Copy1 w sI xs) := by
  obtain ⟨A, n, c, rfl, hs, hc⟩ := rd_ints.1 h
  rw [sz_ints, hs.1] at hz
  exact (intsTo A n c xs w hs hz).mono fun _ _ ⟨g, e, ho, _, hb⟩ => ⟨_, _, _, e, ow_ints.2 ho, hb⟩
theorem eqK_ints (v v' : Value) (xs : List Int) (w : World) (h : Rd w w.heap.size sI [v] xs) (h' : Rd w w.heap.size sI [v'] xs) (hz : sz sI xs ≤ 1048576) :
    Calls Try.prog 28 #[v, v'] w (Yes w) := by
  obtain ⟨A, n, c, rfl, hs, hc⟩ := rd_ints.1 h
  obtain ⟨A', n', c', rfl, hs', hc'⟩ := rd_ints.1 h'
  rw [sz_ints, hs.1] at hz
  exact intsEq A A' n n' c c' xs w hs hs' hz
theorem ow_ints' {w : World} {A : Option Addr} {n c : Nat} {xs : List Int} {F : List Nat} (h : Ow w sI [.slice A n c] xs F) : Own w 0 (.slice A n c) xs ∧ ((blk A = none ∧ F = []) ∨ ∃ g, blk A = some g ∧ F = [g]) := by
  have h0 := h
  obtain ⟨A', n', c', e, hl, h⟩ := h
  injection e with e
  injection e with e1 e2 e3
  subst e1 e2 e3
  rcases h with ⟨rfl, rfl, rfl, rfl⟩ | ⟨g, cur, E, G, rfl, hr, h2, h3, h4, rfl, h6⟩
  · have hx : xs = [] := List.eq_nil_of_length_eq_zero hl
    subst hx
    exact ⟨Own.nil _ _, .inl ⟨rfl, rfl⟩⟩
  · have hG : (List.range n).flatMap G = [] := List.eq_nil_iff_forall_not_mem.2 fun k hk => by
      obtain ⟨j, hj, hk⟩ := List.mem_flatMap.1 hk
      have q3 := (h6 j (List.mem_range.1 hj)).2.2
      have q3 : _ ∧ G j = [] := q3
      rw [q3.2] at hk
      cases hk
    rw [hG] at h0 ⊢
    exact ⟨(ow_ints.1 ⟨[g], h0, by simp, fun k hk => ⟨Nat.zero_le _, h0.lt k hk⟩⟩ : Ownd w 0 w.heap.size _ _ _ _).1, .inr ⟨g, rfl, rfl⟩⟩
theorem ow_of {w : World} {A : Option Addr} {n c : Nat} {xs : List Int} {F : List Nat} (h : Own w 0 (.slice A n c) xs) (hF : (blk A = none ∧ F = []) ∨ ∃ g, blk A = some g ∧ F = [g]) : Ow w sI [.slice A n c] xs F := by
  obtain ⟨F', h1, _, _⟩ := (ow_ints (w := w) (lo := 0) (hi := w.heap.size)).2 (Ownd.of_own h)
  have h2 := (ow_ints' h1).2
  rcases hF with ⟨e1, rfl⟩ | ⟨g, e1, rfl⟩
  · rcases h2 with ⟨_, rfl⟩ | ⟨g, e2, _⟩
    · exact h1
    · rw [e1] at e2; cases e2
  · rcases h2 with ⟨e2, _⟩ | ⟨g', e2, rfl⟩
    · rw [e1] at e2; cases e2
    · rw [e1] at e2; injection e2 with e2; subst e2; exact h1
theorem markK_ints (v : Value) (xs : List Int) (k : Int) (F : List Nat) (w : World) (h : Ow w sI [v] xs F) (hz : sz sI xs ≤ 1048576) (hk0 : 0 ≤ k) (hk : k ≤ 1099511627776) :
    Calls Try.prog 32 #[v, .int .i64 k] w (AnsMarkF w sI [v] xs k F) := by
  obtain ⟨A, n, c, rfl, hs, hc⟩ := rd_ints.1 h.rd
  rw [sz_ints, hs.1] at hz
  obtain ⟨ho, hF⟩ := ow_ints' h
  refine (markOwn 0 A n c xs k w ho hz hk0 hk).mono fun _ _ ⟨e, hg, ho2⟩ => ⟨?_, ?_, ?_⟩
  · rw [e]
    have : cntv sI xs = n := by rw [← hs.1]; exact cnt_ints xs
    rw [this]
  · rw [mk_ints, hs.1]
    exact ow_of ho2 hF
  · rcases hF with ⟨e1, rfl⟩ | ⟨g, e1, rfl⟩
    · rw [e1] at hg
      exact ⟨hg.os, hg.tape, hg.output, hg.size, fun k hk _ => hg.block k hk (by simp)⟩
    · rw [e1] at hg
      exact ⟨hg.os, hg.tape, hg.output, hg.size, fun k hk hn => hg.block k hk (fun e => hn (by injection e with e; rw [e]; simp))⟩
theorem heldK_ints (v : Value) (xs : List Int) (k : Int) (w : World) (h : Rd w w.heap.size sI [v] (mkv sI k xs)) (hz : sz sI xs ≤ 1048576) (hk0 : 0 ≤ k) (hk : k ≤ 1099511627776) :
    Calls Try.prog 33 #[v, .int .i64 k] w (AnsHeld w (k + (cntv sI xs : Int))) := by
  rw [mk_ints] at h
  obtain ⟨A, n, c, rfl, hs, hc⟩ := rd_ints.1 h
  have hl : n = xs.length := by rw [← hs.1, marks_len]
  subst hl
  rw [sz_ints] at hz
  have : cntv sI xs = xs.length := cnt_ints xs
  rw [this]
  exact (heldInts A _ c k w hs hz hk0 (by omega)).mono fun _ _ ⟨e1, e2⟩ => ⟨e2, e1 ▸ Below.refl _ _⟩
end

/-! ### a slice that is being copied: its first k elements are there -/
section
variable {s : Sh} {e : TypeId}
def HeadCp (w : World) (e : TypeId) (s : Sh) (n : Nat) (D : List (Dat s)) (i : Value) (wr : World) : Prop :=
  ∃ (k : Nat) (cs : Array Value) (E : Nat → List Value) (G : Nat → List Nat), k ≤ n ∧ i = .int .i64 k ∧ Row wr w.heap.size e cs ∧ cs.size = n * nc s ∧ ((List.range k).flatMap G).Nodup ∧
    (∀ j, j < k → (E j).length = nc s ∧ (∀ i, i < nc s → cs[j * nc s + i]? = (E j)[i]?) ∧ Ow wr s (E j) (D.getD j (dft s)) (G j) ∧ ∀ q ∈ G j, w.heap.size < q) ∧ Below w.heap.size w wr
theorem headCp_zero {w : World} {n : Nat} {D : List (Dat s)} {cs : Array Value} (hs : cs.size = n * nc s) : HeadCp w e s n D (.int .i64 0) (w.alloc (.cells cs e)) :=
  ⟨0, cs, fun _ => [], fun _ => [], Nat.zero_le _, rfl, Row.new _ _ _, hs, by simp, fun j hj => absurd hj (Nat.not_lt_zero _), (Below.refl _ _).alloc (Nat.le_refl _) _⟩
/-- the cells es are laid into block g from off on -/
def putAll (w : World) (g : Nat) : Nat → List Value → World
  | _, [] => w
  | off, u :: r => putAll (w.setCell ⟨g, off, none⟩ u) g (off + 1) r
def rowPut (cs : Array Value) : Nat → List Value → Array Value
  | _, [] => cs
  | off, u :: r => rowPut (cs.setIfInBounds off u) (off + 1) r
theorem rowPut_size : ∀ {es : List Value} {cs : Array Value} {off : Nat}, (rowPut cs off es).size = cs.size
  | [], _, _ => rfl
  | u :: r, cs, off => by rw [rowPut, rowPut_size]; simp
theorem rowPut_get : ∀ {es : List Value} {cs : Array Value} {off q : Nat}, off + es.length ≤ cs.size → (rowPut cs off es)[q]? = if off ≤ q ∧ q < off + es.length then es[q - off]? else cs[q]?
  | [], cs, off, q, _ => by rw [rowPut, if_neg (by simp only [List.length_nil]; omega)]
  | u :: r, cs, off, q, h => by
    simp only [List.length_cons] at h
    rw [rowPut, rowPut_get (by simp; omega)]
    simp only [List.length_cons]
    by_cases e1 : q = off
    · subst e1
      rw [if_neg (by omega), if_pos (by omega), Array.getElem?_setIfInBounds, if_pos rfl, if_pos (by omega)]
      simp
    · by_cases e2 : off ≤ q ∧ q < off + (r.length + 1)
      · rw [if_pos (by omega), if_pos e2]
        obtain ⟨m, rfl⟩ : ∃ m, q = off + 1 + m := ⟨q - off - 1, by omega⟩
        rw [show off + 1 + m - (off + 1) = m by omega, show off + 1 + m - off = m + 1 by omega, List.getElem?_cons_succ]
      · rw [if_neg (by omega), if_neg e2, Array.getElem?_setIfInBounds, if_neg (by omega)]
theorem putAll_row {g : Nat} {t : TypeId} : ∀ {es : List Value} {w : World} {cs : Array Value} {off : Nat}, Row w g t cs → Row (putAll w g off es) g t (rowPut cs off es)
  | [], _, _, _, h => h
  | u :: r, w, cs, off, h => by rw [putAll, rowPut]; exact putAll_row (h.put off u)
theorem putAll_keep {g : Nat} : ∀ {es : List Value} {w : World} {off : Nat} {k : Nat}, k ≠ g → (putAll w g off es).heap[k]? = w.heap[k]?
  | [], _, _, _, _ => rfl
  | u :: r, w, off, k, h => by rw [putAll, putAll_keep h]; exact Below.heap_setCell w _ u k h
theorem putAll_size {g : Nat} : ∀ {es : List Value} {w : World} {off : Nat}, (putAll w g off es).heap.size = w.heap.size
  | [], _, _ => rfl
  | u :: r, w, off => by rw [putAll, putAll_size]; simp
theorem putAll_below {g B : Nat} {a : World} : ∀ {es : List Value} {w : World} {off : Nat}, Below B a w → B ≤ g → Below B a (putAll w g off es)
  | [], _, _, h, _ => h
  | u :: r, w, off, h, hg => by rw [putAll]; exact putAll_below (h.setCell hg u) hg
theorem headCp_step {w wr w1 : World} {n k : Nat} {D : List (Dat s)} {cs : Array Value} {E : Nat → List Value} {G : Nat → List Nat} (hk : k < n) (hr : Row wr w.heap.size e cs) (hs : cs.size = n * nc s) (hn : ((List.range k).flatMap G).Nodup)
    (hi : ∀ j, j < k → (E j).length = nc s ∧ (∀ i, i < nc s → cs[j * nc s + i]? = (E j)[i]?) ∧ Ow wr s (E j) (D.getD j (dft s)) (G j) ∧ ∀ q ∈ G j, w.heap.size < q) (hb : Below w.heap.size w wr)
    {es : List Value} (ho : Owned w1 wr.heap.size w1.heap.size s es (D.getD k (dft s))) (bb : Below wr.heap.size wr w1) : HeadCp w e s n D (.int .i64 ((k : Int) + 1)) (putAll w1 w.heap.size (k * nc s) es) := by
  obtain ⟨F, ho, hnF, hF⟩ := ho
  have hz := hr.lt
  have hle : k * nc s + nc s ≤ cs.size := by
    have := Nat.mul_le_mul_right (nc s) (show k + 1 ≤ n by omega)
    rw [Nat.add_mul] at this
    omega
  have hel := ho.len
  have hfr : ∀ j, j < k → ∀ q ∈ G j, q < wr.heap.size := fun j hj => (hi j hj).2.2.1.lt
  refine ⟨k + 1, _, fun j => if j = k then es else E j, fun j => if j = k then F else G j, hk, by simp, putAll_row (hr.next bb), by rw [rowPut_size]; exact hs, ?_, fun j hj => ?_, putAll_below (hb.trans (bb.mono hb.size)) (Nat.le_refl _)⟩
  · rw [List.range_succ, List.flatMap_append]
    have e1 : (List.range k).flatMap (fun j => if j = k then F else G j) = (List.range k).flatMap G := by
      rw [List.flatMap_def, List.flatMap_def]
      congr 1
      exact List.map_congr_left fun j hj => if_neg (by have := List.mem_range.1 hj; omega)
    rw [e1]
    refine List.nodup_append.2 ⟨hn, by simpa using hnF, fun x hx y hy e => ?_⟩
    obtain ⟨j, hj, hx⟩ := List.mem_flatMap.1 hx
    have h1 := hfr j (List.mem_range.1 hj) x hx
    have h2 := hF y (by simpa using hy)
    omega
  · by_cases ej : j = k
    · subst ej
      simp only [if_pos]
      refine ⟨hel, fun i hi2 => ?_, ho.keep fun q hq => putAll_keep (by have := hF q hq; omega), fun q hq => by have := hF q hq; omega⟩
      rw [rowPut_get (by omega), if_pos (by omega)]
      congr 1
      omega
    · simp only [if_neg ej]
      obtain ⟨q1, q2, q3, q4⟩ := hi j (by omega)
      refine ⟨q1, fun i hi2 => ?_, (q3.next bb).keep fun q hq => putAll_keep (by have := q4 q hq; omega), q4⟩
      rw [rowPut_get (by omega), if_neg ?_]
      · exact q2 i hi2
      · have := Nat.mul_le_mul_right (nc s) (show j + 1 ≤ k by omega)
        rw [Nat.add_mul] at this
        omega
theorem headCp_end {w wr : World} {n : Nat} {D : List (Dat s)} {cs : Array Value} {E : Nat → List Value} {G : Nat → List Nat} (hl : D.length = n) (hm : n ≤ 1048576) (hr : Row wr w.heap.size e cs) (hs : cs.size = n * nc s) (hn : ((List.range n).flatMap G).Nodup)
    (hi : ∀ j, j < n → (E j).length = nc s ∧ (∀ i, i < nc s → cs[j * nc s + i]? = (E j)[i]?) ∧ Ow wr s (E j) (D.getD j (dft s)) (G j) ∧ ∀ q ∈ G j, w.heap.size < q) (hb : Below w.heap.size w wr) :
    Copy1 w (.row e s) D (.returned (.slice (some ⟨w.heap.size, 0, none⟩) n n)) wr := by
  refine ⟨_, _, _, rfl, ⟨w.heap.size :: (List.range n).flatMap G, ⟨_, n, n, rfl, hl, .inr ⟨w.heap.size, cs, E, G, rfl, hr, Nat.le_refl _, by omega, hs, rfl, fun j hj => ⟨(hi j hj).1, (hi j hj).2.1, (hi j hj).2.2.1⟩⟩⟩, List.nodup_cons.2 ⟨fun h => ?_, hn⟩, fun k hk => ?_⟩, hb⟩
  · obtain ⟨j, hj, h⟩ := List.mem_flatMap.1 h
    have := (hi j (List.mem_range.1 hj)).2.2.2 _ h
    omega
  · rcases List.mem_cons.1 hk with hk | hk
    · rw [hk]; exact ⟨Nat.le_refl _, hr.lt⟩
    · obtain ⟨j, hj, h⟩ := List.mem_flatMap.1 hk
      have h1 := (hi j (List.mem_range.1 hj)).2.2.2 _ h
      have h2 := (hi j (List.mem_range.1 hj)).2.2.1.lt _ h
      omega

/-! ### a slice that is being marked -/
def mixed (s : Sh) (k : Int) (D : List (Dat s)) (j : Nat) : List (Dat s) := (List.range D.length).map fun q => if q < j then mkc s (k + (cnts s D q : Int)) (D.getD q (dft s)) else D.getD q (dft s)
theorem mixed_len {k : Int} {D : List (Dat s)} {j : Nat} : (mixed s k D j).length = D.length := by simp [mixed]
theorem mixed_get {k : Int} {D : List (Dat s)} {j : Nat} (h : j < D.length) : (mixed s k D j).getD j (dft s) = D.getD j (dft s) := by simp [mixed, List.getD, h]
theorem mixed_zero {k : Int} {D : List (Dat s)} : mixed s k D 0 = D := by
  refine List.ext_getElem (by rw [mixed_len]) fun j h1 h2 => ?_
  simp [mixed, List.getD, h2]
theorem mixed_succ {k : Int} {D : List (Dat s)} {j : Nat} (h : j < D.length) : (mixed s k D j).set j (mkc s (k + (cnts s D j : Int)) (D.getD j (dft s))) = mixed s k D (j + 1) := by
  refine List.ext_getElem (by rw [List.length_set, mixed_len, mixed_len]) fun q h1 h2 => ?_
  rw [mixed_len] at h2
  rw [List.getElem_set]
  by_cases e : j = q
  · subst e; simp [mixed]
  · rw [if_neg e]
    simp only [mixed, List.getElem_map, List.getElem_range]
    by_cases h3 : q < j
    · rw [if_pos h3, if_pos (by omega)]
    · rw [if_neg h3, if_neg (by omega)]
theorem mixed_all {k : Int} {D : List (Dat s)} {e : TypeId} : mixed s k D D.length = (mkv (.row e s) k D : List (Dat s)) := by
  show (List.range D.length).map _ = (List.range D.length).map _
  exact List.map_congr_left fun q hq => if_pos (List.mem_range.1 hq)
theorem headMk_cnt {e : TypeId} {s : Sh} {D : List (Dat s)} {j : Nat} (hj : j < D.length) : cnts s D j + cnt s (D.getD j (dft s)) ≤ cntv (.row e s) D := by
  rw [← cnts_succ hj]
  have := cnts_mono (d := D) (show j + 1 ≤ D.length by omega) (Nat.le_refl _)
  rw [cnts_all rfl] at this
  exact this
def HeadMk (w : World) (e : TypeId) (s : Sh) (v : Value) (D : List (Dat s)) (k : Int) (F : List Nat) (kk i : Value) (wr : World) : Prop :=
  ∃ j : Nat, j ≤ D.length ∧ i = .int .i64 j ∧ kk = .int .i64 (k + (cnts s D j : Int)) ∧ Ow wr (.row e s) [v] (mixed s k D j) F ∧ Only F w wr
theorem headMk_zero {w : World} {v : Value} {D : List (Dat s)} {k : Int} {F : List Nat} (h : Ow w (.row e s) [v] D F) : HeadMk w e s v D k F (.int .i64 k) (.int .i64 0) w :=
  ⟨0, Nat.zero_le _, rfl, by simp [cnts], by rw [mixed_zero]; exact h, Only.refl _ _⟩
theorem headMk_step {w wr w2 : World} {v : Value} {D : List (Dat s)} {k : Int} {F : List Nat} {j z : Nat} (hj : j < D.length) (hb : Only F w wr) (ho : Only F wr w2) (hz : cnt s (D.getD j (dft s)) = z) {d2 : Dat s} (hd : d2 = mkc s (k + (cnts s D j : Int)) (D.getD j (dft s)))
    (h : Ow w2 (.row e s) [v] ((mixed s k D j).set j d2) F) : HeadMk w e s v D k F (.int .i64 (k + (cnts s D j : Int) + z)) (.int .i64 ((j : Int) + 1)) w2 := by
  subst hd
  rw [mixed_succ hj] at h
  exact ⟨j + 1, hj, by simp, by rw [cnts_succ hj, hz]; exact congrArg (Value.int .i64) (by omega), h, hb.trans ho⟩
theorem headMk_end {w wr : World} {v : Value} {D : List (Dat s)} {k : Int} {F : List Nat} {j : Nat} (hj : ¬ j < D.length) (hj' : j ≤ D.length) (h : Ow wr (.row e s) [v] (mixed s k D j) F) (ho : Only F w wr) : AnsMarkF w (.row e s) [v] D k F (.returned (.int .i64 (k + (cnts s D j : Int)))) wr := by
  have e1 : j = D.length := by omega
  subst e1
  rw [mixed_all (e := e)] at h
  exact ⟨by rw [cnts_all rfl]; rfl, h, ho⟩
end
theorem cnts_bd {s : Sh} {e : TypeId} {D : List (Dat s)} {j C : Nat} (hz : sz (.row e s) D ≤ 1048576) (hj : j ≤ D.length) (hC : wd s = C) : cnts s D j ≤ C * 1048576 := by
  have h1 := cnts_mono (d := D) hj (Nat.le_refl _)
  rw [cnts_all rfl] at h1
  have h2 := cntv_le (.row e s) D
  have h3 : cntv (.row e s) D = (D.map (cnt s)).sum := rfl
  have h4 : wd (.row e s) = C := hC
  rw [h3, h4] at h2
  have h5 := Nat.mul_le_mul_left C hz
  omega

theorem Rd.split {w : World} {B : Nat} {a b : Sh} {ca cb : List Value} {d : Dat (.cat a b)} (h : Rd w B (.cat a b) (ca ++ cb) d) (hl : ca.length = nc a) : Rd w B a ca d.1 ∧ Rd w B b cb d.2 := by
  obtain ⟨ca', cb', e, h1, h2⟩ := h
  obtain ⟨rfl, rfl⟩ := List.append_inj e (by rw [hl, h1.len])
  exact ⟨h1, h2⟩
theorem Ow.split {w : World} {a b : Sh} {ca cb : List Value} {d : Dat (.cat a b)} {F : List Nat} (h : Ow w (.cat a b) (ca ++ cb) d F) (hl : ca.length = nc a) : ∃ Fa Fb, F = Fa ++ Fb ∧ Ow w a ca d.1 Fa ∧ Ow w b cb d.2 Fb := by
  obtain ⟨ca', cb', Fa, Fb, e, e2, h1, h2⟩ := h
  obtain ⟨rfl, rfl⟩ := List.append_inj e (by rw [hl, h1.len])
  exact ⟨Fa, Fb, e2, h1, h2⟩

theorem Row.only {w w' : World} {g : Nat} {t : TypeId} {cs : Array Value} {F : List Nat} (h : Row w g t cs) (ho : Only F w w') (hg : g ∉ F) : Row w' g t cs := (ho.block g h.lt hg).trans h
theorem Ow.join {w : World} {a b : Sh} {ca cb : List Value} {x : Dat a} {y : Dat b} {Fa Fb : List Nat} (h1 : Ow w a ca x Fa) (h2 : Ow w b cb y Fb) : Ow w (.cat a b) (ca ++ cb) (x, y) (Fa ++ Fb) := ⟨ca, cb, Fa, Fb, rfl, rfl, h1, h2⟩
theorem dis_app {F G : List Nat} (h : (F ++ G).Nodup) : F.Nodup ∧ G.Nodup ∧ (∀ k ∈ F, k ∉ G) ∧ ∀ k ∈ G, k ∉ F := by
  obtain ⟨h1, h2, h3⟩ := List.nodup_append.1 h
  exact ⟨h1, h2, fun k hk hk2 => h3 k hk k hk2 rfl, fun k hk hk2 => h3 k hk2 k hk rfl⟩
theorem dis_l {F A B : List Nat} (h : ∀ k ∈ F, k ∉ A ++ B) : (∀ k ∈ F, k ∉ A) ∧ ∀ k ∈ F, k ∉ B := ⟨fun k hk h2 => h k hk (List.mem_append_left _ h2), fun k hk h2 => h k hk (List.mem_append_right _ h2)⟩
theorem dis_r {F A B : List Nat} (h : ∀ k ∈ A ++ B, k ∉ F) : (∀ k ∈ A, k ∉ F) ∧ ∀ k ∈ B, k ∉ F := ⟨fun k hk => h k (List.mem_append_left _ hk), fun k hk => h k (List.mem_append_right _ hk)⟩

/-! ### the sizes of a slice's elements -/
section
variable {s : Sh} {e : TypeId}
def HeadSzK (w : World) (n : Nat) (s : Sh) (D : List (Dat s)) (left : Int) (l i : Value) (wr : World) : Prop := ∃ k : Nat, k ≤ n ∧ i = .int .i64 k ∧ l = .int .i64 (left - n - szs s D k) ∧ 0 ≤ left - n - szs s D k ∧ Below w.heap.size w wr
theorem headSzK_zero {w : World} {n : Nat} {D : List (Dat s)} {left : Int} (h : 0 ≤ left - n) : HeadSzK w n s D left (.int .i64 (left - n)) (.int .i64 0) w := ⟨0, Nat.zero_le _, rfl, by simp [szs], by simp [szs]; omega, Below.refl _ _⟩
theorem headSzK_bad {n k t : Nat} {D : List (Dat s)} {left : Int} (hn : D.length = n) (hk : k < n) (hs : szs s D (k + 1) = szs s D k + t) (q : left - n - szs s D k - t < 0) : Ending.returned (.int .i64 (-1)) = .returned (.int .i64 (if left - (sz (.row e s) D : Nat) < 0 then -1 else left - (sz (.row e s) D : Nat))) := by
  have h2 := szs_mono (d := D) (show k + 1 ≤ D.length by omega) (Nat.le_refl _)
  rw [if_pos (by rw [sz_row]; omega)]
theorem headSzK_step {w w1 : World} {n k t : Nat} {D : List (Dat s)} {left l : Int} (hk : k < n) (hs : szs s D (k + 1) = szs s D k + t) (hl : left - n - szs s D k = l) (q : ¬ l - t < 0) (hb : Below w.heap.size w w1) : HeadSzK w n s D left (.int .i64 (l - t)) (.int .i64 ((k : Int) + 1)) w1 :=
  ⟨k + 1, hk, by simp, by rw [hs, ← hl]; exact congrArg (Value.int .i64) (by omega), by rw [hs]; omega, hb⟩
theorem headSzK_end {w wr : World} {n k : Nat} {D : List (Dat s)} {left : Int} (hn : D.length = n) (hk : ¬ k < n) (hk' : k ≤ n) (h : 0 ≤ left - n - szs s D k) (hb : Below w.heap.size w wr) : AnsSzK w left (sz (.row e s) D) (.returned (.int .i64 (left - n - szs s D k))) wr := by
  have e1 : k = n := by omega
  subst e1
  have e2 : (left - (sz (.row e s) D : Nat) : Int) = left - k - szs s D k := by rw [sz_row, hn]; omega
  exact ⟨by rw [e2, if_neg (by omega)], hb⟩
end

/-! ### a struct that is being copied: its box, the result's, the copy's -/
structure CpS (w : World) (tL tI : TypeId) (cs zs part : Array Value) (wr : World) : Prop where
  box : Row wr w.heap.size tL cs
  res : Row wr (w.heap.size + 1) tI zs
  cur : Row wr (w.heap.size + 1 + 1) tI part
  bel : Below w.heap.size w wr
  size : w.heap.size + 1 + 1 + 1 ≤ wr.heap.size
section
variable {w wr w1 : World} {tL tI : TypeId} {cs zs part : Array Value}
theorem CpS.zero (w : World) (tL tI : TypeId) (cs zs : Array Value) : CpS w tL tI cs zs zs (((w.alloc (.cells cs tL)).alloc (.cells zs tI)).alloc (.cells zs tI)) where
  box := by have := ((Row.new w tL cs).alloc (.cells zs tI)).alloc (.cells zs tI); simpa using this
  res := by have := (Row.new (w.alloc (.cells cs tL)) tI zs).alloc (.cells zs tI); simpa using this
  cur := by have := Row.new ((w.alloc (.cells cs tL)).alloc (.cells zs tI)) tI zs; simpa using this
  bel := (((Below.refl _ _).alloc (Nat.le_refl _) _).alloc (by simp) _).alloc (by simp; omega) _
  size := by simp
theorem CpS.next (h : CpS w tL tI cs zs part wr) (bb : Below wr.heap.size wr w1) : CpS w tL tI cs zs part w1 :=
  ⟨h.box.next bb, h.res.next bb, h.cur.next bb, h.bel.trans (bb.mono h.bel.size), Nat.le_trans h.size bb.size⟩
theorem CpS.put (h : CpS w tL tI cs zs part wr) (i : Nat) (u : Value) : CpS w tL tI cs zs (part.setIfInBounds i u) (wr.setCell ⟨w.heap.size + 1 + 1, i, none⟩ u) :=
  ⟨h.box.far (by show _ ≠ w.heap.size + 1 + 1; omega) _, h.res.far (by show _ ≠ w.heap.size + 1 + 1; omega) _, h.cur.put i u, h.bel.setCell (by show _ ≤ w.heap.size + 1 + 1; omega) _, by simpa using h.size⟩
theorem CpS.fin (h : CpS w tL tI cs zs part wr) (i : Nat) (u : Value) : CpS w tL tI cs (zs.setIfInBounds i u) part (wr.setCell ⟨w.heap.size + 1, i, none⟩ u) :=
  ⟨h.box.far (by show _ ≠ w.heap.size + 1; omega) _, h.res.put i u, h.cur.far (by show _ ≠ w.heap.size + 1; omega) _, h.bel.setCell (by show _ ≤ w.heap.size + 1; omega) _, by simpa using h.size⟩
end
end Go.Proofs.Ytfkgiimcnlagmaa.shape
end

section
/-
  CONTRACTS of the laws' helpers over shapes: Sig:sz,to,eq,mark, Rule:sz,to,eq,mark,held, RuleS:sz,to,eq,mark, System:sz,to,eq,mark. Conditions: at most 1048576 numbers. Written by a program of mine (mkkinds.py). By an AI agent.
-/
namespace Go.Proofs.Ytfkgiimcnlagmaa.kindsR
open Go.RowKit Go.Proofs.Ytfkgiimcnlagmaa.base Go.Proofs.Ytfkgiimcnlagmaa.ints Go.Proofs.Ytfkgiimcnlagmaa.sig Go.Proofs.Ytfkgiimcnlagmaa.cursor Go.Proofs.Ytfkgiimcnlagmaa.marks Go.Proofs.Ytfkgiimcnlagmaa.app Go.Proofs.Ytfkgiimcnlagmaa.sym Go.Proofs.Ytfkgiimcnlagmaa.appAt Go.Proofs.Ytfkgiimcnlagmaa.segs Go.Proofs.Ytfkgiimcnlagmaa.segsHelp Go.Proofs.Ytfkgiimcnlagmaa.segsMark Go.Proofs.Ytfkgiimcnlagmaa.kinds Go.Proofs.Ytfkgiimcnlagmaa.shape
set_option maxRecDepth 100000

abbrev sSig : Sh := sI
theorem cells_Sig {w : World} {B : Nat} {es : List Value} {d : Dat sSig} (h : Rd w B sSig es d) : ∃ (v0 : Value), es = [v0] := by
  obtain ⟨A0, n0, c0, z0, -⟩ := h
  exact ⟨.slice A0 n0 c0, by rw [z0] <;> rfl⟩

set_option maxHeartbeats 2000000 in
theorem szK_Sig (v0 : Value) (d : Dat sSig) (left : Int) (w : World) (h : Rd w w.heap.size sSig [v0] d) (h0 : 0 ≤ left) (h1 : left ≤ 1048576) :
    Calls Try.prog 59 #[.agg #[v0], .int .i64 left] w (AnsSzK w left (sz sSig d)) := by
  have g0 := h
  obtain ⟨t0, ht0⟩ : ∃ t, sz sI d = t := ⟨_, rfl⟩
  have HE : Hid (sz sSig d = t0) := Lib.hid (by rw [← ht0]; try rfl)
  have HT0 := Lib.hid ht0
  have G0 := Lib.hid g0
  obtain ⟨W, hW⟩ : ∃ W, W = w.alloc (.cells #[v0] 38) := ⟨_, rfl⟩
  have r : Row W w.heap.size 38 #[v0] := by rw [hW]; exact Row.new _ _ _
  have bel : Below w.heap.size w W := by rw [hW]; exact (Below.refl _ _).alloc (Nat.le_refl _) _
  have HW := Lib.hid hW
  clear hW h g0 ht0
  go_enter Try.func59, Try.ntmps59
  go_wp2_with fail
  rw [← HW.out]
  refine (szK_ints _ _ left W (G0.out.next bel) h0 h1).mono ?_
  rintro e w1 ⟨he, bb⟩
  rw [HT0.out] at he
  replace r := r.next bb
  replace bel := next_trans bel bb
  clear bb
  by_cases q0 : left - (t0 : Int) < 0
  · rw [if_pos q0] at he
    subst he
    have F : AnsSzK w left (sz sSig d) (.returned (.int .i64 (-1))) w1 := ⟨by rw [HE.out, if_pos (by omega)], bel⟩
    have HF := Lib.hid F
    clear F bel r
    go_wp2
    go_ret
    exact HF.out
  rw [if_neg q0] at he
  obtain ⟨l0, hl0⟩ : ∃ l, left - (t0 : Int) = l := ⟨_, rfl⟩
  rw [hl0] at he
  have a0 : 0 ≤ l0 := by omega
  have b0 : l0 ≤ 1048576 := by omega
  have HL0 := Lib.hid hl0
  clear hl0 q0
  subst he
  have F : AnsSzK w left (sz sSig d) (.returned (.int .i64 l0)) w1 := ⟨by have := HL0.out; rw [HE.out, if_neg (by omega)]; exact congrArg (fun z => Ending.returned (.int .i64 z)) (by omega), bel⟩
  have HF := Lib.hid F
  clear F bel r
  go_wp2
  go_ret
  exact HF.out

def CopySig (w : World) (d : Dat sSig) (e : Ending) (w' : World) : Prop := ∃ A0 n0 c0, e = .returned (.agg #[.slice A0 n0 c0]) ∧ Owned w' w.heap.size w'.heap.size sSig [.slice A0 n0 c0] d ∧ Below w.heap.size w w'
set_option maxHeartbeats 2000000 in
theorem toK_Sig (v0 : Value) (d : Dat sSig) (w : World) (h : Rd w w.heap.size sSig [v0] d) (hz : sz sSig d ≤ 1048576) :
    Calls Try.prog 63 #[.agg #[v0]] w (CopySig w d) := by
  have g0 := h
  have cp0 := CpS.zero w 38 26 #[v0] #[.slice none 0 0]
  obtain ⟨W, hW⟩ : ∃ W, W = ((w.alloc (.cells #[v0] 38)).alloc (.cells #[.slice none 0 0] 26)).alloc (.cells #[.slice none 0 0] 26) := ⟨_, rfl⟩
  rw [← hW] at cp0
  have HW := Lib.hid hW
  have G0 := Lib.hid g0
  have Z0 : Hid (sz sI d ≤ 1048576) := Lib.hid (hz)
  clear hW hz h g0
  go_enter Try.func63, Try.ntmps63
  go_wp2_with fail
  rw [← HW.out]
  refine (toK_ints _ _ _ ((G0.out.below cp0.bel).more cp0.bel.size) Z0.out).mono ?_
  rintro e w1 ⟨x0A0, x0n0, x0c0, rfl, o0, bb⟩
  have zb0 := bb.size
  have zc0 := cp0.size
  replace cp0 := cp0.next bb
  clear bb
  have f0_0 : w1.frozen? ⟨w.heap.size + 1 + 1, 0, none⟩ = false := cp0.cur.free 0
  have k0_0 : w1.cell? ⟨w.heap.size + 1 + 1, 0, none⟩ = some (.slice none 0 0) := cp0.cur.cell 0
  obtain ⟨w2, hw0⟩ : ∃ x, x = (w1.setCell ⟨w.heap.size + 1 + 1, 0, none⟩ (.slice x0A0 x0n0 x0c0)) := ⟨_, rfl⟩
  replace o0 := o0.put (g := w.heap.size + 1 + 1) (i := 0) (u := .slice x0A0 x0n0 x0c0) (by omega)
  rw [← hw0] at o0
  replace cp0 : CpS w 38 26 #[v0] #[.slice none 0 0] #[.slice x0A0 x0n0 x0c0] w2 := by rw [hw0]; exact (CpS.put cp0 0 (.slice x0A0 x0n0 x0c0))
  have zw0 : w2.heap.size = w1.heap.size := by rw [hw0]; simp
  have HW0 := Lib.hid hw0
  clear hw0
  have y0 : w2.cell? ⟨w.heap.size + 1 + 1, 0, none⟩ = some (.slice x0A0 x0n0 x0c0) := cp0.cur.cell 0
  rw [HW0.out] at y0
  have s0 : (w2).cell? ⟨w.heap.size + 1, 0, none⟩ = some (.slice none 0 0) := cp0.res.cell 0
  rw [HW0.out] at s0
  have r0 : (w2).frozen? ⟨w.heap.size + 1, 0, none⟩ = false := cp0.res.free 0
  rw [HW0.out] at r0
  have oo : Owned w2 (w.heap.size + 1 + 1 + 1) w2.heap.size sSig [.slice x0A0 x0n0 x0c0] d := o0.wider (by omega) (by omega)
  have F : CopySig w d (.returned (.agg #[.slice x0A0 x0n0 x0c0])) (w2.setCell ⟨w.heap.size + 1, 0, none⟩ (.slice x0A0 x0n0 x0c0)) := ⟨x0A0, x0n0, x0c0, rfl, Owned.wider ((oo.put (g := w.heap.size + 1) (i := 0) (u := .slice x0A0 x0n0 x0c0) (by omega))) (by omega) (by simp), ((CpS.fin cp0 0 (.slice x0A0 x0n0 x0c0))).bel⟩
  have u0 : ((w2.setCell ⟨w.heap.size + 1, 0, none⟩ (.slice x0A0 x0n0 x0c0))).cell? ⟨w.heap.size + 1, 0, none⟩ = some (.slice x0A0 x0n0 x0c0) := (CpS.fin cp0 0 (.slice x0A0 x0n0 x0c0)).res.cell 0
  rw [HW0.out] at u0
  rw [HW0.out] at F
  have HF := Lib.hid F
  clear F oo cp0 o0
  go_wp2
  exact bodyPost_ret (v := .agg #[.slice x0A0 x0n0 x0c0]) (by simp [results, Try.results63, go_sem, u0]) rfl HF.out

set_option maxHeartbeats 2000000 in
theorem eqK_Sig (v0 u0 : Value) (d : Dat sSig) (w : World) (h : Rd w w.heap.size sSig [v0] d) (h' : Rd w w.heap.size sSig [u0] d) (hz : sz sSig d ≤ 1048576) :
    Calls Try.prog 65 #[.agg #[v0], .agg #[u0]] w (Yes w) := by
  have g0 := h
  have g0' := h'
  obtain ⟨W, hW⟩ : ∃ W, W = (w.alloc (.cells #[v0] 26)).alloc (.cells #[u0] 26) := ⟨_, rfl⟩
  have ra : Row W w.heap.size 26 #[v0] := by rw [hW]; exact (Row.new w 26 #[v0]).alloc _
  have rb : Row W (w.heap.size + 1) 26 #[u0] := by rw [hW]; have := Row.new (w.alloc (.cells #[v0] 26)) 26 #[u0]; simpa using this
  have bel : Below w.heap.size w W := by rw [hW]; exact ((Below.refl _ _).alloc (Nat.le_refl _) _).alloc (by simp) _
  have HW := Lib.hid hW
  have G0 := Lib.hid g0
  have G0' := Lib.hid g0'
  have Z0 : Hid (sz sI d ≤ 1048576) := Lib.hid (hz)
  clear hW hz h h' g0 g0'
  go_enter Try.func65, Try.ntmps65
  go_wp2_with fail
  rw [← HW.out]
  refine (eqK_ints _ _ _ W (G0.out.next bel) (G0'.out.next bel) Z0.out).mono ?_
  rintro e w1 ⟨rfl, bb⟩
  replace ra := ra.next bb
  replace rb := rb.next bb
  replace bel := next_trans bel bb
  clear bb
  have F : Yes w (.returned (.bool true)) w1 := ⟨rfl, bel⟩
  have HF := Lib.hid F
  clear F ra rb bel
  go_wp2
  go_ret
  exact HF.out

set_option maxHeartbeats 2000000 in
theorem markK_Sig (v0 : Value) (d : Dat sSig) (k : Int) (F : List Nat) (w : World) (h : Ow w sSig [v0] d F) (hF : F.Nodup) (hz : sz sSig d ≤ 1048576) (hk0 : 0 ≤ k) (hk : k + (cntv sSig d : Int) ≤ 1099511627776) :
    Calls Try.prog 71 #[.agg #[v0], .int .i64 k] w (AnsMarkF w sSig [v0] d k F) := by
  have hlt := h.lt
  have o0 := h
  obtain ⟨z0, hz0⟩ : ∃ z, cntv sI d = z := ⟨_, rfl⟩
  have hc : (cntv sSig d : Int) = (z0 : Int) := by rw [← hz0]; try rfl
  have Z0 : Hid (sz sI d ≤ 1048576) := Lib.hid (hz)
  have HZ0 := Lib.hid hz0
  have HC := Lib.hid hc
  rw [hc] at hk
  obtain ⟨W, hW⟩ : ∃ W, W = w.alloc (.cells #[v0] 26) := ⟨_, rfl⟩
  have r : Row W w.heap.size 26 #[v0] := by rw [hW]; exact Row.new _ _ _
  have bel : Below w.heap.size w W := by rw [hW]; exact (Below.refl _ _).alloc (Nat.le_refl _) _
  replace o0 := o0.next bel
  have nb0 : w.heap.size ∉ F := fun hb => by have := hlt _ hb; omega
  have sub0 : ∀ x ∈ F, x ∈ F := fun x hb => hb
  have on : Only F w W := Only.of_below bel
  have HW := Lib.hid hW
  have HEF : Hid (F = F) := Lib.hid (by rfl)
  clear hW h hz hc bel hlt hz0 
  go_enter Try.func71, Try.ntmps71
  go_wp2_with fail
  rw [← HW.out]
  refine (markK_ints _ _ k F _ o0 Z0.out (by omega) (by omega)).mono ?_
  rintro e w1 ⟨he, o0, on0⟩
  rw [HZ0.out] at he
  replace r := Row.only r on0 nb0
  replace on := on.trans (on0.wider sub0)
  clear on0
  obtain ⟨k0, hk0⟩ : ∃ l, k + (z0 : Int) = l := ⟨_, rfl⟩
  rw [hk0] at he
  have l0 : 0 ≤ k0 := by omega
  have u0 : k0  ≤ 1099511627776 := by omega
  subst he
  have HK0 := Lib.hid hk0
  clear hk0
  have F1 : AnsMarkF w sSig [v0] d k F (.returned (.int .i64 k0)) w1 := by
    refine ⟨congrArg (fun z => Ending.returned (.int .i64 z)) ?_, ?_, on⟩
    · rw [HC.out]; have := HK0.out; omega
    · skip
      exact o0
  have HF := Lib.hid F1
  clear F1 on r o0
  go_wp2
  go_ret
  exact HF.out

abbrev sRule : Sh := .cat sI sI
theorem parts_Rule {w : World} {B : Nat} {v0 v1 : Value} {d : Dat sRule} (h : Rd w B sRule [v0, v1] d) : Rd w B sI [v0] d.1 ∧ Rd w B sI [v1] d.2 := by
  obtain ⟨p0, q0⟩ := Rd.split (ca := [v0]) (cb := [v1]) h rfl
  exact ⟨p0, q0⟩
theorem join_Rule {w : World} {lo hi : Nat} {v0 v1 : Value} {d : Dat sRule} {m0 m1 m2 : Nat} (o0 : Owned w m0 m1 sI [v0] d.1) (o1 : Owned w m1 m2 sI [v1] d.2) (l0 : m0 ≤ m1) (l1 : m1 ≤ m2) (hl : lo ≤ m0) (hh : m2 ≤ hi) : Owned w lo hi sRule [v0, v1] d := by
  exact ((Owned.cat o0 o1 (Nat.le_refl _) (by omega) (by omega)) : Owned w m0 m2 sRule [v0, v1] d).wider hl hh
theorem cells_Rule {w : World} {B : Nat} {es : List Value} {d : Dat sRule} (h : Rd w B sRule es d) : ∃ (v0 : Value) (v1 : Value), es = [v0, v1] := by
  obtain ⟨ca0, cb0, e0, p0, q0⟩ := h
  obtain ⟨A0, n0, c0, z0, -⟩ := p0
  obtain ⟨A1, n1, c1, z1, -⟩ := q0
  exact ⟨.slice A0 n0 c0, .slice A1 n1 c1, by rw [e0, z0, z1] <;> rfl⟩

set_option maxHeartbeats 2000000 in
theorem szK_Rule (v0 v1 : Value) (d : Dat sRule) (left : Int) (w : World) (h : Rd w w.heap.size sRule [v0, v1] d) (h0 : 0 ≤ left) (h1 : left ≤ 1048576) :
    Calls Try.prog 96 #[.agg #[v0, v1], .int .i64 left] w (AnsSzK w left (sz sRule d)) := by
  obtain ⟨g0, g1⟩ := parts_Rule h
  obtain ⟨t0, ht0⟩ : ∃ t, sz sI d.1 = t := ⟨_, rfl⟩
  obtain ⟨t1, ht1⟩ : ∃ t, sz sI d.2 = t := ⟨_, rfl⟩
  have HE : Hid (sz sRule d = t0 + t1) := Lib.hid (by rw [← ht0, ← ht1]; simp only [sz]; try omega)
  have HT0 := Lib.hid ht0
  have G0 := Lib.hid g0
  have HT1 := Lib.hid ht1
  have G1 := Lib.hid g1
  obtain ⟨W, hW⟩ : ∃ W, W = w.alloc (.cells #[v0, v1] 132) := ⟨_, rfl⟩
  have r : Row W w.heap.size 132 #[v0, v1] := by rw [hW]; exact Row.new _ _ _
  have bel : Below w.heap.size w W := by rw [hW]; exact (Below.refl _ _).alloc (Nat.le_refl _) _
  have HW := Lib.hid hW
  clear hW h g0 g1 ht0 ht1
  go_enter Try.func96, Try.ntmps96
  go_wp2_with fail
  rw [← HW.out]
  refine (szK_ints _ _ left W (G0.out.next bel) h0 h1).mono ?_
  rintro e w1 ⟨he, bb⟩
  rw [HT0.out] at he
  replace r := r.next bb
  replace bel := next_trans bel bb
  clear bb
  by_cases q0 : left - (t0 : Int) < 0
  · rw [if_pos q0] at he
    subst he
    have F : AnsSzK w left (sz sRule d) (.returned (.int .i64 (-1))) w1 := ⟨by rw [HE.out, if_pos (by omega)], bel⟩
    have HF := Lib.hid F
    clear F bel r
    go_wp2
    go_ret
    exact HF.out
  rw [if_neg q0] at he
  obtain ⟨l0, hl0⟩ : ∃ l, left - (t0 : Int) = l := ⟨_, rfl⟩
  rw [hl0] at he
  have a0 : 0 ≤ l0 := by omega
  have b0 : l0 ≤ 1048576 := by omega
  have HL0 := Lib.hid hl0
  clear hl0 q0
  subst he
  have c0_0 : w1.cell? ⟨w.heap.size, 1, none⟩ = some (v1) := r.cell 1
  go_wp2_with fail
  refine (szK_ints _ _ l0 w1 (G1.out.next bel) a0 b0).mono ?_
  rintro e w2 ⟨he, bb⟩
  rw [HT1.out] at he
  replace r := r.next bb
  replace bel := next_trans bel bb
  clear bb
  by_cases q1 : l0 - (t1 : Int) < 0
  · rw [if_pos q1] at he
    subst he
    have F : AnsSzK w left (sz sRule d) (.returned (.int .i64 (-1))) w2 := ⟨by have := HL0.out; rw [HE.out, if_pos (by omega)], bel⟩
    have HF := Lib.hid F
    clear F bel r
    go_wp2
    go_ret
    exact HF.out
  rw [if_neg q1] at he
  obtain ⟨l1, hl1⟩ : ∃ l, l0 - (t1 : Int) = l := ⟨_, rfl⟩
  rw [hl1] at he
  have a1 : 0 ≤ l1 := by omega
  have b1 : l1 ≤ 1048576 := by omega
  have HL1 := Lib.hid hl1
  clear hl1 q1
  subst he
  have F : AnsSzK w left (sz sRule d) (.returned (.int .i64 l1)) w2 := ⟨by have := HL0.out; have := HL1.out; rw [HE.out, if_neg (by omega)]; exact congrArg (fun z => Ending.returned (.int .i64 z)) (by omega), bel⟩
  have HF := Lib.hid F
  clear F bel r
  go_wp2
  go_ret
  exact HF.out

def CopyRule (w : World) (d : Dat sRule) (e : Ending) (w' : World) : Prop := ∃ A0 n0 c0 A1 n1 c1, e = .returned (.agg #[.slice A0 n0 c0, .slice A1 n1 c1]) ∧ Owned w' w.heap.size w'.heap.size sRule [.slice A0 n0 c0, .slice A1 n1 c1] d ∧ Below w.heap.size w w'
set_option maxHeartbeats 2000000 in
theorem toK_Rule (v0 v1 : Value) (d : Dat sRule) (w : World) (h : Rd w w.heap.size sRule [v0, v1] d) (hz : sz sRule d ≤ 1048576) :
    Calls Try.prog 98 #[.agg #[v0, v1]] w (CopyRule w d) := by
  obtain ⟨g0, g1⟩ := parts_Rule h
  have cp0 := CpS.zero w 132 115 #[v0, v1] #[.slice none 0 0, .slice none 0 0]
  obtain ⟨W, hW⟩ : ∃ W, W = ((w.alloc (.cells #[v0, v1] 132)).alloc (.cells #[.slice none 0 0, .slice none 0 0] 115)).alloc (.cells #[.slice none 0 0, .slice none 0 0] 115) := ⟨_, rfl⟩
  rw [← hW] at cp0
  have HW := Lib.hid hW
  have G0 := Lib.hid g0
  have Z0 : Hid (sz sI d.1 ≤ 1048576) := Lib.hid (by have := hz; simp only [sz] at this ⊢; omega)
  have G1 := Lib.hid g1
  have Z1 : Hid (sz sI d.2 ≤ 1048576) := Lib.hid (by have := hz; simp only [sz] at this ⊢; omega)
  clear hW hz h g0 g1
  go_enter Try.func98, Try.ntmps98
  go_wp2_with fail
  rw [← HW.out]
  refine (toK_ints _ _ _ ((G0.out.below cp0.bel).more cp0.bel.size) Z0.out).mono ?_
  rintro e w1 ⟨x0A0, x0n0, x0c0, rfl, o0, bb⟩
  have zb0 := bb.size
  have zc0 := cp0.size
  replace cp0 := cp0.next bb
  clear bb
  have f0_0 : w1.frozen? ⟨w.heap.size + 1 + 1, 0, none⟩ = false := cp0.cur.free 0
  have k0_0 : w1.cell? ⟨w.heap.size + 1 + 1, 0, none⟩ = some (.slice none 0 0) := cp0.cur.cell 0
  obtain ⟨w2, hw0⟩ : ∃ x, x = (w1.setCell ⟨w.heap.size + 1 + 1, 0, none⟩ (.slice x0A0 x0n0 x0c0)) := ⟨_, rfl⟩
  replace o0 := o0.put (g := w.heap.size + 1 + 1) (i := 0) (u := .slice x0A0 x0n0 x0c0) (by omega)
  rw [← hw0] at o0
  replace cp0 : CpS w 132 115 #[v0, v1] #[.slice none 0 0, .slice none 0 0] #[.slice x0A0 x0n0 x0c0, .slice none 0 0] w2 := by rw [hw0]; exact (CpS.put cp0 0 (.slice x0A0 x0n0 x0c0))
  have zw0 : w2.heap.size = w1.heap.size := by rw [hw0]; simp
  have HW0 := Lib.hid hw0
  clear hw0
  have d1_0 : w2.cell? ⟨w.heap.size, 1, none⟩ = some (v1) := cp0.box.cell 1
  rw [HW0.out] at d1_0
  go_wp2_with fail
  rw [← HW0.out]
  clear d1_0
  refine (toK_ints _ _ _ ((G1.out.below cp0.bel).more cp0.bel.size) Z1.out).mono ?_
  rintro e w3 ⟨x1A0, x1n0, x1c0, rfl, o1, bb⟩
  replace o0 := o0.next bb
  have zb1 := bb.size
  have zc1 := cp0.size
  replace cp0 := cp0.next bb
  clear bb
  have f1_0 : w3.frozen? ⟨w.heap.size + 1 + 1, 1, none⟩ = false := cp0.cur.free 1
  have k1_0 : w3.cell? ⟨w.heap.size + 1 + 1, 1, none⟩ = some (.slice none 0 0) := cp0.cur.cell 1
  obtain ⟨w4, hw1⟩ : ∃ x, x = (w3.setCell ⟨w.heap.size + 1 + 1, 1, none⟩ (.slice x1A0 x1n0 x1c0)) := ⟨_, rfl⟩
  replace o0 := o0.put (g := w.heap.size + 1 + 1) (i := 1) (u := .slice x1A0 x1n0 x1c0) (by omega)
  rw [← hw1] at o0
  replace o1 := o1.put (g := w.heap.size + 1 + 1) (i := 1) (u := .slice x1A0 x1n0 x1c0) (by omega)
  rw [← hw1] at o1
  replace cp0 : CpS w 132 115 #[v0, v1] #[.slice none 0 0, .slice none 0 0] #[.slice x0A0 x0n0 x0c0, .slice x1A0 x1n0 x1c0] w4 := by rw [hw1]; exact (CpS.put cp0 1 (.slice x1A0 x1n0 x1c0))
  have zw1 : w4.heap.size = w3.heap.size := by rw [hw1]; simp
  have HW1 := Lib.hid hw1
  clear hw1
  have y0 : w4.cell? ⟨w.heap.size + 1 + 1, 0, none⟩ = some (.slice x0A0 x0n0 x0c0) := cp0.cur.cell 0
  rw [HW1.out] at y0
  have y1 : w4.cell? ⟨w.heap.size + 1 + 1, 1, none⟩ = some (.slice x1A0 x1n0 x1c0) := cp0.cur.cell 1
  rw [HW1.out] at y1
  have s0 : (w4).cell? ⟨w.heap.size + 1, 0, none⟩ = some (.slice none 0 0) := cp0.res.cell 0
  rw [HW1.out] at s0
  have r0 : (w4).frozen? ⟨w.heap.size + 1, 0, none⟩ = false := cp0.res.free 0
  rw [HW1.out] at r0
  have s1 : ((w4.setCell ⟨w.heap.size + 1, 0, none⟩ (.slice x0A0 x0n0 x0c0))).cell? ⟨w.heap.size + 1, 1, none⟩ = some (.slice none 0 0) := (CpS.fin cp0 0 (.slice x0A0 x0n0 x0c0)).res.cell 1
  rw [HW1.out] at s1
  have r1 : ((w4.setCell ⟨w.heap.size + 1, 0, none⟩ (.slice x0A0 x0n0 x0c0))).frozen? ⟨w.heap.size + 1, 1, none⟩ = false := (CpS.fin cp0 0 (.slice x0A0 x0n0 x0c0)).res.free 1
  rw [HW1.out] at r1
  have oo : Owned w4 (w.heap.size + 1 + 1 + 1) w4.heap.size sRule [.slice x0A0 x0n0 x0c0, .slice x1A0 x1n0 x1c0] d := join_Rule (m0 := W.heap.size) (m1 := w2.heap.size) (m2 := w4.heap.size) (o0.wider (Nat.le_refl _) (by omega)) (o1.wider (Nat.le_refl _) (by omega)) (by omega) (by omega) (by omega) (by omega)
  have F : CopyRule w d (.returned (.agg #[.slice x0A0 x0n0 x0c0, .slice x1A0 x1n0 x1c0])) ((w4.setCell ⟨w.heap.size + 1, 0, none⟩ (.slice x0A0 x0n0 x0c0)).setCell ⟨w.heap.size + 1, 1, none⟩ (.slice x1A0 x1n0 x1c0)) := ⟨x0A0, x0n0, x0c0, x1A0, x1n0, x1c0, rfl, Owned.wider (((oo.put (g := w.heap.size + 1) (i := 0) (u := .slice x0A0 x0n0 x0c0) (by omega)).put (g := w.heap.size + 1) (i := 1) (u := .slice x1A0 x1n0 x1c0) (by omega))) (by omega) (by simp), ((CpS.fin (CpS.fin cp0 0 (.slice x0A0 x0n0 x0c0)) 1 (.slice x1A0 x1n0 x1c0))).bel⟩
  have u0 : (((w4.setCell ⟨w.heap.size + 1, 0, none⟩ (.slice x0A0 x0n0 x0c0)).setCell ⟨w.heap.size + 1, 1, none⟩ (.slice x1A0 x1n0 x1c0))).cell? ⟨w.heap.size + 1, 0, none⟩ = some (.slice x0A0 x0n0 x0c0) := (CpS.fin (CpS.fin cp0 0 (.slice x0A0 x0n0 x0c0)) 1 (.slice x1A0 x1n0 x1c0)).res.cell 0
  rw [HW1.out] at u0
  have u1 : (((w4.setCell ⟨w.heap.size + 1, 0, none⟩ (.slice x0A0 x0n0 x0c0)).setCell ⟨w.heap.size + 1, 1, none⟩ (.slice x1A0 x1n0 x1c0))).cell? ⟨w.heap.size + 1, 1, none⟩ = some (.slice x1A0 x1n0 x1c0) := (CpS.fin (CpS.fin cp0 0 (.slice x0A0 x0n0 x0c0)) 1 (.slice x1A0 x1n0 x1c0)).res.cell 1
  rw [HW1.out] at u1
  rw [HW1.out] at F
  have HF := Lib.hid F
  clear F oo cp0 o0 o1
  go_wp2
  exact bodyPost_ret (v := .agg #[.slice x0A0 x0n0 x0c0, .slice x1A0 x1n0 x1c0]) (by simp [results, Try.results98, go_sem, u0, u1]) rfl HF.out

set_option maxHeartbeats 2000000 in
theorem eqK_Rule (v0 v1 u0 u1 : Value) (d : Dat sRule) (w : World) (h : Rd w w.heap.size sRule [v0, v1] d) (h' : Rd w w.heap.size sRule [u0, u1] d) (hz : sz sRule d ≤ 1048576) :
    Calls Try.prog 99 #[.agg #[v0, v1], .agg #[u0, u1]] w (Yes w) := by
  obtain ⟨g0, g1⟩ := parts_Rule h
  obtain ⟨g0', g1'⟩ := parts_Rule h'
  obtain ⟨W, hW⟩ : ∃ W, W = (w.alloc (.cells #[v0, v1] 115)).alloc (.cells #[u0, u1] 115) := ⟨_, rfl⟩
  have ra : Row W w.heap.size 115 #[v0, v1] := by rw [hW]; exact (Row.new w 115 #[v0, v1]).alloc _
  have rb : Row W (w.heap.size + 1) 115 #[u0, u1] := by rw [hW]; have := Row.new (w.alloc (.cells #[v0, v1] 115)) 115 #[u0, u1]; simpa using this
  have bel : Below w.heap.size w W := by rw [hW]; exact ((Below.refl _ _).alloc (Nat.le_refl _) _).alloc (by simp) _
  have HW := Lib.hid hW
  have G0 := Lib.hid g0
  have G0' := Lib.hid g0'
  have Z0 : Hid (sz sI d.1 ≤ 1048576) := Lib.hid (by have := hz; simp only [sz] at this ⊢; omega)
  have G1 := Lib.hid g1
  have G1' := Lib.hid g1'
  have Z1 : Hid (sz sI d.2 ≤ 1048576) := Lib.hid (by have := hz; simp only [sz] at this ⊢; omega)
  clear hW hz h h' g0 g0' g1 g1'
  go_enter Try.func99, Try.ntmps99
  go_wp2_with fail
  rw [← HW.out]
  refine (eqK_ints _ _ _ W (G0.out.next bel) (G0'.out.next bel) Z0.out).mono ?_
  rintro e w1 ⟨rfl, bb⟩
  replace ra := ra.next bb
  replace rb := rb.next bb
  replace bel := next_trans bel bb
  clear bb
  have a1_0 : w1.cell? ⟨w.heap.size, 1, none⟩ = some (v1) := ra.cell 1
  have b1_0 : w1.cell? ⟨w.heap.size + 1, 1, none⟩ = some (u1) := rb.cell 1
  go_wp2_with fail
  clear a1_0 b1_0
  refine (eqK_ints _ _ _ w1 (G1.out.next bel) (G1'.out.next bel) Z1.out).mono ?_
  rintro e w2 ⟨rfl, bb⟩
  replace ra := ra.next bb
  replace rb := rb.next bb
  replace bel := next_trans bel bb
  clear bb
  have F : Yes w (.returned (.bool true)) w2 := ⟨rfl, bel⟩
  have HF := Lib.hid F
  clear F ra rb bel
  go_wp2
  go_ret
  exact HF.out

abbrev sRuleS : Sh := .row 115 sRule
set_option maxHeartbeats 2000000 in
theorem szK_RuleS (v : Value) (D : List (Dat sRule)) (left : Int) (w : World) (h : Rd w w.heap.size sRuleS [v] D) (h0 : 0 ≤ left) (h1 : left ≤ 1048576) :
    Calls Try.prog 60 #[v, .int .i64 left] w (AnsSzK w left (sz sRuleS D)) := by
  obtain ⟨A, c, rfl, hcap⟩ := h.slice
  obtain ⟨n, hn⟩ : ∃ n, D.length = n := ⟨_, rfl⟩
  rw [hn] at h hcap ⊢
  have hmax : n ≤ 9223372036854775807 := Nat.le_trans hcap.1 hcap.2.1
  have HN := Lib.hid hn
  have H := Lib.hid h
  clear hcap hn h
  by_cases hs : left - n < 0
  · have S : AnsSzK w left (sz sRuleS D) (.returned (.int .i64 (-1))) w := ⟨by rw [if_pos (by rw [sz_row, HN.out]; omega)], Below.refl _ _⟩
    have HS := Lib.hid S
    clear S
    go_enter Try.func60, Try.ntmps60
    go_wp2
    go_ret
    exact HS.out
  go_enter Try.func60, Try.ntmps60
  go_wp2
  go_loopw [1, 5] (fun l i wr => HeadSzK w n sRule D left l i wr) (fun _ i _ => n - (intOf i).toNat)
  case atStart => exact headSzK_zero (by omega)
  case round =>
    obtain ⟨k, hk, rfl, rfl, hge, hb⟩ := hrel
    by_cases hlt : k < n
    · obtain ⟨b, off, n2, c2, es, ev, -, -, hbB, hel, hp, hr⟩ := H.out.elem (j := k) (by rw [HN.out]; exact hlt)
      injection ev with e1 e2 e3
      subst e1 e2 e3
      obtain ⟨v0, v1, rfl⟩ := cells_Rule hr
      have hpw := hp.keep (w' := wr) (fun p hp => hb.cell (p := p) (by rw [hp]; exact hbB))
      have c0 : wr.cell? ⟨b, off + k * 2, none⟩ = some (v0) := hpw 0 (by simp)
      have c1 : wr.cell? ⟨b, off + k * 2 + 1, none⟩ = some (v1) := hpw 1 (by simp)
      obtain ⟨t, ht⟩ : ∃ t, sz sRule (D.getD k (dft sRule)) = t := ⟨_, rfl⟩
      obtain ⟨l, hl⟩ : ∃ l, left - n - szs sRule D k = l := ⟨_, rfl⟩
      have hsum := szs_succ (s := sRule) (d := D) (k := k) (by rw [HN.out]; exact hlt)
      rw [ht] at hsum
      rw [hl] at hge ⊢
      have hle : l ≤ 1048576 := by omega
      have L := Lib.hid (szK_Rule _ _ (D.getD k (dft sRule)) l wr ((hr.below hb).more hb.size) hge hle)
      rw [ht] at L
      have BAD := Lib.hid (fun (q : l - (t : Int) < 0) => headSzK_bad (e := 115) (D := D) (left := left) HN.out hlt hsum (by rw [hl]; exact q))
      have GOOD := Lib.hid (fun (q : ¬ l - (t : Int) < 0) (w1 : World) (hb : Below w.heap.size w w1) => headSzK_step (D := D) (left := left) (l := l) hlt hsum hl q hb)
      have HB := Lib.hid hb
      clear hr hel hp hpw ht hl hsum hb
      go_wp2_with fail
      refine L.out.mono ?_
      rintro e w1 ⟨he, bb⟩
      by_cases q : l - (t : Int) < 0
      · rw [if_pos q] at he
        subst he
        have F : AnsSzK w left (sz sRuleS D) (.returned (.int .i64 (-1))) w1 := ⟨BAD.out (by omega), next_trans HB.out bb⟩
        have HF := Lib.hid F
        clear F bb L GOOD BAD
        go_wp2
        go_ret
        exact HF.out
      · rw [if_neg q] at he
        subst he
        have F := Lib.hid (GOOD.out (by omega) w1 (next_trans HB.out bb))
        clear bb L GOOD BAD
        go_wp2
        go_roundw
        case rel => exact F.out
        case measure => simp [intOf]; omega
    · have F := Lib.hid (headSzK_end (e := 115) HN.out hlt hk hge hb)
      clear hge hb
      go_wp2
      go_ret
      exact F.out

theorem info_RuleS : (Try.prog.info? 115).map (fun i => (i.zero, i.size, i.bytes)) = some (some (.agg #[.slice none 0 0, .slice none 0 0]), 2, 48) := by kernel_rfl
theorem make_RuleS (n : Nat) (hn : n ≤ 1048576) (W : World) : (Instr.makeSlice 27 (.int .i64 (n : Int)) (.int .i64 (n : Int))).run Try.prog W =
    .ok (.slice (some ⟨W.heap.size, 0, none⟩) n n) (W.alloc (.cells (madeCells #[.slice none 0 0, .slice none 0 0] (n * 2)) 115)) := by
  obtain ⟨i0, hi, hz0, hz1, hz2⟩ := info_parts info_RuleS
  have hr := run_make (P := Try.prog) W 27 115 i0 _ Try.underlying27 hi hz0 .i64 .i64 n n (by omega) (by omega) (by rw [hz2]; omega) (by omega)
  simpa [hz1, Value.cells] using hr
set_option maxHeartbeats 2000000 in
theorem toK_RuleS (v : Value) (D : List (Dat sRule)) (w : World) (h : Rd w w.heap.size sRuleS [v] D) (hz : sz sRuleS D ≤ 1048576) :
    Calls Try.prog 64 #[v] w (Copy1 w sRuleS D) := by
  obtain ⟨A, c, rfl, hcap⟩ := h.slice
  obtain ⟨n, hn⟩ : ∃ n, D.length = n := ⟨_, rfl⟩
  have hn1 : n ≤ 1048576 := by rw [← hn]; exact sz_len hz
  rw [hn] at h hcap ⊢
  have HN := Lib.hid hn
  have H := Lib.hid h
  have HZ := Lib.hid hz
  clear hcap hn h hz
  have hmk := make_RuleS n hn1
  have S0 := Lib.hid (headCp_zero (s := sRule) (e := 115) (w := w) (n := n) (D := D) (cs := madeCells #[.slice none 0 0, .slice none 0 0] (n * 2)) (size_madeCells _ _))
  go_enter Try.func64, Try.ntmps64
  go_wp2
  clear hmk
  go_loopw [4] (fun i wr => HeadCp w 115 sRule n D i wr) (fun i _ => n - (intOf i).toNat)
  case atStart => exact S0.out
  case round =>
    obtain ⟨k, ks, E, G, hk, rfl, hr, hs, hnd, hi, hb⟩ := hrel
    clear S0
    by_cases hlt : k < n
    · have hkD : k < D.length := by rw [HN.out]; exact hlt
      obtain ⟨b, off, n2, c2, es, ev, -, -, hbB, hel, hp, hrd⟩ := H.out.elem hkD
      injection ev with e1 e2 e3
      subst e1 e2 e3
      obtain ⟨v0, v1, rfl⟩ := cells_Rule hrd
      have hpw := hp.keep (w' := wr) (fun p hp => hb.cell (p := p) (by rw [hp]; exact hbB))
      have c0 : wr.cell? ⟨b, off + k * 2, none⟩ = some (v0) := hpw 0 (by simp)
      have c1 : wr.cell? ⟨b, off + k * 2 + 1, none⟩ = some (v1) := hpw 1 (by simp)
      have L := Lib.hid (toK_Rule _ _ (D.getD k (dft sRule)) wr ((hrd.below hb).more hb.size) (sz_each HZ.out hkD))
      have R := Lib.hid (fun w1 xA0 xn0 xc0 xA1 xn1 xc1 ho bb => headCp_step (w1 := w1) (es := [.slice xA0 xn0 xc0, .slice xA1 xn1 xc1]) hlt hr hs hnd hi hb ho bb)
      have rr := hr
      have hsz : ks.size = n * 2 := hs
      have HS := Lib.hid hsz
      clear hr hs hnd hi hb hrd hel hp hpw hsz
      go_wp2_with fail
      refine L.out.mono ?_
      rintro e w1 ⟨xA0, xn0, xc0, xA1, xn1, xc1, rfl, ho, bb⟩
      have S := Lib.hid (R.out w1 xA0 xn0 xc0 xA1 xn1 xc1 ho bb)
      have rr1 := rr.next bb
      obtain ⟨u0, hu0⟩ : ∃ u, w1.cell? ⟨w.heap.size, k * 2, none⟩ = some u := ⟨_, (rr1.cell _).trans (Array.getElem?_eq_getElem (by rw [HS.out]; omega))⟩
      have hf0 : w1.frozen? ⟨w.heap.size, k * 2, none⟩ = false := rr1.free _
      obtain ⟨u1, hu1⟩ : ∃ u, w1.cell? ⟨w.heap.size, k * 2 + 1, none⟩ = some u := ⟨_, (rr1.cell _).trans (Array.getElem?_eq_getElem (by rw [HS.out]; omega))⟩
      have hf1 : w1.frozen? ⟨w.heap.size, k * 2 + 1, none⟩ = false := rr1.free _
      clear ho bb rr rr1 L R
      go_wp2
      go_roundw
      case rel => exact S.out
      case measure => simp [intOf]; omega
    · have e1 : k = n := by omega
      subst e1
      have F := Lib.hid (headCp_end HN.out hn1 hr hs hnd hi hb)
      clear hr hs hnd hi hb
      go_wp2
      go_ret
      exact F.out

set_option maxHeartbeats 2000000 in
theorem eqK_RuleS (v u : Value) (D : List (Dat sRule)) (w : World) (h : Rd w w.heap.size sRuleS [v] D) (h' : Rd w w.heap.size sRuleS [u] D) (hz : sz sRuleS D ≤ 1048576) :
    Calls Try.prog 66 #[v, u] w (Yes w) := by
  obtain ⟨A, c, rfl, hcap⟩ := h.slice
  obtain ⟨A', c', rfl, hcap'⟩ := h'.slice
  obtain ⟨n, hn⟩ : ∃ n, D.length = n := ⟨_, rfl⟩
  have hn1 : n ≤ 1048576 := by rw [← hn]; exact sz_len hz
  rw [hn] at h h' hcap hcap' ⊢
  have HN := Lib.hid hn
  have H := Lib.hid h
  have H' := Lib.hid h'
  have HZ := Lib.hid hz
  clear hcap hcap' hn h h' hz
  go_enter Try.func66, Try.ntmps66
  go_wp2
  go_loopw [5] (fun i wr => ∃ k : Nat, k ≤ n ∧ i = .int .i64 k ∧ Below w.heap.size w wr) (fun i _ => n - (intOf i).toNat)
  case atStart => exact ⟨0, Nat.zero_le _, rfl, Below.refl _ _⟩
  case round =>
    obtain ⟨k, hk, rfl, hb⟩ := hrel
    by_cases hlt : k < n
    · have hkD : k < D.length := by rw [HN.out]; exact hlt
      obtain ⟨b, off, n2, c2, es, ev, -, -, hbB, hel, hp, hrd⟩ := H.out.elem hkD
      injection ev with e1 e2 e3
      subst e1 e2 e3
      obtain ⟨b', off', n2, c2, es', ev, -, -, hbB', hel', hp', hrd'⟩ := H'.out.elem hkD
      injection ev with e1 e2 e3
      subst e1 e2 e3
      obtain ⟨v0, v1, rfl⟩ := cells_Rule hrd
      obtain ⟨u0, u1, rfl⟩ := cells_Rule hrd'
      replace hb := hb.drew
      have hpw := hp.keep (w' := wr.drew) (fun p hp => hb.cell (p := p) (by rw [hp]; exact hbB))
      have hpw' := hp'.keep (w' := wr.drew) (fun p hp => hb.cell (p := p) (by rw [hp]; exact hbB'))
      have c0 : wr.drew.cell? ⟨b, off + k * 2, none⟩ = some (v0) := hpw 0 (by simp)
      have c0' : wr.drew.cell? ⟨b', off' + k * 2, none⟩ = some (u0) := hpw' 0 (by simp)
      have c1 : wr.drew.cell? ⟨b, off + k * 2 + 1, none⟩ = some (v1) := hpw 1 (by simp)
      have c1' : wr.drew.cell? ⟨b', off' + k * 2 + 1, none⟩ = some (u1) := hpw' 1 (by simp)
      have L := Lib.hid (eqK_Rule _ _ _ _ (D.getD k (dft sRule)) wr.drew ((hrd.below hb).more hb.size) ((hrd'.below hb).more hb.size) (sz_each HZ.out hkD))
      have HB := Lib.hid hb
      have hlb : b < wr.drew.heap.size := Nat.lt_of_lt_of_le hbB hb.size
      have hlb' : b' < wr.drew.heap.size := Nat.lt_of_lt_of_le hbB' hb.size
      clear hrd hrd' hel hel' hp hp' hpw hpw' hb
      go_wp2_with fail
      go_region_held3 (fun w' => w'.cell? ⟨b, off + k * 2, none⟩ = some (v0) ∧ w'.cell? ⟨b', off' + k * 2, none⟩ = some (u0) ∧ w'.cell? ⟨b, off + k * 2 + 1, none⟩ = some (v1) ∧ w'.cell? ⟨b', off' + k * 2 + 1, none⟩ = some (u1))
        (go_keep)
        (first | (go_at_call 99; refine L.out.mono ?_; rintro e w1 ⟨rfl, bb⟩; have m0 := (bb.cell (p := ⟨b, off + k * 2, none⟩) hlb).trans c0; have m1 := (bb.cell (p := ⟨b', off' + k * 2, none⟩) hlb').trans c0'; have m2 := (bb.cell (p := ⟨b, off + k * 2 + 1, none⟩) hlb).trans c1; have m3 := (bb.cell (p := ⟨b', off' + k * 2 + 1, none⟩) hlb').trans c1'))
      have HB1 := Lib.hid (next_trans HB.out bb)
      clear bb L c0 c0' c1 c1' m0 m1 m2 m3
      go_wp2
      go_roundw
      case rel => exact ⟨k + 1, hlt, by simp, HB1.out⟩
      case measure => simp [intOf]; omega
    · have HB := Lib.hid hb
      clear hb
      go_wp2
      go_ret
      exact ⟨rfl, HB.out⟩

set_option maxHeartbeats 2000000 in
theorem markK_RuleS (v : Value) (D : List (Dat sRule)) (k : Int) (F : List Nat) (w : World) (h : Ow w sRuleS [v] D F) (hF : F.Nodup) (hz : sz sRuleS D ≤ 1048576) (hk0 : 0 ≤ k) (hk : k + (cntv sRuleS D : Int) ≤ 1099511627776) :
    Calls Try.prog 72 #[v, .int .i64 k] w (AnsMarkF w sRuleS [v] D k F) := by
  obtain ⟨A, c, rfl, hcap⟩ := h.rd.slice
  have hn1 := sz_len hz
  obtain ⟨n, hn⟩ : ∃ n, D.length = n := ⟨_, rfl⟩
  rw [hn] at h hcap hn1 ⊢
  have HN := Lib.hid hn
  have HZ := Lib.hid hz
  have S0 := Lib.hid (headMk_zero (k := k) h)
  clear h hcap hn hz
  go_enter Try.func72, Try.ntmps72
  go_wp2
  go_loopw [1, 5] (fun kk i wr => HeadMk w 115 sRule (.slice A n c) D k F kk i wr) (fun _ i _ => n - (intOf i).toNat)
  case atStart => exact S0.out
  case round =>
    obtain ⟨j, hj, rfl, rfl, ho, hb⟩ := hrel
    clear S0
    rw [HN.out] at hj
    by_cases hlt : j < n
    · have hjD : j < D.length := by rw [HN.out]; exact hlt
      obtain ⟨g, n2, c2, es, Gj, ev, -, hel, hp, hg, oe, ng, gG, sub, R⟩ := ho.elem' hF (j := j) (by rw [mixed_len]; exact hjD)
      injection ev with e1 e2 e3
      subst e1 e2 e3
      rw [mixed_get hjD] at oe
      obtain ⟨v0, v1, rfl⟩ := cells_Rule oe.rd
      obtain ⟨F0, R0, eF0, o0, o1⟩ := Ow.split (ca := [v0]) (cb := [v1]) oe rfl
      rw [eF0] at ng
      obtain ⟨n0, nr0, x0, y0⟩ := dis_app ng
      have g0 : g ∉ F0 := fun hb => gG (by rw [eF0]; exact List.mem_append_left _ hb)
      have g1 : g ∉ R0 := fun hb => gG (by rw [eF0]; exact (List.mem_append_right _ hb))
      have sub0 : ∀ x ∈ F0, x ∈ Gj := fun x hb => by rw [eF0]; exact List.mem_append_left _ hb
      have sub1 : ∀ x ∈ R0, x ∈ Gj := fun x hb => by rw [eF0]; exact (List.mem_append_right _ hb)
      obtain ⟨z0, hz0⟩ : ∃ z, cntv sI ((D.getD j (dft sRule)).1) = z := ⟨_, rfl⟩
      obtain ⟨z1, hz1⟩ : ∃ z, cntv sI ((D.getD j (dft sRule)).2) = z := ⟨_, rfl⟩
      have hzz : cnt sRule (D.getD j (dft sRule)) = z0 + z1 := by rw [← hz0, ← hz1]; rfl
      have hcn := headMk_cnt (e := 115) hjD
      rw [hzz] at hcn
      obtain ⟨q, hq⟩ : ∃ q, k + (cnts sRule D j : Int) = q := ⟨_, rfl⟩
      have q0 : 0 ≤ q := by omega
      have q1 : q + (z0 : Int) + (z1 : Int) ≤ 1099511627776 := by have : (cntv sRuleS D : Int) = (cntv (.row 115 sRule) D : Nat) := rfl; omega
      have Z0 : Hid (sz sI ((D.getD j (dft sRule)).1) ≤ 1048576) := Lib.hid (by have := sz_each HZ.out hjD; simp only [sz] at this ⊢; omega)
      have HZ0 := Lib.hid hz0
      have Z1 : Hid (sz sI ((D.getD j (dft sRule)).2) ≤ 1048576) := Lib.hid (by have := sz_each HZ.out hjD; simp only [sz] at this ⊢; omega)
      have HZ1 := Lib.hid hz1
      rw [hq]
      have HEF : Hid (Gj = (F0 ++ R0)) := Lib.hid (by rw [eF0])
      have HR := Lib.hid R
      have HB := Lib.hid hb
      have HQ := Lib.hid hq
      have HZZ := Lib.hid hzz
      have SUB := Lib.hid sub
      have on : Only Gj wr wr := Only.refl _ _
      have c0 : wr.cell? ⟨g, j * 2, none⟩ = some (v0) := by simpa [nc] using hp 0 (by simp)
      have c1 : wr.cell? ⟨g, j * 2 + 1, none⟩ = some (v1) := by simpa [nc] using hp 1 (by simp)
      clear R hb hq hzz hcn ho oe sub hp hel gG hz0 hz1 eF0
      go_wp2_with fail
      refine (markK_ints _ _ q F0 _ o0 Z0.out (by omega) (by omega)).mono ?_
      rintro e w1 ⟨he, o0, on0⟩
      rw [HZ0.out] at he
      replace o1 := o1.only on0 y0
      have hgl : g < wr.heap.size := Nat.lt_of_lt_of_le hg on.size
      replace c0 := (World.cell?_of_block (a := ⟨g, j * 2, none⟩) (on0.block g hgl g0)).trans c0
      replace c1 := (World.cell?_of_block (a := ⟨g, j * 2 + 1, none⟩) (on0.block g hgl g0)).trans c1
      replace on := on.trans (on0.wider sub0)
      clear on0 hgl
      obtain ⟨k0, hk0⟩ : ∃ l, q + (z0 : Int) = l := ⟨_, rfl⟩
      rw [hk0] at he
      have l0 : 0 ≤ k0 := by omega
      have u0 : k0  + (z1 : Int) ≤ 1099511627776 := by omega
      subst he
      have HK0 := Lib.hid hk0
      clear hk0
      go_wp2_with fail
      refine (markK_ints _ _ k0 R0 _ o1 Z1.out (by omega) (by omega)).mono ?_
      rintro e w2 ⟨he, o1, on1⟩
      rw [HZ1.out] at he
      replace o0 := o0.only on1 x0
      have hgl : g < w1.heap.size := Nat.lt_of_lt_of_le hg on.size
      replace c0 := (World.cell?_of_block (a := ⟨g, j * 2, none⟩) (on1.block g hgl g1)).trans c0
      replace c1 := (World.cell?_of_block (a := ⟨g, j * 2 + 1, none⟩) (on1.block g hgl g1)).trans c1
      replace on := on.trans (on1.wider sub1)
      clear on1 hgl
      obtain ⟨k1, hk1⟩ : ∃ l, k0 + (z1 : Int) = l := ⟨_, rfl⟩
      rw [hk1] at he
      have l1 : 0 ≤ k1 := by omega
      have u1 : k1  ≤ 1099511627776 := by omega
      subst he
      have HK1 := Lib.hid hk1
      clear hk1
      have e0 : k0 = q + (cntv sI ((D.getD j (dft sRule)).1) : Int) := by have := HK0.out; have := HZ0.out; omega
      rw [e0] at o1
      have S : HeadMk w 115 sRule (.slice (some ⟨g, 0, none⟩) n c) D k F (.int .i64 k1) (.int .i64 ((j : Int) + 1)) w2 := by
        have h1 := HR.out w2 (mkc sRule q (D.getD j (dft sRule))) (by rw [HEF.out]; exact (Ow.join o0 o1)) on
        have h2 := headMk_step (z := z0 + z1) hjD HB.out (on.wider SUB.out) HZZ.out (by rw [HQ.out]) h1
        have h3 : k + (cnts sRule D j : Int) + ((z0 + z1 : Nat) : Int) = k1 := by have := HQ.out; have := HK0.out; have := HK1.out; omega
        rw [h3] at h2
        exact h2
      have HS := Lib.hid S
      clear S on o0 o1 c0 c1 e0
      go_wp2
      go_roundw
      case rel => exact HS.out
      case measure => simp [intOf]; omega
    · have F1 := Lib.hid (headMk_end (by rw [HN.out]; exact hlt) (by rw [HN.out]; exact hj) ho hb)
      clear ho hb
      generalize cnts sRule D j = z at *
      go_wp2
      go_ret
      exact F1.out

abbrev sSystem : Sh := .cat sSig sRuleS
theorem parts_System {w : World} {B : Nat} {v0 v1 : Value} {d : Dat sSystem} (h : Rd w B sSystem [v0, v1] d) : Rd w B sSig [v0] d.1 ∧ Rd w B sRuleS [v1] d.2 := by
  obtain ⟨p0, q0⟩ := Rd.split (ca := [v0]) (cb := [v1]) h rfl
  exact ⟨p0, q0⟩
theorem join_System {w : World} {lo hi : Nat} {v0 v1 : Value} {d : Dat sSystem} {m0 m1 m2 : Nat} (o0 : Owned w m0 m1 sSig [v0] d.1) (o1 : Owned w m1 m2 sRuleS [v1] d.2) (l0 : m0 ≤ m1) (l1 : m1 ≤ m2) (hl : lo ≤ m0) (hh : m2 ≤ hi) : Owned w lo hi sSystem [v0, v1] d := by
  exact ((Owned.cat o0 o1 (Nat.le_refl _) (by omega) (by omega)) : Owned w m0 m2 sSystem [v0, v1] d).wider hl hh
theorem cells_System {w : World} {B : Nat} {es : List Value} {d : Dat sSystem} (h : Rd w B sSystem es d) : ∃ (v0 : Value) (v1 : Value), es = [v0, v1] := by
  obtain ⟨ca0, cb0, e0, p0, q0⟩ := h
  obtain ⟨u0, z0⟩ := cells_Sig p0
  obtain ⟨A1, n1, c1, z1, -⟩ := q0
  exact ⟨u0, .slice A1 n1 c1, by rw [e0, z0, z1] <;> rfl⟩

set_option maxHeartbeats 2000000 in
theorem szK_System (v0 v1 : Value) (d : Dat sSystem) (left : Int) (w : World) (h : Rd w w.heap.size sSystem [v0, v1] d) (h0 : 0 ≤ left) (h1 : left ≤ 1048576) :
    Calls Try.prog 23 #[.agg #[v0, v1], .int .i64 left] w (AnsSzK w left (sz sSystem d)) := by
  obtain ⟨g0, g1⟩ := parts_System h
  obtain ⟨t0, ht0⟩ : ∃ t, sz sSig d.1 = t := ⟨_, rfl⟩
  obtain ⟨t1, ht1⟩ : ∃ t, sz sRuleS d.2 = t := ⟨_, rfl⟩
  have HE : Hid (sz sSystem d = t0 + t1) := Lib.hid (by rw [← ht0, ← ht1]; simp only [sz]; try omega)
  have HT0 := Lib.hid ht0
  have G0 := Lib.hid g0
  have HT1 := Lib.hid ht1
  have G1 := Lib.hid g1
  obtain ⟨W, hW⟩ : ∃ W, W = w.alloc (.cells #[v0, v1] 41) := ⟨_, rfl⟩
  have r : Row W w.heap.size 41 #[v0, v1] := by rw [hW]; exact Row.new _ _ _
  have bel : Below w.heap.size w W := by rw [hW]; exact (Below.refl _ _).alloc (Nat.le_refl _) _
  have HW := Lib.hid hW
  clear hW h g0 g1 ht0 ht1
  go_enter Try.func23, Try.ntmps23
  go_wp2_with fail
  rw [← HW.out]
  refine (szK_Sig _ _ left W (G0.out.next bel) h0 h1).mono ?_
  rintro e w1 ⟨he, bb⟩
  rw [HT0.out] at he
  replace r := r.next bb
  replace bel := next_trans bel bb
  clear bb
  by_cases q0 : left - (t0 : Int) < 0
  · rw [if_pos q0] at he
    subst he
    have F : AnsSzK w left (sz sSystem d) (.returned (.int .i64 (-1))) w1 := ⟨by rw [HE.out, if_pos (by omega)], bel⟩
    have HF := Lib.hid F
    clear F bel r
    go_wp2
    go_ret
    exact HF.out
  rw [if_neg q0] at he
  obtain ⟨l0, hl0⟩ : ∃ l, left - (t0 : Int) = l := ⟨_, rfl⟩
  rw [hl0] at he
  have a0 : 0 ≤ l0 := by omega
  have b0 : l0 ≤ 1048576 := by omega
  have HL0 := Lib.hid hl0
  clear hl0 q0
  subst he
  have c0_0 : w1.cell? ⟨w.heap.size, 1, none⟩ = some (v1) := r.cell 1
  go_wp2_with fail
  refine (szK_RuleS _ _ l0 w1 (G1.out.next bel) a0 b0).mono ?_
  rintro e w2 ⟨he, bb⟩
  rw [HT1.out] at he
  replace r := r.next bb
  replace bel := next_trans bel bb
  clear bb
  by_cases q1 : l0 - (t1 : Int) < 0
  · rw [if_pos q1] at he
    subst he
    have F : AnsSzK w left (sz sSystem d) (.returned (.int .i64 (-1))) w2 := ⟨by have := HL0.out; rw [HE.out, if_pos (by omega)], bel⟩
    have HF := Lib.hid F
    clear F bel r
    go_wp2
    go_ret
    exact HF.out
  rw [if_neg q1] at he
  obtain ⟨l1, hl1⟩ : ∃ l, l0 - (t1 : Int) = l := ⟨_, rfl⟩
  rw [hl1] at he
  have a1 : 0 ≤ l1 := by omega
  have b1 : l1 ≤ 1048576 := by omega
  have HL1 := Lib.hid hl1
  clear hl1 q1
  subst he
  have F : AnsSzK w left (sz sSystem d) (.returned (.int .i64 l1)) w2 := ⟨by have := HL0.out; have := HL1.out; rw [HE.out, if_neg (by omega)]; exact congrArg (fun z => Ending.returned (.int .i64 z)) (by omega), bel⟩
  have HF := Lib.hid F
  clear F bel r
  go_wp2
  go_ret
  exact HF.out

def CopySystem (w : World) (d : Dat sSystem) (e : Ending) (w' : World) : Prop := ∃ A0 n0 c0 A1 n1 c1, e = .returned (.agg #[.slice A0 n0 c0, .slice A1 n1 c1]) ∧ Owned w' w.heap.size w'.heap.size sSystem [.slice A0 n0 c0, .slice A1 n1 c1] d ∧ Below w.heap.size w w'
set_option maxHeartbeats 2000000 in
theorem toK_System (v0 v1 : Value) (d : Dat sSystem) (w : World) (h : Rd w w.heap.size sSystem [v0, v1] d) (hz : sz sSystem d ≤ 1048576) :
    Calls Try.prog 25 #[.agg #[v0, v1]] w (CopySystem w d) := by
  obtain ⟨g0, g1⟩ := parts_System h
  have cp0 := CpS.zero w 41 29 #[v0, v1] #[.slice none 0 0, .slice none 0 0]
  obtain ⟨W, hW⟩ : ∃ W, W = ((w.alloc (.cells #[v0, v1] 41)).alloc (.cells #[.slice none 0 0, .slice none 0 0] 29)).alloc (.cells #[.slice none 0 0, .slice none 0 0] 29) := ⟨_, rfl⟩
  rw [← hW] at cp0
  have HW := Lib.hid hW
  have G0 := Lib.hid g0
  have Z0 : Hid (sz sSig d.1 ≤ 1048576) := Lib.hid (by have := hz; simp only [sz] at this ⊢; omega)
  have G1 := Lib.hid g1
  have Z1 : Hid (sz sRuleS d.2 ≤ 1048576) := Lib.hid (by have := hz; simp only [sz] at this ⊢; omega)
  clear hW hz h g0 g1
  go_enter Try.func25, Try.ntmps25
  go_wp2_with fail
  rw [← HW.out]
  refine (toK_Sig _ _ _ ((G0.out.below cp0.bel).more cp0.bel.size) Z0.out).mono ?_
  rintro e w1 ⟨x0A0, x0n0, x0c0, rfl, o0, bb⟩
  have zb0 := bb.size
  have zc0 := cp0.size
  replace cp0 := cp0.next bb
  clear bb
  have f0_0 : w1.frozen? ⟨w.heap.size + 1 + 1, 0, none⟩ = false := cp0.cur.free 0
  have k0_0 : w1.cell? ⟨w.heap.size + 1 + 1, 0, none⟩ = some (.slice none 0 0) := cp0.cur.cell 0
  obtain ⟨w2, hw0⟩ : ∃ x, x = (w1.setCell ⟨w.heap.size + 1 + 1, 0, none⟩ (.slice x0A0 x0n0 x0c0)) := ⟨_, rfl⟩
  replace o0 := o0.put (g := w.heap.size + 1 + 1) (i := 0) (u := .slice x0A0 x0n0 x0c0) (by omega)
  rw [← hw0] at o0
  replace cp0 : CpS w 41 29 #[v0, v1] #[.slice none 0 0, .slice none 0 0] #[.slice x0A0 x0n0 x0c0, .slice none 0 0] w2 := by rw [hw0]; exact (CpS.put cp0 0 (.slice x0A0 x0n0 x0c0))
  have zw0 : w2.heap.size = w1.heap.size := by rw [hw0]; simp
  have HW0 := Lib.hid hw0
  clear hw0
  have d1_0 : w2.cell? ⟨w.heap.size, 1, none⟩ = some (v1) := cp0.box.cell 1
  rw [HW0.out] at d1_0
  go_wp2_with fail
  rw [← HW0.out]
  clear d1_0
  refine (toK_RuleS _ _ _ ((G1.out.below cp0.bel).more cp0.bel.size) Z1.out).mono ?_
  rintro e w3 ⟨x1A0, x1n0, x1c0, rfl, o1, bb⟩
  replace o0 := o0.next bb
  have zb1 := bb.size
  have zc1 := cp0.size
  replace cp0 := cp0.next bb
  clear bb
  have f1_0 : w3.frozen? ⟨w.heap.size + 1 + 1, 1, none⟩ = false := cp0.cur.free 1
  have k1_0 : w3.cell? ⟨w.heap.size + 1 + 1, 1, none⟩ = some (.slice none 0 0) := cp0.cur.cell 1
  obtain ⟨w4, hw1⟩ : ∃ x, x = (w3.setCell ⟨w.heap.size + 1 + 1, 1, none⟩ (.slice x1A0 x1n0 x1c0)) := ⟨_, rfl⟩
  replace o0 := o0.put (g := w.heap.size + 1 + 1) (i := 1) (u := .slice x1A0 x1n0 x1c0) (by omega)
  rw [← hw1] at o0
  replace o1 := o1.put (g := w.heap.size + 1 + 1) (i := 1) (u := .slice x1A0 x1n0 x1c0) (by omega)
  rw [← hw1] at o1
  replace cp0 : CpS w 41 29 #[v0, v1] #[.slice none 0 0, .slice none 0 0] #[.slice x0A0 x0n0 x0c0, .slice x1A0 x1n0 x1c0] w4 := by rw [hw1]; exact (CpS.put cp0 1 (.slice x1A0 x1n0 x1c0))
  have zw1 : w4.heap.size = w3.heap.size := by rw [hw1]; simp
  have HW1 := Lib.hid hw1
  clear hw1
  have y0 : w4.cell? ⟨w.heap.size + 1 + 1, 0, none⟩ = some (.slice x0A0 x0n0 x0c0) := cp0.cur.cell 0
  rw [HW1.out] at y0
  have y1 : w4.cell? ⟨w.heap.size + 1 + 1, 1, none⟩ = some (.slice x1A0 x1n0 x1c0) := cp0.cur.cell 1
  rw [HW1.out] at y1
  have s0 : (w4).cell? ⟨w.heap.size + 1, 0, none⟩ = some (.slice none 0 0) := cp0.res.cell 0
  rw [HW1.out] at s0
  have r0 : (w4).frozen? ⟨w.heap.size + 1, 0, none⟩ = false := cp0.res.free 0
  rw [HW1.out] at r0
  have s1 : ((w4.setCell ⟨w.heap.size + 1, 0, none⟩ (.slice x0A0 x0n0 x0c0))).cell? ⟨w.heap.size + 1, 1, none⟩ = some (.slice none 0 0) := (CpS.fin cp0 0 (.slice x0A0 x0n0 x0c0)).res.cell 1
  rw [HW1.out] at s1
  have r1 : ((w4.setCell ⟨w.heap.size + 1, 0, none⟩ (.slice x0A0 x0n0 x0c0))).frozen? ⟨w.heap.size + 1, 1, none⟩ = false := (CpS.fin cp0 0 (.slice x0A0 x0n0 x0c0)).res.free 1
  rw [HW1.out] at r1
  have oo : Owned w4 (w.heap.size + 1 + 1 + 1) w4.heap.size sSystem [.slice x0A0 x0n0 x0c0, .slice x1A0 x1n0 x1c0] d := join_System (m0 := W.heap.size) (m1 := w2.heap.size) (m2 := w4.heap.size) (o0.wider (Nat.le_refl _) (by omega)) (o1.wider (Nat.le_refl _) (by omega)) (by omega) (by omega) (by omega) (by omega)
  have F : CopySystem w d (.returned (.agg #[.slice x0A0 x0n0 x0c0, .slice x1A0 x1n0 x1c0])) ((w4.setCell ⟨w.heap.size + 1, 0, none⟩ (.slice x0A0 x0n0 x0c0)).setCell ⟨w.heap.size + 1, 1, none⟩ (.slice x1A0 x1n0 x1c0)) := ⟨x0A0, x0n0, x0c0, x1A0, x1n0, x1c0, rfl, Owned.wider (((oo.put (g := w.heap.size + 1) (i := 0) (u := .slice x0A0 x0n0 x0c0) (by omega)).put (g := w.heap.size + 1) (i := 1) (u := .slice x1A0 x1n0 x1c0) (by omega))) (by omega) (by simp), ((CpS.fin (CpS.fin cp0 0 (.slice x0A0 x0n0 x0c0)) 1 (.slice x1A0 x1n0 x1c0))).bel⟩
  have u0 : (((w4.setCell ⟨w.heap.size + 1, 0, none⟩ (.slice x0A0 x0n0 x0c0)).setCell ⟨w.heap.size + 1, 1, none⟩ (.slice x1A0 x1n0 x1c0))).cell? ⟨w.heap.size + 1, 0, none⟩ = some (.slice x0A0 x0n0 x0c0) := (CpS.fin (CpS.fin cp0 0 (.slice x0A0 x0n0 x0c0)) 1 (.slice x1A0 x1n0 x1c0)).res.cell 0
  rw [HW1.out] at u0
  have u1 : (((w4.setCell ⟨w.heap.size + 1, 0, none⟩ (.slice x0A0 x0n0 x0c0)).setCell ⟨w.heap.size + 1, 1, none⟩ (.slice x1A0 x1n0 x1c0))).cell? ⟨w.heap.size + 1, 1, none⟩ = some (.slice x1A0 x1n0 x1c0) := (CpS.fin (CpS.fin cp0 0 (.slice x0A0 x0n0 x0c0)) 1 (.slice x1A0 x1n0 x1c0)).res.cell 1
  rw [HW1.out] at u1
  rw [HW1.out] at F
  have HF := Lib.hid F
  clear F oo cp0 o0 o1
  go_wp2
  exact bodyPost_ret (v := .agg #[.slice x0A0 x0n0 x0c0, .slice x1A0 x1n0 x1c0]) (by simp [results, Try.results25, go_sem, u0, u1]) rfl HF.out

set_option maxHeartbeats 2000000 in
theorem eqK_System (v0 v1 u0 u1 : Value) (d : Dat sSystem) (w : World) (h : Rd w w.heap.size sSystem [v0, v1] d) (h' : Rd w w.heap.size sSystem [u0, u1] d) (hz : sz sSystem d ≤ 1048576) :
    Calls Try.prog 27 #[.agg #[v0, v1], .agg #[u0, u1]] w (Yes w) := by
  obtain ⟨g0, g1⟩ := parts_System h
  obtain ⟨g0', g1'⟩ := parts_System h'
  obtain ⟨W, hW⟩ : ∃ W, W = (w.alloc (.cells #[v0, v1] 29)).alloc (.cells #[u0, u1] 29) := ⟨_, rfl⟩
  have ra : Row W w.heap.size 29 #[v0, v1] := by rw [hW]; exact (Row.new w 29 #[v0, v1]).alloc _
  have rb : Row W (w.heap.size + 1) 29 #[u0, u1] := by rw [hW]; have := Row.new (w.alloc (.cells #[v0, v1] 29)) 29 #[u0, u1]; simpa using this
  have bel : Below w.heap.size w W := by rw [hW]; exact ((Below.refl _ _).alloc (Nat.le_refl _) _).alloc (by simp) _
  have HW := Lib.hid hW
  have G0 := Lib.hid g0
  have G0' := Lib.hid g0'
  have Z0 : Hid (sz sSig d.1 ≤ 1048576) := Lib.hid (by have := hz; simp only [sz] at this ⊢; omega)
  have G1 := Lib.hid g1
  have G1' := Lib.hid g1'
  have Z1 : Hid (sz sRuleS d.2 ≤ 1048576) := Lib.hid (by have := hz; simp only [sz] at this ⊢; omega)
  clear hW hz h h' g0 g0' g1 g1'
  go_enter Try.func27, Try.ntmps27
  go_wp2_with fail
  rw [← HW.out]
  refine (eqK_Sig _ _ _ W (G0.out.next bel) (G0'.out.next bel) Z0.out).mono ?_
  rintro e w1 ⟨rfl, bb⟩
  replace ra := ra.next bb
  replace rb := rb.next bb
  replace bel := next_trans bel bb
  clear bb
  have a1_0 : w1.cell? ⟨w.heap.size, 1, none⟩ = some (v1) := ra.cell 1
  have b1_0 : w1.cell? ⟨w.heap.size + 1, 1, none⟩ = some (u1) := rb.cell 1
  go_wp2_with fail
  clear a1_0 b1_0
  refine (eqK_RuleS _ _ _ w1 (G1.out.next bel) (G1'.out.next bel) Z1.out).mono ?_
  rintro e w2 ⟨rfl, bb⟩
  replace ra := ra.next bb
  replace rb := rb.next bb
  replace bel := next_trans bel bb
  clear bb
  have F : Yes w (.returned (.bool true)) w2 := ⟨rfl, bel⟩
  have HF := Lib.hid F
  clear F ra rb bel
  go_wp2
  go_ret
  exact HF.out

set_option maxHeartbeats 2000000 in
theorem markK_System (v0 v1 : Value) (d : Dat sSystem) (k : Int) (F : List Nat) (w : World) (h : Ow w sSystem [v0, v1] d F) (hF : F.Nodup) (hz : sz sSystem d ≤ 1048576) (hk0 : 0 ≤ k) (hk : k + (cntv sSystem d : Int) ≤ 1099511627776) :
    Calls Try.prog 31 #[.agg #[v0, v1], .int .i64 k] w (AnsMarkF w sSystem [v0, v1] d k F) := by
  have hlt := h.lt
  obtain ⟨F0, R0, eF0, o0, o1⟩ := Ow.split (ca := [v0]) (cb := [v1]) h rfl
  rw [eF0] at hF
  obtain ⟨n0, nr0, x0, y0⟩ := dis_app hF
  obtain ⟨z0, hz0⟩ : ∃ z, cntv sSig d.1 = z := ⟨_, rfl⟩
  obtain ⟨z1, hz1⟩ : ∃ z, cntv sRuleS d.2 = z := ⟨_, rfl⟩
  have hc : (cntv sSystem d : Int) = (z0 : Int) + (z1 : Int) := by rw [← hz0, ← hz1]; first | done | (simp only [cntv]; try omega)
  have Z0 : Hid (sz sSig d.1 ≤ 1048576) := Lib.hid (by have := hz; simp only [sz] at this ⊢; omega)
  have HZ0 := Lib.hid hz0
  have Z1 : Hid (sz sRuleS d.2 ≤ 1048576) := Lib.hid (by have := hz; simp only [sz] at this ⊢; omega)
  have HZ1 := Lib.hid hz1
  have HC := Lib.hid hc
  rw [hc] at hk
  obtain ⟨W, hW⟩ : ∃ W, W = w.alloc (.cells #[v0, v1] 29) := ⟨_, rfl⟩
  have r : Row W w.heap.size 29 #[v0, v1] := by rw [hW]; exact Row.new _ _ _
  have bel : Below w.heap.size w W := by rw [hW]; exact (Below.refl _ _).alloc (Nat.le_refl _) _
  replace o0 := o0.next bel
  replace o1 := o1.next bel
  have nb0 : w.heap.size ∉ F0 := fun hb => by have := hlt _ (by rw [eF0]; exact List.mem_append_left _ hb); omega
  have nb1 : w.heap.size ∉ R0 := fun hb => by have := hlt _ (by rw [eF0]; exact (List.mem_append_right _ hb)); omega
  have sub0 : ∀ x ∈ F0, x ∈ F := fun x hb => by rw [eF0]; exact List.mem_append_left _ hb
  have sub1 : ∀ x ∈ R0, x ∈ F := fun x hb => by rw [eF0]; exact (List.mem_append_right _ hb)
  have on : Only F w W := Only.of_below bel
  have HW := Lib.hid hW
  have HEF : Hid (F = (F0 ++ R0)) := Lib.hid (by rw [eF0])
  clear hW h hz hc bel hlt hz0 hz1 eF0
  go_enter Try.func31, Try.ntmps31
  go_wp2_with fail
  rw [← HW.out]
  refine (markK_Sig _ _ k F0 _ o0 n0 Z0.out (by omega) (by rw [HZ0.out]; omega)).mono ?_
  rintro e w1 ⟨he, o0, on0⟩
  rw [HZ0.out] at he
  replace o1 := o1.only on0 y0
  replace r := Row.only r on0 nb0
  replace on := on.trans (on0.wider sub0)
  clear on0
  obtain ⟨k0, hk0⟩ : ∃ l, k + (z0 : Int) = l := ⟨_, rfl⟩
  rw [hk0] at he
  have l0 : 0 ≤ k0 := by omega
  have u0 : k0  + (z1 : Int) ≤ 1099511627776 := by omega
  subst he
  have HK0 := Lib.hid hk0
  clear hk0
  have c1_0 : w1.cell? ⟨w.heap.size, 1, none⟩ = some (v1) := r.cell 1
  go_wp2_with fail
  clear c1_0
  refine (markK_RuleS _ _ k0 R0 _ o1 nr0 Z1.out (by omega) (by rw [HZ1.out]; omega)).mono ?_
  rintro e w2 ⟨he, o1, on1⟩
  rw [HZ1.out] at he
  replace o0 := o0.only on1 x0
  replace r := Row.only r on1 nb1
  replace on := on.trans (on1.wider sub1)
  clear on1
  obtain ⟨k1, hk1⟩ : ∃ l, k0 + (z1 : Int) = l := ⟨_, rfl⟩
  rw [hk1] at he
  have l1 : 0 ≤ k1 := by omega
  have u1 : k1  ≤ 1099511627776 := by omega
  subst he
  have HK1 := Lib.hid hk1
  clear hk1
  have F1 : AnsMarkF w sSystem [v0, v1] d k F (.returned (.int .i64 k1)) w2 := by
    refine ⟨congrArg (fun z => Ending.returned (.int .i64 z)) ?_, ?_, on⟩
    · rw [HC.out]; have := HK0.out; have := HK1.out; omega
    · rw [HEF.out]
      have e0 : k0 = k + (cntv sSig d.1 : Int) := by have := HK0.out; have := HZ0.out; omega
      rw [e0] at o1
      exact (Ow.join o0 o1)
  have HF := Lib.hid F1
  clear F1 on r o0 o1
  go_wp2
  go_ret
  exact HF.out

end Go.Proofs.Ytfkgiimcnlagmaa.kindsR
end

section
/-
  CONTRACTS: spec.l1Has, l2Order, l2By, l2Renamed, Renamed; slices.Index. Conditions: the slices read as lists ('Seg'), at most 1048576 numbers. By an AI agent.
-/
namespace Go.Proofs.Ytfkgiimcnlagmaa.rename
open Go.RowKit Go.Proofs.Ytfkgiimcnlagmaa.base Go.Proofs.Ytfkgiimcnlagmaa.ints Go.Proofs.Ytfkgiimcnlagmaa.sig Go.Proofs.Ytfkgiimcnlagmaa.term Go.Proofs.Ytfkgiimcnlagmaa.termOk Go.Proofs.Ytfkgiimcnlagmaa.marks Go.Proofs.Ytfkgiimcnlagmaa.app Go.Proofs.Ytfkgiimcnlagmaa.sym Go.Proofs.Ytfkgiimcnlagmaa.segs Go.Proofs.Ytfkgiimcnlagmaa.termFacts Go.Proofs.Ytfkgiimcnlagmaa.varsMath Go.Proofs.Ytfkgiimcnlagmaa.varsOf Go.Proofs.Ytfkgiimcnlagmaa.renMath
set_option maxRecDepth 100000

theorem mem_of_get {t : List Int} {k : Nat} {x : Int} (hk : k < t.length) (hx : t.getD k 0 = x) : x ∈ t := by
  rw [← hx]
  simp [List.getD, hk]
theorem not_mem_of {t : List Int} {x : Int} (h : ∀ j, j < t.length → t.getD j 0 ≠ x) : x ∉ t := fun hx => by
  obtain ⟨j, hj, e⟩ := List.getElem_of_mem hx
  exact h j hj (by simp [List.getD, hj, e])

/-- the first k are other numbers -/
def HeadNo (n : Nat) (xs : List Int) (x : Int) (i : Value) : Prop := ∃ k : Nat, k ≤ n ∧ i = .int .i64 k ∧ ∀ j, j < k → xs.getD j 0 ≠ x
theorem headNo_step {n k : Nat} {xs : List Int} {x y : Int} (hk : k < n) (h : ∀ j, j < k → xs.getD j 0 ≠ x) (hy : Hid (xs.getD k 0 = y)) (hne : ¬ y = x) : HeadNo n xs x (.int .i64 ((k : Int) + 1)) :=
  ⟨k + 1, hk, by simp, fun j hj => by
    by_cases e : j = k
    · subst e; rw [hy.out]; exact hne
    · exact h j (by omega)⟩

set_option maxHeartbeats 1000000 in
theorem l1Has (A : Option Addr) (n c : Nat) (xs : List Int) (x : Int) (w : World) (h : Seg w w.heap.size A n xs) (hn : n ≤ 1048576) :
    Calls Try.prog 137 #[.slice A n c, .int .i64 x] w fun e w' => w = w' ∧ e = .returned (.bool (decide (x ∈ xs))) := by
  have HX := Lib.hid h.1
  go_enter Try.func137, Try.ntmps137
  go_wp2
  go_loop [5] (fun i => HeadNo n xs x i) (fun i => n - (intOf i).toNat)
  case atStart => exact ⟨0, Nat.zero_le _, rfl, fun j hj => absurd hj (Nat.not_lt_zero _)⟩
  case round =>
    obtain ⟨k, hk, rfl, hlow⟩ := hrel
    by_cases hlt : k < n
    · obtain ⟨b, off, y, rfl, -, hy, ey⟩ := h.spot hlt
      by_cases he : y = x
      · subst he
        have F := Lib.hid (show y ∈ xs from mem_of_get (by rw [HX.out]; exact hlt) ey.out)
        have e1 : (y == y) = true := by simp
        clear h ey hlow
        go_wp2
        go_ret
        exact ⟨rfl, by rw [decide_eq_true F.out]; rfl⟩
      · have S := Lib.hid (headNo_step hlt hlow ey he)
        have e1 : (y == x) = false := by simp [he]
        clear h ey hlow
        go_wp2
        go_round
        case rel => exact S.out
        case measure => simp [intOf]; omega
    · have F := Lib.hid (not_mem_of (t := xs) (x := x) (fun j hj => hlow j (by rw [HX.out] at hj; omega)))
      clear h hlow
      go_wp2
      go_ret
      exact ⟨rfl, by rw [decide_eq_false F.out]; rfl⟩

/-- what slices.Index answers -/
def indexI (xs : List Int) (x : Int) : Int := if x ∈ xs then (idx xs x : Int) else -1
set_option maxHeartbeats 1000000 in
theorem indexOf (A : Option Addr) (n c : Nat) (xs : List Int) (x : Int) (w : World) (h : Seg w w.heap.size A n xs) (hn : n ≤ 1048576) :
    Calls Try.prog 140 #[.slice A n c, .int .i64 x] w fun e w' => w = w' ∧ e = .returned (.int .i64 (indexI xs x)) := by
  have HX := Lib.hid h.1
  go_enter Try.func140, Try.ntmps140
  go_wp2
  go_loop [8] (fun i => HeadNo n xs x i) (fun i => n - (intOf i).toNat)
  case atStart => exact ⟨0, Nat.zero_le _, rfl, fun j hj => absurd hj (Nat.not_lt_zero _)⟩
  case round =>
    obtain ⟨k, hk, rfl, hlow⟩ := hrel
    by_cases hlt : k < n
    · obtain ⟨b, off, y, rfl, -, hy, ey⟩ := h.spot hlt
      by_cases he : y = x
      · subst he
        have F := Lib.hid (show indexI xs y = (k : Int) by
          have hkl : k < xs.length := by rw [HX.out]; exact hlt
          unfold indexI
          rw [if_pos (mem_of_get hkl ey.out), idx_first hkl hlow ey.out])
        have e1 : (y == y) = true := by simp
        clear h ey hlow
        go_wp2
        go_ret
        exact ⟨rfl, by rw [F.out]; rfl⟩
      · have S := Lib.hid (headNo_step hlt hlow ey he)
        have e1 : (x == y) = false := by simp; exact fun e => he e.symm
        clear h ey hlow
        go_wp2
        go_round
        case rel => exact S.out
        case measure => simp [intOf]; omega
    · have F := Lib.hid (show indexI xs x = -1 by unfold indexI; rw [if_neg (not_mem_of (fun j hj => hlow j (by rw [HX.out] at hj; omega)))])
      clear h hlow
      go_wp2
      go_ret
      exact ⟨rfl, by rw [F.out]; rfl⟩

/-- the head of l2Order's loop -/
def HeadOrd (w : World) (m : Nat) (t : List Int) (out i : Value) (wr : World) : Prop :=
  ∃ (k : Nat) (O : Option Addr) (on oc : Nat), k ≤ m ∧ i = .int .i64 k ∧ out = .slice O on oc ∧ Own wr w.heap.size (.slice O on oc) (orderL (t.take k)) ∧ Below w.heap.size w wr

set_option maxHeartbeats 2000000 in
theorem l2Order (A : Option Addr) (m c : Nat) (t : List Int) (w : World) (h : Seg w w.heap.size A m t) (hm : m ≤ 1048576) :
    Calls Try.prog 146 #[.slice A m c] w (AnsList w (orderL t)) := by
  have HL := Lib.hid h.1
  have S0 : HeadOrd w m t (.slice (some ⟨w.heap.size, 0, none⟩) 0 0) (.int .i64 0) (w.alloc (.cells #[] 2)) :=
    ⟨0, _, _, _, Nat.zero_le _, rfl, rfl, by simpa [orderL] using own_empty w w.heap.size (Nat.le_refl _), (Below.refl _ _).alloc (Nat.le_refl _) _⟩
  have HS0 := Lib.hid S0
  clear S0
  go_enter Try.func146, Try.ntmps146
  go_wp2_with fail
  go_loopw [3, 4] (fun out i wr => HeadOrd w m t out i wr) (fun _ i _ => m - (intOf i).toNat)
  case atStart => exact HS0.out
  case round =>
    obtain ⟨k, O, on, oc, hk, rfl, rfl, ho, hb⟩ := hrel
    clear HS0
    have hon : on ≤ m := by have h1 := Own.len ho; have h2 := order_len (t.take k); simp at h2; have h3 := HL.out; omega
    by_cases hlt : k < m
    · obtain ⟨b, off, x, rfl, hbb, hx, ex⟩ := h.spot hlt
      have hx1 : wr.cell? ⟨b, off + k, none⟩ = some (.int .i64 x) := (hb.cell (p := ⟨b, off + k, none⟩) hbb).trans hx
      have E := Lib.hid (order_take (t := t) (k := k) (by rw [HL.out]; exact hlt) ex.out)
      have hsz := hb.size
      clear hx h ex
      by_cases hneg : x < 0
      · have L := Lib.hid (l1Has O on oc _ x wr (Own.seg ho) (by omega))
        by_cases hin : x ∈ orderL (t.take k)
        · have R := Lib.hid (show extV (orderL (t.take k)) x = orderL (t.take k) by unfold extV ext; rw [if_pos hneg, if_pos hin])
          rw [decide_eq_true hin] at L
          have S : HeadOrd w m t (.slice O on oc) (.int .i64 ((k : Int) + 1)) wr := ⟨k + 1, O, on, oc, hlt, by simp, rfl, by rw [E.out, R.out]; exact ho, hb⟩
          replace S := Lib.hid S
          clear ho hb hin R E
          go_wp2_with fail
          refine L.out.mono ?_
          rintro e w' ⟨rfl, rfl⟩
          clear L
          go_wp2
          go_roundw
          case rel => exact S.out
          case measure => simp [intOf]; omega
        · have R := Lib.hid (show extV (orderL (t.take k)) x = orderL (t.take k) ++ [x] by unfold extV ext; rw [if_pos hneg, if_neg hin])
          rw [decide_eq_false hin] at L
          clear hin
          go_wp2_with fail
          refine L.out.mono ?_
          rintro e w' ⟨rfl, rfl⟩
          clear L
          go_wp2_with (at_builtin; refine app1 rfl _ _ rfl w.heap.size O on oc (orderL (t.take k)) rfl (Own.alloc ho _) wr.heap.size 1 x rfl ((Row.new _ _ _).cell 0) (by omega) (by simp; omega) ?_; intro O' oc' w2 ho2 b2)
          have S : HeadOrd w m t (.slice O' (on + 1) oc') (.int .i64 ((k : Int) + 1)) w2 := ⟨k + 1, O', on + 1, oc', hlt, by simp, rfl, by rw [E.out, R.out]; exact ho2, (hb.alloc hsz _).trans b2⟩
          replace S := Lib.hid S
          clear ho2 b2 ho hb R E
          go_wp2
          go_roundw
          case rel => exact S.out
          case measure => simp [intOf]; omega
      · have R := Lib.hid (show extV (orderL (t.take k)) x = orderL (t.take k) by unfold extV; rw [if_neg hneg])
        have S : HeadOrd w m t (.slice O on oc) (.int .i64 ((k : Int) + 1)) wr := ⟨k + 1, O, on, oc, hlt, by simp, rfl, by rw [E.out, R.out]; exact ho, hb⟩
        replace S := Lib.hid S
        have d1 : decide (x < 0) = false := by simp; omega
        clear ho hb R E
        go_wp2
        go_roundw
        case rel => exact S.out
        case measure => simp [intOf]; omega
    · have F : AnsList w (orderL t) (.returned (.slice O on oc)) wr := by
        rw [List.take_of_length_le (by rw [HL.out]; omega)] at ho
        exact ⟨O, on, oc, rfl, ho, hb⟩
      have HF := Lib.hid F
      clear F ho hb h
      go_wp2
      go_ret
      exact HF.out

/-- a number, when the first q places of the order have been looked at -/
def upTo (o : List Int) (x : Int) (q : Nat) : Int := if idx o x < q then -1 - (idx o x : Int) else x
/-- the head of the inner loop -/
def HeadIn (wr : World) (pn : Nat) (o : List Int) (x : Int) (n k : Value) (wi : World) : Prop := ∃ q d : Nat, q ≤ pn ∧ k = .int .i64 q ∧ n = .int .i64 (upTo o x q) ∧ wi = wr.drewN d
theorem upTo_yes {o : List Int} (hd : o.Nodup) {x : Int} {q : Nat} (hq : q < o.length) (h : o.getD q 0 = x) : upTo o x (q + 1) = -1 - (q : Int) := by
  unfold upTo
  rw [idx_nodup hd hq h, if_pos (by omega)]
theorem upTo_no {o : List Int} {x y : Int} {q : Nat} (hq : q < o.length) (h : o.getD q 0 = y) (hne : ¬ y = x) : upTo o x (q + 1) = upTo o x q := by
  unfold upTo
  have h1 : idx o x ≠ q := fun e => by
    by_cases hx : x ∈ o
    · have := idx_get hx
      rw [e, h] at this
      exact hne this
    · have := idx_not hx
      omega
  by_cases h2 : idx o x < q
  · rw [if_pos h2, if_pos (by omega)]
  · rw [if_neg h2, if_neg (by omega)]
/-- the head of the outer loop -/
def HeadBy (w : World) (m : Nat) (t o : List Int) (out i : Value) (wr : World) : Prop :=
  ∃ (k : Nat) (O : Option Addr) (on oc : Nat), k ≤ m ∧ i = .int .i64 k ∧ out = .slice O on oc ∧ Own wr w.heap.size (.slice O on oc) ((t.take k).map (ren o)) ∧ Below w.heap.size w wr

end Go.Proofs.Ytfkgiimcnlagmaa.rename
end
