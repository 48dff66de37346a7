/-
  MERGED: my texts UnifLaw, UnifX, WUnifiesIn, one behind the other, as they are. By an AI agent.
-/
import Derived.Test.YtkmhnkljigncmaaMFnExactUnifiesIn5
import Derived.Deep.RegionHeld3
section
/-
  PLAIN MATHEMATICS for the laws of chapter 5: what follows from what unification tells ('IsU'), from what generalisation tells ('IsG'), from what terms that are met tell ('met_facts'). Conditions: none. By an AI agent.
-/
namespace Go.Proofs.Ytkmhnkljigncmaa.unifLaw
open Go.Proofs.Ytkmhnkljigncmaa.sig Go.Proofs.Ytkmhnkljigncmaa.term Go.Proofs.Ytkmhnkljigncmaa.termOk Go.Proofs.Ytkmhnkljigncmaa.termFacts Go.Proofs.Ytkmhnkljigncmaa.endAt Go.Proofs.Ytkmhnkljigncmaa.sub Go.Proofs.Ytkmhnkljigncmaa.termMath Go.Proofs.Ytkmhnkljigncmaa.fillMath Go.Proofs.Ytkmhnkljigncmaa.posMath Go.Proofs.Ytkmhnkljigncmaa.renMath Go.Proofs.Ytkmhnkljigncmaa.renPure Go.Proofs.Ytkmhnkljigncmaa.segsHelp Go.Proofs.Ytkmhnkljigncmaa.substOk Go.Proofs.Ytkmhnkljigncmaa.gives Go.Proofs.Ytkmhnkljigncmaa.plainMath Go.Proofs.Ytkmhnkljigncmaa.plainOf Go.Proofs.Ytkmhnkljigncmaa.plainFacts Go.Proofs.Ytkmhnkljigncmaa.filled Go.Proofs.Ytkmhnkljigncmaa.sameSubst Go.Proofs.Ytkmhnkljigncmaa.compMath Go.Proofs.Ytkmhnkljigncmaa.matchMath Go.Proofs.Ytkmhnkljigncmaa.unifMath Go.Proofs.Ytkmhnkljigncmaa.genMath

/-! ### unification -/
theorem sub_gives {sg : List Int} {L : Nat → List Int} (h : Sub sg L) (i : Nat) : givesL (plainL L 24) i = L i := gives_plain h.pos h.out
theorem sub_valid {sg : List Int} {L : Nat → List Int} (hs : sigOkB sg = true) (h : Sub sg L) (he : ∀ i, (L i).length ≤ 60) : substOkB sg (plainL L 24) = true :=
  plain_valid hs (Nat.le_refl _) (fun i hi => term_mk hs (he i) (h.trm i hi))
theorem gives_sub {sg : List Int} {us : List (List Int)} (h : substOkB sg us = true) : Sub sg (givesL us) :=
  ⟨fun _ hi => (term_parts (gives_ok h hi)).2.2, fun i hi => gives_out (by have := (substOk_parts h).2.1; omega)⟩
theorem fill_plain {sg : List Int} {L : Nat → List Int} (h : Sub sg L) (t : List Int) : fillL (givesL (plainL L 24)) t = fillL L t := fill_ext (fun _ _ _ => sub_gives h _)
theorem filled_plain {sg : List Int} {L : Nat → List Int} {t : List Int} (h : Sub sg L) (hv : substOkB sg (plainL L 24) = true) (ht : termOkB sg t = true) (hl : (fillL L t).length ≤ 60) : filledB sg (plainL L 24) t = true ∧ filledL sg (plainL L 24) t = fillL L t := by
  have hb : filledB sg (plainL L 24) t = true := by
    rw [filled_b hv ht]
    unfold fitsB
    rw [fill_plain h]
    exact decide_eq_true hl
  exact ⟨hb, by unfold filledL; rw [if_pos hb]; exact fill_plain h t⟩
theorem filled_parts {sg : List Int} {us : List (List Int)} {t : List Int} (h : filledB sg us t = true) : substOkB sg us = true ∧ termOkB sg t = true ∧ filledL sg us t = fillL (givesL us) t ∧ (fillL (givesL us) t).length ≤ 60 := by
  have e : filledL sg us t = fillL (givesL us) t := by unfold filledL; rw [if_pos h]
  have hl := filled_len sg us t
  rw [e] at hl
  unfold filledB at h
  rw [Bool.and_eq_true, Bool.and_eq_true] at h
  exact ⟨h.1, h.2.1, e, hl⟩
theorem isU_each {sg a b : List Int} {v : Bool} {F : List (List Int)} (h : IsU sg a b v F) : tot F ≤ 1048576 := by
  rcases h with ⟨_, _, _, L, m, s, rfl⟩ | ⟨_, rfl, _⟩
  · have h3 := tot_le (plain_each (L := L) (m := 24) s.each)
    have h4 := plain_len L 24
    have h5 : (plainL L 24).length * 60 ≤ 24 * 60 := Nat.mul_le_mul_right _ h4
    omega
  · simp [tot, sumL]
/-- a substitution that makes both equal is there: so true is told -/
theorem isU_true {sg a b : List Int} {v : Bool} {F us : List (List Int)} (h : IsU sg a b v F) (h1 : filledB sg us a = true) (h2 : filledB sg us b = true) (he : filledL sg us a = filledL sg us b) : v = true := by
  obtain ⟨a1, a2, a3, a4⟩ := filled_parts h1
  obtain ⟨_, b2, b3, _⟩ := filled_parts h2
  rcases h with ⟨e, _⟩ | ⟨_, _, h⟩
  · exact e
  · rcases h with h | h | h
    · rw [a2] at h; cases h
    · rw [b2] at h; cases h
    · exact absurd ⟨⟨gives_sub a1, by rw [← a3, ← b3, he]⟩, gives_len a1, a4⟩ (h (givesL us))
/-- what true tells -/
theorem isU_facts {sg a b : List Int} {F : List (List Int)} (h : IsU sg a b true F) : substOkB sg F = true ∧ sameB sg F F = true ∧ filledB sg F a = true ∧ filledB sg F b = true ∧ filledL sg F a = filledL sg F b ∧ (composedB sg F F = true → sameB sg (composedI sg F F) F = true) ∧
    ∀ us, filledB sg us a = true → filledB sg us b = true → filledL sg us a = filledL sg us b → composedB sg F us = true → filledB sg (composedI sg F us) a = true ∧ filledL sg (composedI sg F us) a = filledL sg us a := by
  rcases h with ⟨_, h1, h2, L, m, s, rfl⟩ | ⟨e, _⟩
  · have hs := (term_parts h1).1
    have hv := sub_valid hs m.sub s.each
    obtain ⟨fa, la⟩ := filled_plain m.sub hv h1 s.all
    obtain ⟨fb, lb⟩ := filled_plain m.sub hv h2 (by rw [← m.eq]; exact s.all)
    refine ⟨hv, by unfold sameB; rw [hv, sameG_yes (fun _ _ => rfl)]; rfl, fa, fb, by rw [la, lb, m.eq], fun hc => ?_, fun us u1 u2 u3 hc => ?_⟩
    · rw [same_ab (comp_ok hc) hv]
      refine sameG_yes (fun i hi => ?_)
      rw [comp_gives hc, if_pos hi]
      unfold compL
      rw [fill_plain m.sub, sub_gives m.sub]
      exact fill_same (fun x hx h0 => m.ide i x hx h0)
    · obtain ⟨a1, _, a3, a4⟩ := filled_parts u1
      obtain ⟨_, _, b3, _⟩ := filled_parts u2
      have hU : Uni sg a b (givesL us) := ⟨gives_sub a1, by rw [← a3, ← b3, u3]⟩
      have e : fillL (givesL (composedI sg (plainL L 24) us)) a = fillL (givesL us) a := by
        rw [comp_fill hc h1, fill_plain m.sub]
        exact part_uni m.toPart hU a
      have hb : filledB sg (composedI sg (plainL L 24) us) a = true := by
        rw [filled_b (comp_ok hc) h1]
        unfold fitsB
        rw [e]
        exact decide_eq_true a4
      exact ⟨hb, by rw [a3]; unfold filledL; rw [if_pos hb]; exact e⟩
  · cases e
theorem isU_symm {sg a b : List Int} {v : Bool} {F : List (List Int)} (h : IsU sg a b v F) : IsU sg b a v F := by
  rcases h with ⟨e, h1, h2, L, m, s, hF⟩ | ⟨e, hF, h⟩
  · exact .inl ⟨e, h2, h1, L, m.symm, s.symm, hF⟩
  · exact .inr ⟨e, hF, by
      rcases h with h | h | h
      · exact .inr (.inl h)
      · exact .inl h
      · exact .inr (.inr (fun M hM => h M hM.symm))⟩

/-! ### generalisation -/
/-- what is told of two lists -/
def IsG (sg a b g : List Int) : Prop :=
  (termOkB sg a = true ∧ termOkB sg b = true ∧ ∃ G T', Gs sg [] 1 a b G T' ∧ g = if T'.length ≤ 24 then G else []) ∨ ((termOkB sg a = false ∨ termOkB sg b = false) ∧ g = [])
theorem isG_ex (sg a b : List Int) : ∃ g, IsG sg a b g := by
  cases h1 : termOkB sg a with
  | false => exact ⟨[], .inr ⟨.inl h1, rfl⟩⟩
  | true =>
    cases h2 : termOkB sg b with
    | false => exact ⟨[], .inr ⟨.inr h2, rfl⟩⟩
    | true =>
      obtain ⟨G, T', h⟩ := gs_ex (sg := sg) a.length (T := []) (Nat.le_refl _) (term_parts h1).2.2 (term_parts h2).2.2
      exact ⟨_, .inl ⟨h1, h2, G, T', h, rfl⟩⟩
theorem isG_one {sg a b g g' : List Int} (h : IsG sg a b g) (h' : IsG sg a b g') : g = g' := by
  rcases h with ⟨h1, h2, G, T', h, rfl⟩ | ⟨h, rfl⟩
  · rcases h' with ⟨_, _, G2, T2, h', rfl⟩ | ⟨h', _⟩
    · obtain ⟨rfl, rfl⟩ := gs_one h List.nodup_nil h'
      rfl
    · rcases h' with h' | h'
      · rw [h1] at h'; cases h'
      · rw [h2] at h'; cases h'
  · rcases h' with ⟨h1, h2, _⟩ | ⟨_, rfl⟩
    · rcases h with h | h
      · rw [h1] at h; cases h
      · rw [h2] at h; cases h
    · rfl
theorem isG_symm {sg a b g : List Int} (h : IsG sg a b g) : IsG sg b a g := by
  rcases h with ⟨h1, h2, G, T', h, e⟩ | ⟨h, e⟩
  · exact .inl ⟨h2, h1, G, _, gs_swap h, by rw [List.length_map]; exact e⟩
  · exact .inr ⟨h.symm, e⟩
theorem isG_len {sg a b g : List Int} (h : IsG sg a b g) : g.length ≤ 60 := by
  rcases h with ⟨h1, h2, G, T', h, rfl⟩ | ⟨_, rfl⟩
  · split
    · have ht := gs_gt h []
      rw [List.append_nil] at ht
      obtain ⟨f, _, hv⟩ := gt_fill ht
      have h3 : ∀ {l : List Int}, (∀ x ∈ l, x < 0 → 1 ≤ (f1 T' (vr x)).length) → l.length ≤ (fillL (f1 T') l).length := by
        intro l
        induction l with
        | nil => intro _; simp
        | cons x r ih =>
          intro hx
          have := ih (fun y hy => hx y (List.mem_cons_of_mem _ hy))
          rw [fill_cons, List.length_append, List.length_cons]
          by_cases h0 : 0 ≤ x
          · rw [rep_sym h0, List.length_singleton]; omega
          · rw [rep_vr (by omega)]
            have := hx x (List.mem_cons_self ..) (by omega)
            omega
      have h4 := h3 (fun x hx h0 => (hv x hx h0).2.1.pos)
      rw [f] at h4
      exact Nat.le_trans h4 (term_len h1).2
    · simp
  · simp
/-- what there is: both are instances, and of each common pattern it is one -/
theorem isG_facts {sg a b g : List Int} (h : IsG sg a b g) (hg : g ≠ []) : termOkB sg g = true ∧ instB sg g a = true ∧ instB sg g b = true ∧ ∀ p, instB sg p a = true → instB sg p b = true → instB sg p g = true := by
  have hl := isG_len h
  rcases h with ⟨h1, h2, G, T', h, e⟩ | ⟨_, e⟩
  · by_cases h24 : T'.length ≤ 24
    · rw [if_pos h24] at e
      subst e
      have ht := gs_gt h []
      rw [List.append_nil] at ht
      have tg : termOkB sg g = true := term_mk (term_parts h1).1 hl (gt_scan h24 ht)
      obtain ⟨fa, fb, hv⟩ := gt_fill ht
      refine ⟨tg, (inst_iff tg h1).2 ⟨f1 T', fa, fun x hx h0 => (hv x hx h0).2.1⟩, (inst_iff tg h2).2 ⟨f2 T', fb, fun x hx h0 => (hv x hx h0).2.2⟩, fun p p1 p2 => ?_⟩
      obtain ⟨hp, _⟩ := inst_ok p1
      obtain ⟨A, eA, hA⟩ := (inst_iff hp h1).1 p1
      obtain ⟨B, eB, hB⟩ := (inst_iff hp h2).1 p2
      -- look-ups that are terms everywhere
      have mk : ∀ C : Nat → List Int, (∀ x ∈ p, x < 0 → scan sg 1 (C (vr x)) = some (C (vr x)).length) → ∃ D, Sub sg D ∧ fillL D p = fillL C p := by
        intro C hC
        have hch : ∀ i, ∃ d, (i < 24 → Trm sg d) ∧ (24 ≤ i → d = vt i) ∧ (Trm sg (C i) → i < 24 → d = C i) := fun i => by
          by_cases hi : i < 24
          · by_cases ht : Trm sg (C i)
            · exact ⟨C i, fun _ => ht, fun h => absurd hi (by omega), fun _ _ => rfl⟩
            · exact ⟨vt i, fun _ => Trm.vt hi, fun _ => rfl, fun h _ => absurd h ht⟩
          · exact ⟨vt i, fun h => absurd h hi, fun _ => rfl, fun _ h => absurd h hi⟩
        refine ⟨fun i => (hch i).choose, ⟨fun i hi => (hch i).choose_spec.1 hi, fun i hi => (hch i).choose_spec.2.1 hi⟩, ?_⟩
        refine fill_ext (fun x hx h0 => ?_)
        have := term_mem hp hx
        exact (hch (vr x)).choose_spec.2.2 (hC x hx h0) (by unfold vr; omega)
      obtain ⟨A', sA, qA⟩ := mk A hA
      obtain ⟨B', sB, qB⟩ := mk B hB
      obtain ⟨M, hM⟩ := gt_least (gs_nodup h List.nodup_nil) sA sB
      obtain ⟨m1, m2⟩ := hM (p := p) (n := 1) (g := g) (term_parts hp).2.2 (by rw [qA, qB, eA, eB]; exact ht)
      exact (inst_iff hp tg).2 ⟨M, m1, fun x hx h0 => gt_scan h24 (m2 x hx h0)⟩
    · rw [if_neg h24] at e
      exact absurd e hg
  · exact absurd e hg

/-! ### terms that are met -/
/-- b is shifted by k; the filled term, renamed, is an instance of both -/
theorem met_facts {sg a b x : List Int} {k : Nat} {L : Nat → List Int} (hx : x = shiftL (k : Int) b) (ha : termOkB sg a = true) (hb : termOkB sg b = true) (hxo : termOkB sg x = true) (m : Mg sg a x L) (s : Short sg a x L) :
    instB sg a (renL (fillL L a)) = true ∧ instB sg b (renL (fillL L a)) = true ∧ renL (renL (fillL L a)) = renL (fillL L a) ∧ termOkB sg (renL (fillL L a)) = true := by
  have ht : termOkB sg (fillL L a) = true := term_mk (term_parts ha).1 s.all (m.sub.fill (term_parts ha).2.2)
  have hr := ren_ok ht
  have hv := inst_variant ht hr (ren_ren _).symm
  have i1 : instB sg a (fillL L a) = true := (inst_iff ha ht).2 ⟨L, rfl, fun y hy h0 => m.sub.trm _ (by have := term_mem ha hy; unfold vr; omega)⟩
  have i2 : instB sg b (fillL L a) = true := by
    have e : fillL L a = fillL (fun i => fillL L (vt (i + k))) b := by rw [← fill_fill, shift_fill, ← hx]; exact m.eq
    refine (inst_iff hb ht).2 ⟨_, e.symm, fun y hy h0 => ?_⟩
    show scan sg 1 (fillL L (vt (vr y + k))) = some (fillL L (vt (vr y + k))).length
    rw [fill_vti]
    have hy2 : sh (k : Int) y ∈ x := by rw [hx]; exact List.mem_map_of_mem hy
    have := term_mem hxo hy2
    exact m.sub.trm _ (by unfold sh at this; rw [if_pos h0] at this; unfold vr; omega)
  exact ⟨inst_trans i1 hv, inst_trans i2 hv, ren_ren _, hr⟩
end Go.Proofs.Ytkmhnkljigncmaa.unifLaw
end

section
/-
  CONTRACTS of Unified, UnifiesIn (spec and impl) in the form that the walks of the exact laws take. By an AI agent.
-/
namespace Go.Proofs.Ytkmhnkljigncmaa.unifX
open Go.RowKit Go.Proofs.Ytkmhnkljigncmaa.base Go.Proofs.Ytkmhnkljigncmaa.sig Go.Proofs.Ytkmhnkljigncmaa.segs Go.Proofs.Ytkmhnkljigncmaa.inside Go.Proofs.Ytkmhnkljigncmaa.unifMath Go.Proofs.Ytkmhnkljigncmaa.unified Go.Proofs.Ytkmhnkljigncmaa.unifImpl
section
variable (A P Q : Option Addr) (n c pn pc m mc : Nat) (sg p t : List Int) (w : World) (h : Seg w w.heap.size A n sg) (hp : Seg w w.heap.size P pn p) (ht : Seg w w.heap.size Q m t) (hn : n ≤ 1048576) (hpn : pn ≤ 1048576) (hm : m ≤ 1048576) (kp : Cap P pn pc) (kq : Cap Q m mc) {v : Bool} {F : List (List Int)} (hU : IsU sg p t v F)
include h hp ht hn hpn hm kp kq hU
set_option linter.unusedSectionVars false
theorem specUnifiedX : Calls Try.prog 15 #[.agg #[.slice A n c], .slice P pn pc, .slice Q m mc] w (AnsUB w F v) :=
  specUnified A P Q n c pn pc m mc sg p t w v F hU h hp ht hn hpn hm
theorem implUnifiedX : Calls Try.prog 14 #[.agg #[.slice A n c], .slice P pn pc, .slice Q m mc] w (AnsUB w F v) :=
  implUnified A P Q n c pn pc m mc sg p t w v F hU h hp ht hn hpn hm kp kq
theorem specUnifiesInX : Calls Try.prog 43 #[.agg #[.slice A n c], .slice P pn pc, .slice Q m mc] w (Tells w v) :=
  specUnifiesIn A P Q n c pn pc m mc sg p t w v F hU h hp ht hn hpn hm
theorem implUnifiesInX : Calls Try.prog 20 #[.agg #[.slice A n c], .slice P pn pc, .slice Q m mc] w (Tells w v) :=
  implUnifiesIn A P Q n c pn pc m mc sg p t w v F hU h hp ht hn hpn hm kp kq
end
end Go.Proofs.Ytkmhnkljigncmaa.unifX
end

section
/-
  THE WALK of laws.FnExactUnifiesIn: it returns true, whatever the arguments, and writes nothing that was there. Conditions: the slices read as lists. Written by a program of mine (gen_exact.py). By an AI agent.
-/
namespace Go.Proofs.Ytkmhnkljigncmaa.wUnifiesIn
open Go.RowKit Go.Proofs.Ytkmhnkljigncmaa.base Go.Proofs.Ytkmhnkljigncmaa.ints Go.Proofs.Ytkmhnkljigncmaa.sig Go.Proofs.Ytkmhnkljigncmaa.cursor Go.Proofs.Ytkmhnkljigncmaa.marks Go.Proofs.Ytkmhnkljigncmaa.app Go.Proofs.Ytkmhnkljigncmaa.sym Go.Proofs.Ytkmhnkljigncmaa.appAt Go.Proofs.Ytkmhnkljigncmaa.segs Go.Proofs.Ytkmhnkljigncmaa.segsHelp Go.Proofs.Ytkmhnkljigncmaa.segsMark Go.Proofs.Ytkmhnkljigncmaa.kinds Go.Proofs.Ytkmhnkljigncmaa.inside Go.Proofs.Ytkmhnkljigncmaa.unifMath Go.Proofs.Ytkmhnkljigncmaa.unified Go.Proofs.Ytkmhnkljigncmaa.unifImpl Go.Proofs.Ytkmhnkljigncmaa.unifLaw Go.Proofs.Ytkmhnkljigncmaa.unifX
set_option maxRecDepth 100000

set_option maxHeartbeats 8000000 in
theorem law (a0 : Option Addr) (n0 c0 : Nat) (xs0 : List Int) (a1 : Option Addr) (n1 c1 : Nat) (xs1 : List Int) (a2 : Option Addr) (n2 c2 : Nat) (xs2 : List Int) (w : World) (s0 : Seg w w.heap.size a0 n0 xs0) (hN0 : n0 ≤ 9223372036854775807) (s1 : Seg w w.heap.size a1 n1 xs1) (hN1 : n1 ≤ 9223372036854775807) (s2 : Seg w w.heap.size a2 n2 xs2) (hN2 : n2 ≤ 9223372036854775807) :
    Calls Try.prog 6 #[.agg #[.slice a0 n0 c0], .slice a1 n1 c1, .slice a2 n2 c2] w (Fine w) := by
  obtain ⟨vv, FF, hU⟩ := isU_ex xs0 xs1 xs2
  obtain ⟨W, hW⟩ : ∃ W, W = w.alloc (.cells #[.slice a0 n0 c0] 44) := ⟨_, rfl⟩
  have rA0 : Row W (w.heap.size) 44 #[.slice a0 n0 c0] := by rw [hW]; have := Row.new (w) 44 #[.slice a0 n0 c0]; simpa using this
  have bW : Below w.heap.size w W := by rw [hW]; exact (Below.refl w.heap.size w).alloc (by simp) (.cells #[.slice a0 n0 c0] 44)
  have zA0 := rA0.lt
  replace s0 := s0.next bW
  have Hl0 := Lib.hid s0.1
  replace s1 := s1.next bW
  have Hl1 := Lib.hid s1.1
  replace s2 := s2.next bW
  have Hl2 := Lib.hid s2.1
  have HW := Lib.hid hW
  clear hW
  obtain ⟨v, hv⟩ : ∃ v, vv = v := ⟨_, rfl⟩
  have HV := Lib.hid hv
  clear hv
  have ev : (v != v) = false := by simp
  by_cases h1 : n1 ≤ 1048576
  case neg =>
    go_enter Try.func6, Try.ntmps6
    go_wp2_with fail
    rw [← HW.out]
    go_ret
    exact ⟨rfl, bW⟩
  by_cases h2 : n2 ≤ 1048576
  case neg =>
    go_enter Try.func6, Try.ntmps6
    go_wp2_with fail
    rw [← HW.out]
    go_ret
    exact ⟨rfl, bW⟩
  go_enter Try.func6, Try.ntmps6
  go_wp2_with fail
  rw [← HW.out]
  clear HW
  have bel := Below.refl W.heap.size W
  have cA0 : W.cell? ⟨w.heap.size, 0, none⟩ = some (.slice a0 n0 c0) := (rA0.next bel).cell 0
  refine (szSig _ _ _ (1048576) _ hN0 (by omega) (by omega)).mono ?_
  rintro e w1 ⟨he, bb⟩
  replace bel := next_trans bel bb
  have zw1 := bb.size
  clear bb
  by_cases q0 : n0 ≤ 1048576
  case neg =>
    rw [if_pos (by omega)] at he
    subst he
    have F := Lib.hid (bW.trans (bel.mono bW.size))
    clear bel bW cA0
    go_wp2
    go_ret
    exact ⟨rfl, F.out⟩
  rw [if_neg (by omega)] at he
  subst he
  have h0 : n0 ≤ 1048576 := by omega
  clear cA0
  have cA0 : w1.cell? ⟨w.heap.size, 0, none⟩ = some (.slice a0 n0 c0) := (rA0.next bel).cell 0
  go_wp2_with fail
  refine (sigTo _ _ _ xs0 _ (s0.next bel) h0).mono ?_
  rintro e w2 ⟨gp0, rfl, op0, yp0, bb⟩
  replace bel := next_trans bel bb
  have zw2 := bb.size
  clear bb
  clear cA0
  have cA0 : w2.cell? ⟨w.heap.size, 0, none⟩ = some (.slice a0 n0 c0) := (rA0.next bel).cell 0
  go_wp2_with fail
  refine (intsTo _ _ _ xs1 _ (s1.next bel) h1).mono ?_
  rintro e w3 ⟨gp1, rfl, op1, yp1, bb⟩
  replace op0 := op0.next bb
  replace bel := next_trans bel bb
  have zw3 := bb.size
  clear bb
  clear cA0
  have cA0 : w3.cell? ⟨w.heap.size, 0, none⟩ = some (.slice a0 n0 c0) := (rA0.next bel).cell 0
  go_wp2_with fail
  refine (intsTo _ _ _ xs2 _ (s2.next bel) h2).mono ?_
  rintro e w4 ⟨gp2, rfl, op2, yp2, bb⟩
  replace op0 := op0.next bb
  replace op1 := op1.next bb
  replace bel := next_trans bel bb
  have zw4 := bb.size
  clear bb
  clear cA0
  have cA0 : w4.cell? ⟨w.heap.size, 0, none⟩ = some (.slice a0 n0 c0) := (rA0.next bel).cell 0
  go_wp2_with fail
  refine (specUnifiesInX _ _ _ _ _ _ _ _ _ xs0 xs1 xs2 _ op0.rd op1.rd op2.rd h0 h1 h2 ⟨Nat.le_refl _, by omega, fun e => by cases e⟩ ⟨Nat.le_refl _, by omega, fun e => by cases e⟩ hU).mono ?_
  rintro e w5 ⟨he, bb⟩
  rw [HV.out] at he
  subst he
  replace op0 := op0.next bb
  replace op1 := op1.next bb
  replace op2 := op2.next bb
  replace bel := next_trans bel bb
  have zw5 := bb.size
  clear bb
  clear op0 op1 op2
  clear cA0
  have cA0 : w5.cell? ⟨w.heap.size, 0, none⟩ = some (.slice a0 n0 c0) := (rA0.next bel).cell 0
  clear cA0
  have cA0 : w5.cell? ⟨w.heap.size, 0, none⟩ = some (.slice a0 n0 c0) := (rA0.next bel).cell 0
  go_wp2_with fail
  refine (sigTo _ _ _ xs0 _ (s0.next bel) h0).mono ?_
  rintro e w6 ⟨gx0, rfl, ox0, yx0, bb⟩
  replace bel := next_trans bel bb
  have zw6 := bb.size
  clear bb
  clear cA0
  have cA0 : w6.cell? ⟨w.heap.size, 0, none⟩ = some (.slice a0 n0 c0) := (rA0.next bel).cell 0
  have dA0 : (w6.alloc (.cells #[.slice (some ⟨gx0, 0, none⟩) n0 n0] 26)).cell? ⟨w.heap.size, 0, none⟩ = some (.slice a0 n0 c0) := ((rA0.next bel).alloc _).cell 0
  go_wp2_with fail
  obtain ⟨w7, hw⟩ : ∃ W, W = w6.alloc (.cells #[.slice (some ⟨gx0, 0, none⟩) n0 n0] 26) := ⟨_, rfl⟩
  rw [← hw]
  have rx0 : Row w7 w6.heap.size 26 #[.slice (some ⟨gx0, 0, none⟩) n0 n0] := by rw [hw]; exact Row.new _ _ _
  have bb : Below w6.heap.size w6 w7 := by rw [hw]; exact (Below.refl _ _).alloc (Nat.le_refl _) _
  have yrx0 : w6.heap.size < w7.heap.size := by rw [hw]; simp
  clear hw
  replace ox0 := ox0.next bb
  replace bel := next_trans bel bb
  have zw7 := bb.size
  clear bb
  clear dA0
  clear cA0
  have cA0 : w7.cell? ⟨w.heap.size, 0, none⟩ = some (.slice a0 n0 c0) := (rA0.next bel).cell 0
  have cx0 : w7.cell? ⟨w6.heap.size, 0, none⟩ = some (.slice (some ⟨gx0, 0, none⟩) n0 n0) := (rx0).cell 0
  refine (intsTo _ _ _ xs1 _ (s1.next bel) h1).mono ?_
  rintro e w8 ⟨gx1, rfl, ox1, yx1, bb⟩
  replace ox0 := ox0.next bb
  replace rx0 := rx0.next bb
  replace bel := next_trans bel bb
  have zw8 := bb.size
  clear bb
  clear cA0 cx0
  have cA0 : w8.cell? ⟨w.heap.size, 0, none⟩ = some (.slice a0 n0 c0) := (rA0.next bel).cell 0
  have cx0 : w8.cell? ⟨w6.heap.size, 0, none⟩ = some (.slice (some ⟨gx0, 0, none⟩) n0 n0) := (rx0).cell 0
  go_wp2_with fail
  refine (intsTo _ _ _ xs2 _ (s2.next bel) h2).mono ?_
  rintro e w9 ⟨gx2, rfl, ox2, yx2, bb⟩
  replace ox0 := ox0.next bb
  replace rx0 := rx0.next bb
  replace ox1 := ox1.next bb
  replace bel := next_trans bel bb
  have zw9 := bb.size
  clear bb
  clear cA0 cx0
  have cA0 : w9.cell? ⟨w.heap.size, 0, none⟩ = some (.slice a0 n0 c0) := (rA0.next bel).cell 0
  have cx0 : w9.cell? ⟨w6.heap.size, 0, none⟩ = some (.slice (some ⟨gx0, 0, none⟩) n0 n0) := (rx0).cell 0
  go_wp2_with fail
  refine (implUnifiesInX _ _ _ _ _ _ _ _ _ xs0 xs1 xs2 _ ox0.rd ox1.rd ox2.rd h0 h1 h2 ⟨Nat.le_refl _, by omega, fun e => by cases e⟩ ⟨Nat.le_refl _, by omega, fun e => by cases e⟩ hU).mono ?_
  rintro e w10 ⟨he, bb⟩
  rw [HV.out] at he
  subst he
  replace ox0 := ox0.next bb
  replace rx0 := rx0.next bb
  replace ox1 := ox1.next bb
  replace ox2 := ox2.next bb
  replace bel := next_trans bel bb
  have zw10 := bb.size
  clear bb
  clear cA0 cx0
  have cA0 : w10.cell? ⟨w.heap.size, 0, none⟩ = some (.slice a0 n0 c0) := (rA0.next bel).cell 0
  have cx0 : w10.cell? ⟨w6.heap.size, 0, none⟩ = some (.slice (some ⟨gx0, 0, none⟩) n0 n0) := (rx0).cell 0
  go_wp2_with fail
  replace ox0 := ox0.drew
  replace rx0 := rx0.drew
  replace ox1 := ox1.drew
  replace ox2 := ox2.drew
  replace bel := bel.drew
  have zdw10 := (drew_below w10).size
  go_region_held3 (fun w' => w'.cell? ⟨w6.heap.size, 0, none⟩ = some (.slice (some ⟨gx0, 0, none⟩) n0 n0) ∧ w'.cell? ⟨w.heap.size, 0, none⟩ = some (.slice a0 n0 c0))
    (go_keep)
    (first
      | (go_at_call 34; refine (sigTo _ _ _ xs0 _ (s0.next bel) h0).mono ?_; rintro e w11 ⟨gt0, rfl, ot, yt0, bb⟩; replace ox0 := ox0.next bb; replace rx0 := rx0.next bb; replace ox1 := ox1.next bb; replace ox2 := ox2.next bb; replace bel := next_trans bel bb; have k0w11 : w11.cell? ⟨w.heap.size, 0, none⟩ = some (.slice a0 n0 c0) := (rA0.next bel).cell 0; have l0w11 : w11.cell? ⟨w6.heap.size, 0, none⟩ = some (.slice (some ⟨gx0, 0, none⟩) n0 n0) := rx0.cell 0; have zqw11 := bb.size; clear bb)
      | (go_at_call 37; refine (sigEq _ _ _ _ _ _ xs0 _ ox0.rd ot.rd h0).mono ?_; rintro e w12 ⟨rfl, bb⟩; replace ox0 := ox0.next bb; replace rx0 := rx0.next bb; replace ox1 := ox1.next bb; replace ox2 := ox2.next bb; replace bel := next_trans bel bb; have k0w12 : w12.cell? ⟨w.heap.size, 0, none⟩ = some (.slice a0 n0 c0) := (rA0.next bel).cell 0; have l0w12 : w12.cell? ⟨w6.heap.size, 0, none⟩ = some (.slice (some ⟨gx0, 0, none⟩) n0 n0) := rx0.cell 0; have zqw12 := bb.size; clear bb ot))
  clear k0w11 l0w11 k0w12 l0w12
  clear ox0 rx0
  clear cA0 cx0
  have cA0 : w12.cell? ⟨w.heap.size, 0, none⟩ = some (.slice a0 n0 c0) := (rA0.next bel).cell 0
  go_wp2_with fail
  refine (intsTo _ _ _ xs1 _ (s1.next bel) h1).mono ?_
  rintro e w13 ⟨gt1, rfl, ot1, yt1, bb⟩
  replace ox1 := ox1.next bb
  replace ox2 := ox2.next bb
  replace bel := next_trans bel bb
  have zw13 := bb.size
  clear bb
  clear cA0
  have cA0 : w13.cell? ⟨w.heap.size, 0, none⟩ = some (.slice a0 n0 c0) := (rA0.next bel).cell 0
  go_wp2_with fail
  refine (intsEq _ _ _ _ _ _ xs1 _ ox1.rd ot1.rd h1).mono ?_
  rintro e w14 ⟨rfl, bb⟩
  replace ox1 := ox1.next bb
  replace ox2 := ox2.next bb
  replace ot1 := ot1.next bb
  replace bel := next_trans bel bb
  have zw14 := bb.size
  clear bb
  clear ot1 ox1
  clear cA0
  have cA0 : w14.cell? ⟨w.heap.size, 0, none⟩ = some (.slice a0 n0 c0) := (rA0.next bel).cell 0
  go_wp2_with fail
  refine (intsTo _ _ _ xs2 _ (s2.next bel) h2).mono ?_
  rintro e w15 ⟨gt2, rfl, ot2, yt2, bb⟩
  replace ox2 := ox2.next bb
  replace bel := next_trans bel bb
  have zw15 := bb.size
  clear bb
  clear cA0
  have cA0 : w15.cell? ⟨w.heap.size, 0, none⟩ = some (.slice a0 n0 c0) := (rA0.next bel).cell 0
  go_wp2_with fail
  refine (intsEq _ _ _ _ _ _ xs2 _ ox2.rd ot2.rd h2).mono ?_
  rintro e w16 ⟨rfl, bb⟩
  replace ox2 := ox2.next bb
  replace ot2 := ot2.next bb
  replace bel := next_trans bel bb
  have zw16 := bb.size
  clear bb
  clear ot2 ox2
  clear cA0
  have cA0 : w16.cell? ⟨w.heap.size, 0, none⟩ = some (.slice a0 n0 c0) := (rA0.next bel).cell 0
  have F := Lib.hid (bW.trans (bel.mono bW.size))
  clear bel bW cA0
  go_wp2
  go_ret
  exact ⟨rfl, F.out⟩
end Go.Proofs.Ytkmhnkljigncmaa.wUnifiesIn
end
