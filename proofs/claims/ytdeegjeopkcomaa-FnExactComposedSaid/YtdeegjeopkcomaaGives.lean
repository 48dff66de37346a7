/-
  CONTRACTS: impl.SubstOk, spec.l2Gives, impl.lookupIn and what it returns, impl.tooLong. Conditions: the slices read as lists ('Seg', 'Segs'), at most 1048576 values. By an AI agent.
-/
import Derived.Test.YtdeegjeopkcomaaSubstOk
namespace Go.Proofs.Ytdeegjeopkcomaa.gives
open Go.RowKit Go.Proofs.Ytdeegjeopkcomaa.base Go.Proofs.Ytdeegjeopkcomaa.ints Go.Proofs.Ytdeegjeopkcomaa.sig Go.Proofs.Ytdeegjeopkcomaa.term Go.Proofs.Ytdeegjeopkcomaa.termOk Go.Proofs.Ytdeegjeopkcomaa.marks Go.Proofs.Ytdeegjeopkcomaa.app Go.Proofs.Ytdeegjeopkcomaa.sym Go.Proofs.Ytdeegjeopkcomaa.sub Go.Proofs.Ytdeegjeopkcomaa.segs Go.Proofs.Ytdeegjeopkcomaa.segsHelp Go.Proofs.Ytdeegjeopkcomaa.termFacts Go.Proofs.Ytdeegjeopkcomaa.varsMath Go.Proofs.Ytdeegjeopkcomaa.varsOf Go.Proofs.Ytdeegjeopkcomaa.fillMath Go.Proofs.Ytdeegjeopkcomaa.look Go.Proofs.Ytdeegjeopkcomaa.substOk
set_option maxRecDepth 100000

set_option maxHeartbeats 4000000 in
theorem implSubstOk (A S : Option Addr) (n c m c' : Nat) (sg : List Int) (ss : List (List Int)) (w : World) (h : Seg w w.heap.size A n sg) (h' : Segs w w.heap.size S m ss) (hn : n ≤ 1048576) (ht : tot ss ≤ 1048576) :
    Calls Try.prog 24 #[.agg #[.slice A n c], .agg #[.slice S m c']] w (AnsB w (substOkB sg ss)) := by
  obtain ⟨W, hW, rA, rS, bel⟩ := boxes2 w A n c S m c'
  have HW := Lib.hid hW
  have HL := Lib.hid h'.1
  have hm : m ≤ 1048576 := tot_len h'.1 ht
  have HT := Lib.hid (tot_each ht)
  have L := Lib.hid (implSigOk A n c sg W (h.next bel) hn)
  have cS : W.cell? ⟨w.heap.size + 1, 0, none⟩ = some (.slice S m c') := rS.cell 0
  clear hW ht
  cases hsig : sigOkB sg with
  | false =>
    have HS := Lib.hid hsig
    clear hsig h h'
    go_enter Try.func24, Try.ntmps24
    go_wp2_with fail
    rw [← HW.out]
    refine L.out.mono ?_
    rintro e w1 ⟨he, bb⟩
    rw [HS.out] at he
    subst he
    have F := Lib.hid (ansB (b := substOkB sg ss) (a := false) (by rw [subst_sig HS.out]) (next_trans bel bb))
    clear bb bel rA rS cS
    go_wp2
    go_ret
    exact F.out
  | true =>
    have HS := Lib.hid hsig
    clear hsig
    by_cases h24 : m ≤ 24
    · go_enter Try.func24, Try.ntmps24
      go_wp2_with fail
      rw [← HW.out]
      refine L.out.mono ?_
      rintro e w1 ⟨he, bb⟩
      rw [HS.out] at he
      subst he
      have H0 : HeadSO w A n c S m c' sg ss (.int .i64 0) w1 := ⟨0, Nat.zero_le _, rfl, fun j hj => absurd hj (Nat.not_lt_zero _), rA.next bb, rS.next bb, next_trans bel bb⟩
      have HH := Lib.hid H0
      have cS1 : w1.cell? ⟨w.heap.size + 1, 0, none⟩ = some (.slice S m c') := (rS.next bb).cell 0
      clear H0 bb bel rA rS cS L
      go_wp2_with fail
      go_loopw [19] (fun i wr => HeadSO w A n c S m c' sg ss i wr) (fun i _ => m - (intOf i).toNat)
      case atStart => exact HH.out
      case round =>
        obtain ⟨k, hk, rfl, hlow, r1, r2, hb⟩ := hrel
        have HLOW := Lib.hid hlow
        clear hlow HH cS1
        have cA : wr.cell? ⟨w.heap.size, 0, none⟩ = some (.slice A n c) := r1.cell 0
        by_cases hlt : k < m
        · obtain ⟨b, off, A', n', cc, rfl, hbB, hx, hseg, hcap⟩ := h'.spot hlt
          have hx1 : wr.cell? ⟨b, off + k, none⟩ = some (.slice A' n' cc) := (hb.cell (p := ⟨b, off + k, none⟩) hbB).trans hx
          have hn' : n' ≤ 1048576 := by rw [← hseg.1]; exact HT.out k
          have HG := Lib.hid hseg.1
          by_cases hz : n' = 0
          · subst hz
            have S1 : HeadSO w A n c (some ⟨b, off, none⟩) m c' sg ss (.int .i64 ((k : Int) + 1)) wr := headSO_step hlt HLOW.out (by unfold goodB; rw [HG.out]; rfl) r1 r2 hb
            have HS1 := Lib.hid S1
            clear S1 r1 r2 hb hx hseg hcap h h'
            go_wp2
            go_roundw
            case rel => exact HS1.out
            case measure => simp [intOf]; omega
          · have hpos : 0 < n' := by omega
            have LT := Lib.hid (implTermOk A A' n c n' cc sg (ss.getD k []) wr (h.next hb) ((hseg.below hb).more hb.size) hn hn')
            cases hok : termOkB sg (ss.getD k []) with
            | false =>
              have HO := Lib.hid hok
              clear hok hx hseg hcap h h'
              go_wp2_with fail
              refine LT.out.mono ?_
              rintro e w2 ⟨he, bb⟩
              rw [HO.out] at he
              subst he
              have F := Lib.hid (ansB (b := substOkB sg ss) (a := false) (by rw [subst_bad (k := k) (by rw [HL.out]; exact hlt) (by unfold goodB; rw [HO.out, HG.out]; simp; omega)]) (next_trans hb bb))
              clear r1 r2 hb LT hx1 cA bb
              go_wp2
              go_ret
              exact F.out
            | true =>
              have HO := Lib.hid hok
              clear hok hx hseg hcap h h'
              go_wp2_with fail
              refine LT.out.mono ?_
              rintro e w2 ⟨he, bb⟩
              rw [HO.out] at he
              subst he
              have F := Lib.hid (headSO_step (sg := sg) (ss := ss) hlt HLOW.out (by unfold goodB; rw [HO.out, Bool.or_true]) (r1.next bb) (r2.next bb) (next_trans hb bb))
              clear r1 r2 hb LT hx1 cA bb
              go_wp2
              go_roundw
              case rel => exact F.out
              case measure => simp [intOf]; omega
        · have F := Lib.hid (ansB (b := substOkB sg ss) (a := true) (by rw [subst_good HS.out (by rw [HL.out]; exact h24) (fun j hj => HLOW.out j (by rw [HL.out] at hj; omega))]) hb)
          clear r1 r2 hb h h'
          go_wp2
          go_ret
          exact F.out
    · have i1 : (24 : Int) < (m : Int) := by omega
      go_enter Try.func24, Try.ntmps24
      go_wp2_with fail
      rw [← HW.out]
      refine L.out.mono ?_
      rintro e w1 ⟨he, bb⟩
      rw [HS.out] at he
      subst he
      have cS1 : w1.cell? ⟨w.heap.size + 1, 0, none⟩ = some (.slice S m c') := (rS.next bb).cell 0
      have F := Lib.hid (ansB (b := substOkB sg ss) (a := false) (by rw [subst_long (by rw [HL.out]; exact h24)]) (next_trans bel bb))
      clear bb bel rA rS cS h h' L
      go_wp2
      go_ret
      exact F.out

/-! ### what a substitution gives for a variable -/
def givesL (ss : List (List Int)) (i : Nat) : List Int := if (ss.getD i []).length = 0 then vt i else ss.getD i []
theorem gives_var {ss : List (List Int)} {i : Nat} (h : (ss.getD i []).length = 0) : givesL ss i = vt i := by unfold givesL; rw [if_pos h]
theorem gives_term {ss : List (List Int)} {i : Nat} (h : ¬ (ss.getD i []).length = 0) : givesL ss i = ss.getD i [] := by unfold givesL; rw [if_neg h]
theorem gives_out {ss : List (List Int)} {i : Nat} (h : ¬ i < ss.length) : givesL ss i = vt i := gives_var (by simp [List.getD, h])
theorem gives_ok {sg : List Int} {ss : List (List Int)} (h : substOkB sg ss = true) {i : Nat} (hi : i < 24) : termOkB sg (givesL ss i) = true := by
  obtain ⟨h1, h2, h3⟩ := substOk_parts h
  by_cases hl : i < ss.length
  · have h4 := h3 i hl
    by_cases hz : (ss.getD i []).length = 0
    · rw [gives_var hz]; exact var_term h1 hi
    · rw [gives_term hz]
      unfold goodB at h4
      rw [decide_eq_false hz, Bool.false_or] at h4
      exact h4
  · rw [gives_out hl]; exact var_term h1 hi
theorem gives_len {sg : List Int} {ss : List (List Int)} (h : substOkB sg ss = true) (i : Nat) : (givesL ss i).length ≤ 60 := by
  by_cases hi : i < ss.length
  · have h2 := (substOk_parts h).2.1
    exact (term_len (gives_ok h (show i < 24 by omega))).2
  · rw [gives_out hi]; simp [vt]
theorem gives_pos (ss : List (List Int)) (i : Nat) : 1 ≤ (givesL ss i).length := by
  unfold givesL
  split
  · simp [vt]
  · omega

set_option maxHeartbeats 2000000 in
theorem l2Gives (S : Option Addr) (m c : Nat) (ss : List (List Int)) (i : Nat) (w : World) (h : Segs w w.heap.size S m ss) (ht : tot ss ≤ 1048576) (hi : i ≤ 1048576) :
    Calls Try.prog 75 #[.agg #[.slice S m c], .int .i64 (i : Int)] w (AnsList w (givesL ss i)) := by
  have hm : m ≤ 1048576 := tot_len h.1 ht
  have HT := Lib.hid (tot_each ht)
  have HL := Lib.hid h.1
  clear ht
  have bel : Below w.heap.size w (w.alloc (.cells #[.slice S m c] 29)) := (Below.refl _ _).alloc (Nat.le_refl _) _
  have i0 : (0 : Int) ≤ (i : Int) := by omega
  have var : ∀ (hv : givesL ss i = vt i), AnsList w (givesL ss i) (.returned (.slice (some ⟨w.heap.size + 1, 0, none⟩) 1 1)) ((w.alloc (.cells #[.slice S m c] 29)).alloc (.cells #[.int .i64 (-1 - (i : Int))] 2)) := fun hv => by
    refine ⟨_, 1, 1, rfl, ?_, bel.alloc (by simp) _⟩
    rw [hv]
    have := Own.of_row (base := w.heap.size) (n := 1) (c := 1) (xs := vt i) (Row.new (w.alloc (.cells #[.slice S m c] 29)) 2 #[.int .i64 (-1 - (i : Int))]) rfl rfl (Nat.le_refl _) (by omega) (by simp) (fun j hj => by
      have e : j = 0 := by omega
      subst e
      rfl)
    simpa using this
  have VAR := Lib.hid var
  clear var
  by_cases hlt : i < m
  · obtain ⟨b, off, A', n', cc, rfl, hbB, hx, hseg, hcap⟩ := h.spot hlt
    have hx1 : (w.alloc (.cells #[.slice (some ⟨b, off, none⟩) m c] 29)).cell? ⟨b, off + i, none⟩ = some (.slice A' n' cc) := (bel.cell (p := ⟨b, off + i, none⟩) hbB).trans hx
    by_cases hz : n' = 0
    · subst hz
      have F := Lib.hid (VAR.out (gives_var hseg.1))
      clear h hseg hcap hx bel VAR
      go_enter Try.func75, Try.ntmps75
      go_wp2
      go_ret
      exact F.out
    · have hpos : 0 < n' := by omega
      have E := Lib.hid (gives_term (ss := ss) (i := i) (by rw [hseg.1]; exact hz))
      have L := Lib.hid (copyInts A' n' cc _ _ ((hseg.below bel).more bel.size) hcap.2.2 (by rw [← hseg.1]; exact HT.out i))
      clear h hseg hcap hx VAR
      go_enter Try.func75, Try.ntmps75
      go_wp2_with fail
      refine L.out.mono ?_
      rintro e w1 ⟨D, dn, dc, rfl, o1, b1⟩
      have F : AnsList w (givesL ss i) (.returned (.slice D dn dc)) w1 := ⟨D, dn, dc, rfl, by rw [E.out]; exact Own.lower o1 bel.size, next_trans bel b1⟩
      have HF := Lib.hid F
      clear F o1 b1 bel L
      go_wp2
      go_ret
      exact HF.out
  · have hge : ¬ (i : Int) < (m : Int) := by omega
    have F := Lib.hid (VAR.out (gives_out (by rw [HL.out]; exact hlt)))
    clear h bel VAR
    go_enter Try.func75, Try.ntmps75
    go_wp2
    go_ret
    exact F.out

/-! ### impl's look-up in a substitution -/
theorem lookupIn (S : Option Addr) (m c : Nat) (w : World) :
    Calls Try.prog 64 #[.agg #[.slice S m c]] w fun e w' => e = .returned (.func (.func 105) #[] #[.pointer (some ⟨w.heap.size, 0, none⟩)]) ∧ w' = w.alloc (.cells #[.slice S m c] 29) := by
  have hmf : ∀ (fn : Fn) (first cap : Array Value) (w : World), (Instr.makeFunc fn first cap).run Try.prog w = .ok (.func fn first cap) w := fun _ _ _ _ => rfl
  go_enter Try.func64, Try.ntmps64
  go_wp2
  go_ret
  exact ⟨rfl, rfl⟩

set_option maxHeartbeats 2000000 in
theorem lookSubstC (B : Nat) (S : Option Addr) (m c : Nat) (ss : List (List Int)) (w : World) (hB : B < w.heap.size) (hc : w.cell? ⟨B, 0, none⟩ = some (.slice S m c)) (h : Segs w w.heap.size S m ss) (hm : m ≤ 1048576) :
    Looks 105 #[.pointer (some ⟨B, 0, none⟩)] w (givesL ss) 24 := by
  intro W i hb hi
  have cB : W.cell? ⟨B, 0, none⟩ = some (.slice S m c) := (hb.cell (p := ⟨B, 0, none⟩) hB).trans hc
  have h1 := h.below hb
  have HL := Lib.hid h.1
  have i0 : (0 : Int) ≤ (i : Int) := by omega
  have LV := Lib.hid (varTerm (i : Int) W (by omega) (by omega))
  have hws := hb.size
  clear hB hc h hb
  show Calls Try.prog 105 #[.int .i64 (i : Int), .pointer (some ⟨B, 0, none⟩)] W _
  by_cases hlt : i < m
  · obtain ⟨b, off, A', n', cc, rfl, hbB, hx, hseg0, hcap⟩ := h1.spot hlt
    have hseg := hseg0.more hws
    by_cases hz : n' = 0
    · subst hz
      have E := Lib.hid (gives_var (ss := ss) (i := i) hseg.1)
      clear h1 hseg hseg0 hcap
      go_enter Try.func105, Try.ntmps105
      go_wp2_with fail
      refine LV.out.mono ?_
      rintro e w1 ⟨D, dn, dc, rfl, o1, b1⟩
      have F : AnsLook w.heap.size W (givesL ss i) (.returned (.slice D dn dc)) w1 := by rw [E.out]; exact look_new o1 b1
      have HF := Lib.hid F
      clear F o1 b1 LV
      go_wp2
      go_ret
      exact HF.out
    · have hpos : 0 < n' := by omega
      have F : AnsLook w.heap.size W (givesL ss i) (.returned (.slice A' n' cc)) W := ⟨A', n', cc, rfl, by rw [gives_term (by rw [hseg.1]; exact hz)]; exact hseg, hcap, fun k hk => .inl (by obtain ⟨b2, off2, e2, hb2, _⟩ := hseg0.2 hpos; rw [e2] at hk; have : b2 = k := Option.some.inj hk; omega), Below.refl _ _⟩
      have HF := Lib.hid F
      clear F h1 hseg hseg0 hcap LV
      go_enter Try.func105, Try.ntmps105
      go_wp2
      go_ret
      exact HF.out
  · have hge : ¬ (i : Int) < (m : Int) := by omega
    have E := Lib.hid (gives_out (ss := ss) (i := i) (by rw [HL.out]; exact hlt))
    clear h1
    go_enter Try.func105, Try.ntmps105
    go_wp2_with fail
    refine LV.out.mono ?_
    rintro e w1 ⟨D, dn, dc, rfl, o1, b1⟩
    have F : AnsLook w.heap.size W (givesL ss i) (.returned (.slice D dn dc)) w1 := by rw [E.out]; exact look_new o1 b1
    have HF := Lib.hid F
    clear F o1 b1 LV
    go_wp2
    go_ret
    exact HF.out

theorem lookSubst (B : Nat) (S : Option Addr) (m c : Nat) (ss : List (List Int)) (w : World) (hr : Row w B 29 #[.slice S m c]) (h : Segs w w.heap.size S m ss) (hm : m ≤ 1048576) :
    Looks 105 #[.pointer (some ⟨B, 0, none⟩)] w (givesL ss) 24 := lookSubstC B S m c ss w hr.lt (hr.cell 0) h hm

theorem tooLong (A : Option Addr) (n c : Nat) (w : World) (hn : n ≤ 9223372036854775807) :
    Calls Try.prog 66 #[.slice A n c] w fun e w' => w = w' ∧ e = .returned (.bool (decide (60 < n))) := by
  have E : decide ((60 : Int) < (n : Int)) = decide (60 < n) := decide_eq_decide.2 (by omega)
  rw [← E]
  have HE := Lib.hid E
  clear E
  generalize hz : decide ((60 : Int) < (n : Int)) = z
  have HZ := Lib.hid hz
  clear hz
  go_enter Try.func66, Try.ntmps66
  go_wp2
  go_ret
  exact ⟨rfl, by rw [← HZ.out]; rfl⟩
end Go.Proofs.Ytdeegjeopkcomaa.gives
