/-
  MERGED: my texts MatchImpl, MatchImplB, AnyOf, MatchImplC, MatchTot, WMostGeneral, one behind the other, as they are. By an AI agent.
-/
import Derived.Test.YthbhiihhanochaaMFnExactMostGeneral4
import Derived.Deep.WholeRow
import Derived.Shelf.Abstract
import Derived.Deep.RegionHeld3
section
/-
  CONTRACTS: impl.Matched, InstanceIn, MoreGeneral, termsOk. Conditions: the slices read as lists ('Seg', 'Segs'), at most 1048576 numbers. By an AI agent.
-/
namespace Go.Proofs.Ythbhiihhanochaa.matchImpl
open Go.RowKit Go.Proofs.Ythbhiihhanochaa.base Go.Proofs.Ythbhiihhanochaa.ints Go.Proofs.Ythbhiihhanochaa.sig Go.Proofs.Ythbhiihhanochaa.same Go.Proofs.Ythbhiihhanochaa.term Go.Proofs.Ythbhiihhanochaa.termOk Go.Proofs.Ythbhiihhanochaa.endAt Go.Proofs.Ythbhiihhanochaa.inside Go.Proofs.Ythbhiihhanochaa.marks Go.Proofs.Ythbhiihhanochaa.app Go.Proofs.Ythbhiihhanochaa.sym Go.Proofs.Ythbhiihhanochaa.sub Go.Proofs.Ythbhiihhanochaa.segs Go.Proofs.Ythbhiihhanochaa.segsHelp Go.Proofs.Ythbhiihhanochaa.kinds Go.Proofs.Ythbhiihhanochaa.termFacts Go.Proofs.Ythbhiihhanochaa.termMath Go.Proofs.Ythbhiihhanochaa.posMath Go.Proofs.Ythbhiihhanochaa.plainMath Go.Proofs.Ythbhiihhanochaa.plain Go.Proofs.Ythbhiihhanochaa.plainOf Go.Proofs.Ythbhiihhanochaa.gives Go.Proofs.Ythbhiihhanochaa.cursor Go.Proofs.Ythbhiihhanochaa.fillMath Go.Proofs.Ythbhiihhanochaa.matchMath Go.Proofs.Ythbhiihhanochaa.matchSpec Go.Proofs.Ythbhiihhanochaa.matchList Go.Proofs.Ythbhiihhanochaa.matchMost Go.Proofs.Ythbhiihhanochaa.whole Go.Proofs.Ythbhiihhanochaa.takeMath Go.Proofs.Ythbhiihhanochaa.take Go.Proofs.Ythbhiihhanochaa.extended
set_option maxRecDepth 100000

theorem plain_s0 : plainL (givesL s0) 24 = [] := by
  have h : ∀ i, 0 ≤ i → givesL s0 i = vt i := fun i _ => gives_var (by rw [s0_get]; rfl)
  rw [plain_24 (m := 0) (by omega) h]
  rfl
theorem res_get (R : Option (List (List Int))) : plainL (givesL (R.getD s0)) 24 = resL R := by
  cases R with
  | none => exact plain_s0
  | some s => rfl

set_option maxHeartbeats 1000000 in
theorem implMatched (A P Q : Option Addr) (n c pn pc m mc : Nat) (sg p t : List Int) (w : World) (h : Seg w w.heap.size A n sg) (hp : Seg w w.heap.size P pn p) (ht : Seg w w.heap.size Q m t) (hn : n ≤ 1048576) (hpn : pn ≤ 1048576) (hm : m ≤ 1048576) (hmc : m ≤ mc) (hmc2 : mc ≤ 9223372036854775807) :
    Calls Try.prog 14 #[.agg #[.slice A n c], .slice P pn pc, .slice Q m mc] w (AnsM w (resL (matchO sg p t)) (instB sg p t)) := by
  obtain ⟨W, hW⟩ : ∃ W, W = (w.alloc (.cells #[.slice A n c] 26)).alloc (.cells #[.slice none 0 0] 31) := ⟨_, rfl⟩
  have M : Mr w W A n c sg P pn p Q m t := by rw [hW]; exact Mr.start h hp ht
  have HW := Lib.hid hW
  have L := Lib.hid (implTermOk A P n c pn pc sg p W M.ss M.sp hn hpn)
  have c0 : W.cell? ⟨w.heap.size, 0, none⟩ = some (.slice A n c) := M.r0.cell 0
  have c00 : ((w.alloc (.cells #[.slice A n c] 26)).alloc (.cells #[.slice none 0 0] 31)).cell? ⟨w.heap.size, 0, none⟩ = some (.slice A n c) := by rw [← hW]; exact c0
  clear hW h hp ht
  cases hokp : termOkB sg p with
  | false =>
    have HS := Lib.hid hokp
    clear hokp
    go_enter Try.func14, Try.ntmps14
    go_wp2_with fail
    rw [← HW.out]
    refine L.out.mono ?_
    rintro e w1 ⟨he, bb⟩
    rw [HS.out] at he
    subst he
    replace M := M.next bb
    have cR : w1.cell? ⟨w.heap.size + 1, 0, none⟩ = some (.slice none 0 0) := M.r1.cell 0
    have fR : w1.frozen? ⟨w.heap.size + 1, 0, none⟩ = false := M.r1.free 0
    have F1 := Lib.hid (ansM_off (w := w) (t := t) (.inl HS.out) M.b)
    have F2 := Lib.hid (ansM_off (w := w) (t := t) (.inl HS.out) ((M.b).setCell (p := ⟨w.heap.size + 1, 0, none⟩) (show w.heap.size ≤ w.heap.size + 1 by omega) (.slice none 0 0)))
    clear M L bb c0 c00
    go_wp2
    first
      | exact bodyPost_ret (v := .tuple #[.agg #[.slice none 0 0], .bool false]) (by simp [results, Try.results14, go_sem, cR]) rfl F1.out
      | exact bodyPost_ret (v := .tuple #[.agg #[.slice none 0 0], .bool false]) (by simp [results, Try.results14, go_sem, cR]) rfl F2.out
  | true =>
    have HSP := Lib.hid hokp
    have hp60 : pn ≤ 60 := by have h1 := (termOk_parts hokp).2.1; rw [M.sp.1] at h1; exact h1
    clear hokp
    cases hokt : termOkB sg t with
    | false =>
      have HS := Lib.hid hokt
      clear hokt
      go_enter Try.func14, Try.ntmps14
      go_wp2_with fail
      rw [← HW.out]
      refine L.out.mono ?_
      rintro e w1 ⟨he, bb⟩
      rw [HSP.out] at he
      subst he
      replace M := M.next bb
      clear bb L c0 c00
      have c0 : w1.cell? ⟨w.heap.size, 0, none⟩ = some (.slice A n c) := M.r0.cell 0
      go_wp2_with fail
      refine (implTermOk A Q n c m mc sg t _ M.ss M.st hn hm).mono ?_
      rintro e w2 ⟨he, bb⟩
      rw [HS.out] at he
      subst he
      replace M := M.next bb
      have cR : w2.cell? ⟨w.heap.size + 1, 0, none⟩ = some (.slice none 0 0) := M.r1.cell 0
      have fR : w2.frozen? ⟨w.heap.size + 1, 0, none⟩ = false := M.r1.free 0
      have F1 := Lib.hid (ansM_off (w := w) (p := p) (.inr HS.out) M.b)
      have F2 := Lib.hid (ansM_off (w := w) (p := p) (.inr HS.out) ((M.b).setCell (p := ⟨w.heap.size + 1, 0, none⟩) (show w.heap.size ≤ w.heap.size + 1 by omega) (.slice none 0 0)))
      clear M bb c0
      go_wp2
      first
        | exact bodyPost_ret (v := .tuple #[.agg #[.slice none 0 0], .bool false]) (by simp [results, Try.results14, go_sem, cR]) rfl F1.out
        | exact bodyPost_ret (v := .tuple #[.agg #[.slice none 0 0], .bool false]) (by simp [results, Try.results14, go_sem, cR]) rfl F2.out
    | true =>
      have HST := Lib.hid hokt
      have hm60 : m ≤ 60 := by have h1 := (termOk_parts hokt).2.1; rw [M.st.1] at h1; exact h1
      have HMO := Lib.hid (match_yes HSP.out hokt)
      have HIO := Lib.hid (show instB sg p t = (mst sg t p 0 s0).isSome by unfold instB; rw [HMO.out])
      clear hokt
      go_enter Try.func14, Try.ntmps14
      go_wp2_with fail
      rw [← HW.out]
      refine L.out.mono ?_
      rintro e w1 ⟨he, bb⟩
      rw [HSP.out] at he
      subst he
      replace M := M.next bb
      clear bb L c0 c00
      have c0 : w1.cell? ⟨w.heap.size, 0, none⟩ = some (.slice A n c) := M.r0.cell 0
      go_wp2_with fail
      refine (implTermOk A Q n c m mc sg t _ M.ss M.st hn hm).mono ?_
      rintro e w2 ⟨he, bb⟩
      rw [HST.out] at he
      subst he
      replace M := M.next bb
      clear bb c0
      have c0 : w2.cell? ⟨w.heap.size, 0, none⟩ = some (.slice A n c) := M.r0.cell 0
      have LX : Calls Try.prog 54 #[.agg z24, .slice P pn pc, .agg #[.slice A n c, .slice Q m mc, .int .i64 0]] w2 (AnsExt w2 (mst sg t p 0 s0)) :=
        extended A P Q n c pn pc m mc sg p t 0 z24 s0 w2 M.ss M.sp M.st hn hp60 hm60 hmc hmc2 (by rw [← M.st.1]; exact (term_len HST.out).1) HSP.out HST.out (TabR.new _ _) (fun j => by rw [s0_get]; simp)
      obtain ⟨R, hR⟩ : ∃ R, mst sg t p 0 s0 = R := ⟨_, rfl⟩
      rw [hR] at LX
      have HR := Lib.hid hR
      have HLX := Lib.hid LX
      clear LX hR
      have zw := M.r1.lt
      go_wp2_with (first
        | (refine rowBuild rfl 67 rfl z24 built_b ?_)
        | (go_at_call 54; refine HLX.out.mono ?_; rintro e w3 ⟨cs, rfl, tab, hsz, bb⟩; have one := Lib.hid tab.one; have h24 := Lib.hid tab.1; have bb3 := bb)
        | (refine rowAlloc rfl 67 rfl z24 zero_b ?_)
        | (refine rowStore rfl 67 _ _ rfl w3.heap.size cs z24 67 rfl rfl (heap_alloc_new w3 _) (by rw [h24.out]; exact size_b) (by rw [h24.out]; rfl) one.out ?_; rw [World.setRow_alloc_new])
        | (refine wpList_load_row rfl 67 _ rfl w3.heap.size rfl 67 cs (0, 0) _ (heap_alloc_new w3 _) Try.underlying67 rfl (by rw [h24.out]; exact size_b) ?_))
      have M3 := M.next bb
      have B4 : Below w3.heap.size w3 (w3.alloc (.cells cs 67)) := (Below.refl _ _).alloc (Nat.le_refl _) _
      have tab4 : TabR (w3.alloc (.cells cs 67)) (w3.alloc (.cells cs 67)).heap.size cs (R.getD s0) := (tab.below (B4.mono bb.size)).more (by have := bb.size; simp; omega)
      have LP := Lib.hid (plainB cs (R.getD s0) _ tab4 hsz)
      have M4 := M3.next B4
      have HI2 := Lib.hid (show instB sg p t = R.isSome by rw [HIO.out, HR.out])
      have HM2 := Lib.hid (show resL (matchO sg p t) = resL R by rw [HMO.out, HR.out])
      rw [res_get] at LP
      clear M M3 tab4 tab hsz bb bb3 one h24 HLX B4 c0
      refine LP.out.mono ?_
      rintro e w5 ⟨D, dn, dc, rfl, od, bb⟩
      have M5 := M4.next bb
      have z4 := M4.b.size
      have z5 := M4.r1.lt
      have cR : w5.cell? ⟨w.heap.size + 1, 0, none⟩ = some (.slice none 0 0) := M5.r1.cell 0
      have fR : w5.frozen? ⟨w.heap.size + 1, 0, none⟩ = false := M5.r1.free 0
      obtain ⟨b, hb⟩ : ∃ b, R.isSome = b := ⟨_, rfl⟩
      rw [hb]
      have F : AnsM w (resL (matchO sg p t)) (instB sg p t) (.returned (.tuple #[.agg #[.slice D dn dc], .bool b])) (w5.setCell ⟨w.heap.size + 1, 0, none⟩ (.slice D dn dc)) := by
        rw [HI2.out, HM2.out, hb]
        have hbt : Btw (w.heap.size + 1) (w.heap.size + 2) w5 (w5.setCell ⟨w.heap.size + 1, 0, none⟩ (.slice D dn dc)) := Btw.of_grown (grown_put (World.grownBy.refl _ _) _ _) (fun k hk => by injection hk; omega)
        have o2 := od.btw hbt (.inr (by simp at z5 ⊢; omega))
        exact ⟨D, dn, dc, rfl, o2.wider (by simp at z4 ⊢; omega) (by simp), (M5.b).setCell (p := ⟨w.heap.size + 1, 0, none⟩) (show w.heap.size ≤ w.heap.size + 1 by omega) _⟩
      have HF := Lib.hid F
      clear F od bb M4 M5 HIO hb LP
      go_wp2
      exact bodyPost_ret (v := .tuple #[.agg #[.slice D dn dc], .bool b]) (by simp [results, Try.results14, go_sem, cR]) rfl HF.out

set_option maxHeartbeats 1000000 in
theorem implInstanceIn (A P Q : Option Addr) (n c pn pc m mc : Nat) (sg p t : List Int) (w : World) (h : Seg w w.heap.size A n sg) (hp : Seg w w.heap.size P pn p) (ht : Seg w w.heap.size Q m t) (hn : n ≤ 1048576) (hpn : pn ≤ 1048576) (hm : m ≤ 1048576) (hmc : m ≤ mc) (hmc2 : mc ≤ 9223372036854775807) :
    Calls Try.prog 19 #[.agg #[.slice A n c], .slice P pn pc, .slice Q m mc] w (Tells w (instB sg p t)) := by
  obtain ⟨W, hW⟩ : ∃ W, W = w.alloc (.cells #[.slice A n c] 26) := ⟨_, rfl⟩
  have bW : Below w.heap.size w W := by rw [hW]; exact (Below.refl _ _).alloc (Nat.le_refl _) _
  have HW := Lib.hid hW
  have L := Lib.hid (implMatched A P Q n c pn pc m mc sg p t W (h.next bW) (hp.next bW) (ht.next bW) hn hpn hm hmc hmc2)
  clear hW h hp ht
  generalize instB sg p t = b at *
  go_enter Try.func19, Try.ntmps19
  go_wp2_with fail
  rw [← HW.out]
  refine L.out.mono ?_
  rintro e w1 ⟨D, dn, dc, rfl, od, bb⟩
  have F := Lib.hid (fun o => (show Tells w b (.returned (.bool b)) (w1.alloc o) from ⟨rfl, (next_trans bW bb).alloc (next_trans bW bb).size _⟩))
  clear od bb L bW
  go_wp2
  go_ret
  exact F.out _
set_option maxHeartbeats 1000000 in
theorem implMoreGeneral (A P Q : Option Addr) (n c pn pc m mc : Nat) (sg p t : List Int) (w : World) (h : Seg w w.heap.size A n sg) (hp : Seg w w.heap.size P pn p) (ht : Seg w w.heap.size Q m t) (hn : n ≤ 1048576) (hpn : pn ≤ 1048576) (hm : m ≤ 1048576) (hpc : pn ≤ pc) (hpc2 : pc ≤ 9223372036854775807) (hmc : m ≤ mc) (hmc2 : mc ≤ 9223372036854775807) :
    Calls Try.prog 50 #[.agg #[.slice A n c], .slice P pn pc, .slice Q m mc] w (Tells w (moreB sg p t)) := by
  obtain ⟨W, hW⟩ : ∃ W, W = w.alloc (.cells #[.slice A n c] 26) := ⟨_, rfl⟩
  have f : Fr w W A n c sg Q m t := by rw [hW]; exact Fr.start h ht
  have sp : Seg W W.heap.size P pn p := (hp.below f.b).more (Nat.le_of_lt f.size)
  have HW := Lib.hid hW
  have L := Lib.hid (implInstanceIn A P Q n c pn pc m mc sg p t W f.s1 sp f.t1 hn hpn hm hmc hmc2)
  clear hW h hp ht
  obtain ⟨b1, e1⟩ : ∃ b, instB sg p t = b := ⟨_, rfl⟩
  obtain ⟨b2, e2⟩ : ∃ b, instB sg t p = b := ⟨_, rfl⟩
  have HF := Lib.hid (show moreB sg p t = (b1 && !b2) by unfold moreB; rw [e1, e2])
  rw [e1] at L
  have E2 := Lib.hid e2
  clear e1 e2
  go_enter Try.func50, Try.ntmps50
  go_wp2_with fail
  rw [← HW.out]
  refine L.out.mono ?_
  rintro e w1 ⟨rfl, bb⟩
  replace f := f.next bb
  replace sp := sp.next bb
  have cA := f.cell
  clear bb L
  cases b1 with
  | false =>
    have F := Lib.hid (show Tells w (moreB sg p t) (.returned (.bool false)) w1 from ⟨by rw [HF.out]; rfl, f.b⟩)
    clear f sp cA
    go_wp2
    go_ret
    exact F.out
  | true =>
    go_wp2_with fail
    refine (implInstanceIn A Q P n c m mc pn pc sg t p _ f.s1 f.t1 sp hn hm hpn hpc hpc2).mono ?_
    rintro e w2 ⟨he, bb⟩
    rw [E2.out] at he
    subst he
    have F := Lib.hid (show Tells w (moreB sg p t) (.returned (.bool (!b2))) w2 from ⟨by rw [HF.out]; rfl, (f.next bb).b⟩)
    clear f sp cA bb
    go_wp2
    go_ret
    exact F.out


/-- so many are terms -/
def HeadTo (w : World) (A : Option Addr) (n c : Nat) (sg : List Int) (P : Option Addr) (pn : Nat) (ps : List (List Int)) (i : Value) (wr : World) : Prop :=
  ∃ k : Nat, i = .int .i64 k ∧ k ≤ pn ∧ (∀ j, j < k → termOkB sg (ps.getD j []) = true) ∧ Fs w wr A n c sg P pn ps
set_option maxHeartbeats 1000000 in
theorem implTermsOk (A P : Option Addr) (n c pn pc : Nat) (sg : List Int) (ps : List (List Int)) (w : World) (h : Seg w w.heap.size A n sg) (hp : Segs w w.heap.size P pn ps) (hn : n ≤ 1048576) (ht : tot ps ≤ 1048576) :
    Calls Try.prog 79 #[.agg #[.slice A n c], .slice P pn pc] w (Tells w (termsB sg ps)) := by
  obtain ⟨W, hW⟩ : ∃ W, W = w.alloc (.cells #[.slice A n c] 26) := ⟨_, rfl⟩
  have f : Fs w W A n c sg P pn ps := by rw [hW]; exact Fs.start h hp
  have HW := Lib.hid hW
  have HL := Lib.hid hp.1
  have HE := Lib.hid (tot_each ht)
  have hpn : pn ≤ 1048576 := tot_len hp.1 ht
  clear hW h hp ht
  by_cases hlong : 12 < pn
  · have F := Lib.hid (show Tells w (termsB sg ps) (.returned (.bool false)) W from ⟨by rw [terms_long (by rw [HL.out]; exact hlong)], f.b⟩)
    clear f
    go_enter Try.func79, Try.ntmps79
    go_wp2_with fail
    rw [← HW.out]
    go_ret
    exact F.out
  · have S0 : HeadTo w A n c sg P pn ps (.int .i64 0) W := ⟨0, rfl, Nat.zero_le _, fun j hj => absurd hj (Nat.not_lt_zero _), f⟩
    have HS0 := Lib.hid S0
    clear S0 f
    go_enter Try.func79, Try.ntmps79
    go_wp2_with fail
    rw [← HW.out]
    go_loopw [12] (fun i wr => HeadTo w A n c sg P pn ps i wr) (fun i _ => pn - (intOf i).toNat)
    case atStart => exact HS0.out
    case round =>
      obtain ⟨k, rfl, hk, hlow, f⟩ := hrel
      have HLOW := Lib.hid hlow
      clear hlow HS0
      by_cases hlt : k < pn
      · obtain ⟨b, off, D, dn, dc, rfl, hbb, hc, hsg, hcap⟩ := f.s'.spot hlt
        have hdn : dn ≤ 1048576 := by have := HE.out k; rw [hsg.1] at this; exact this
        have cA := f.cell
        have LT := Lib.hid (implTermOk A D n c dn dc sg (ps.getD k []) wr f.s1 (hsg.more (Nat.le_of_lt f.size)) hn hdn)
        clear hsg hcap
        cases hok : termOkB sg (ps.getD k []) with
        | false =>
          have HS := Lib.hid hok
          clear hok
          go_wp2_with fail
          refine LT.out.mono ?_
          rintro e w1 ⟨he, bb⟩
          rw [HS.out] at he
          subst he
          have F := Lib.hid (show Tells w (termsB sg ps) (.returned (.bool false)) w1 from ⟨by rw [terms_bad (by rw [HL.out]; exact hlt) HS.out], (f.next bb).b⟩)
          clear f bb cA LT hc
          go_wp2
          go_ret
          exact F.out
        | true =>
          have HS := Lib.hid hok
          clear hok
          go_wp2_with fail
          refine LT.out.mono ?_
          rintro e w1 ⟨he, bb⟩
          rw [HS.out] at he
          subst he
          have S : HeadTo w A n c sg (some ⟨b, off, none⟩) pn ps (.int .i64 ((k : Int) + 1)) w1 := ⟨k + 1, by simp, hlt, fun j hj => by
            by_cases e : j = k
            · rw [e]; exact HS.out
            · exact HLOW.out j (by omega), f.next bb⟩
          have HSS := Lib.hid S
          clear S f bb cA LT hc
          go_wp2
          go_roundw
          case rel => exact HSS.out
          case measure => simp [intOf]; omega
      · have F := Lib.hid (show Tells w (termsB sg ps) (.returned (.bool true)) wr from ⟨by rw [terms_good (by rw [HL.out]; omega) (fun i hi => HLOW.out i (by rw [HL.out] at hi; omega))], f.b⟩)
        clear f
        go_wp2
        go_ret
        exact F.out
end Go.Proofs.Ythbhiihhanochaa.matchImpl
end

section
/-
  CONTRACTS: impl.EmbedsIn, MatchedAll. Conditions: the slices read as lists ('Seg', 'Segs'), at most 1048576 numbers. By an AI agent.
-/
namespace Go.Proofs.Ythbhiihhanochaa.matchImplB
open Go.RowKit Go.Proofs.Ythbhiihhanochaa.base Go.Proofs.Ythbhiihhanochaa.ints Go.Proofs.Ythbhiihhanochaa.sig Go.Proofs.Ythbhiihhanochaa.same Go.Proofs.Ythbhiihhanochaa.term Go.Proofs.Ythbhiihhanochaa.termOk Go.Proofs.Ythbhiihhanochaa.endAt Go.Proofs.Ythbhiihhanochaa.inside Go.Proofs.Ythbhiihhanochaa.marks Go.Proofs.Ythbhiihhanochaa.app Go.Proofs.Ythbhiihhanochaa.sym Go.Proofs.Ythbhiihhanochaa.sub Go.Proofs.Ythbhiihhanochaa.segs Go.Proofs.Ythbhiihhanochaa.segsHelp Go.Proofs.Ythbhiihhanochaa.kinds Go.Proofs.Ythbhiihhanochaa.termFacts Go.Proofs.Ythbhiihhanochaa.termMath Go.Proofs.Ythbhiihhanochaa.posMath Go.Proofs.Ythbhiihhanochaa.plainMath Go.Proofs.Ythbhiihhanochaa.plain Go.Proofs.Ythbhiihhanochaa.plainOf Go.Proofs.Ythbhiihhanochaa.gives Go.Proofs.Ythbhiihhanochaa.cursor Go.Proofs.Ythbhiihhanochaa.fillMath Go.Proofs.Ythbhiihhanochaa.matchMath Go.Proofs.Ythbhiihhanochaa.matchSpec Go.Proofs.Ythbhiihhanochaa.matchList Go.Proofs.Ythbhiihhanochaa.matchMost Go.Proofs.Ythbhiihhanochaa.whole Go.Proofs.Ythbhiihhanochaa.takeMath Go.Proofs.Ythbhiihhanochaa.take Go.Proofs.Ythbhiihhanochaa.extended Go.Proofs.Ythbhiihhanochaa.pathSpec Go.Proofs.Ythbhiihhanochaa.matchImpl
set_option maxRecDepth 100000

def HeadEi (w : World) (N : Nat) (A : Option Addr) (n c : Nat) (sg : List Int) (P : Option Addr) (pn : Nat) (p : List Int) (Q : Option Addr) (m : Nat) (t : List Int) (out k : Value) (wr : World) : Prop :=
  ∃ (i : Nat) (O : Option Addr) (on oc : Nat), k = .int .i64 i ∧ i ≤ m ∧ out = .slice O on oc ∧ Own wr (N + 1) (.slice O on oc) (embN sg p t i) ∧ Fr w wr A n c sg Q m t ∧ Seg wr w.heap.size P pn p ∧ Row wr N 67 z24

set_option maxHeartbeats 1000000 in
theorem implEmbedsIn (A P Q : Option Addr) (n c pn pc m mc : Nat) (sg p t : List Int) (w : World) (h : Seg w w.heap.size A n sg) (hp : Seg w w.heap.size P pn p) (ht : Seg w w.heap.size Q m t) (hn : n ≤ 1048576) (hpn : pn ≤ 1048576) (hm : m ≤ 1048576) (hmc : m ≤ mc) (hmc2 : mc ≤ 9223372036854775807) :
    Calls Try.prog 23 #[.agg #[.slice A n c], .slice P pn pc, .slice Q m mc] w (AnsList w (embI sg p t)) := by
  obtain ⟨W, hW⟩ : ∃ W, W = w.alloc (.cells #[.slice A n c] 26) := ⟨_, rfl⟩
  have f : Fr w W A n c sg Q m t := by rw [hW]; exact Fr.start h ht
  have sp : Seg W w.heap.size P pn p := hp.below f.b
  have HW := Lib.hid hW
  have HL := Lib.hid ht.1
  have cA := f.cell
  have cA0 : (w.alloc (.cells #[.slice A n c] 26)).cell? ⟨w.heap.size, 0, none⟩ = some (.slice A n c) := by rw [← hW]; exact cA
  have LP := Lib.hid (implTermOk A P n c pn pc sg p W f.s1 (sp.more (Nat.le_of_lt f.size)) hn hpn)
  clear hW h hp ht
  cases hokp : termOkB sg p with
  | false =>
    have HS := Lib.hid hokp
    have HF := Lib.hid (emb_no (t := t) (.inl hokp))
    clear hokp
    go_enter Try.func23, Try.ntmps23
    go_wp2_with fail
    rw [← HW.out]
    refine LP.out.mono ?_
    rintro e w1 ⟨he, bb⟩
    rw [HS.out] at he
    subst he
    have F := Lib.hid (list_of (w := w) HF.out (Own.nil w1 w.heap.size) (Nat.le_refl _) (f.next bb).b)
    clear f sp bb LP cA cA0
    go_wp2
    go_ret
    exact F.out
  | true =>
    have HSP := Lib.hid hokp
    have hp60 : pn ≤ 60 := by have h1 := (termOk_parts hokp).2.1; rw [sp.1] at h1; exact h1
    cases hokt : termOkB sg t with
    | false =>
      have HS := Lib.hid hokt
      have HF := Lib.hid (emb_no (p := p) (.inr hokt))
      clear hokp hokt
      go_enter Try.func23, Try.ntmps23
      go_wp2_with fail
      rw [← HW.out]
      refine LP.out.mono ?_
      rintro e w1 ⟨he, bb⟩
      rw [HSP.out] at he
      subst he
      replace f := f.next bb
      clear bb LP cA cA0 sp
      have cA := f.cell
      go_wp2_with fail
      refine (implTermOk A Q n c m mc sg t _ f.s1 f.t1 hn hm).mono ?_
      rintro e w2 ⟨he, bb⟩
      rw [HS.out] at he
      subst he
      have F := Lib.hid (list_of (w := w) HF.out (Own.nil w2 w.heap.size) (Nat.le_refl _) (f.next bb).b)
      clear f bb cA
      go_wp2
      go_ret
      exact F.out
    | true =>
      have HST := Lib.hid hokt
      have hm60 : m ≤ 60 := by have h1 := (termOk_parts hokt).2.1; rw [HL.out] at h1; exact h1
      have HF := Lib.hid (show embI sg p t = embN sg p t m by rw [emb_yes hokp hokt, HL.out])
      clear hokp hokt
      go_enter Try.func23, Try.ntmps23
      go_wp2_with fail
      rw [← HW.out]
      refine LP.out.mono ?_
      rintro e w1 ⟨he, bb⟩
      rw [HSP.out] at he
      subst he
      have bz : Below w.heap.size W w1 := bb.mono (Nat.le_of_lt f.size)
      replace f := f.next bb
      replace sp := sp.below bz
      clear bb bz LP cA cA0
      have cA := f.cell
      go_wp2_with fail
      refine (implTermOk A Q n c m mc sg t _ f.s1 f.t1 hn hm).mono ?_
      rintro e w2 ⟨he, bb⟩
      rw [HST.out] at he
      subst he
      have bz : Below w.heap.size w1 w2 := bb.mono (Nat.le_of_lt f.size)
      replace f := f.next bb
      replace sp := sp.below bz
      have zN := f.size
      have S0 : HeadEi w w2.heap.size A n c sg P pn p Q m t (.slice none 0 0) (.int .i64 0) (w2.alloc (.cells z24 67)) := ⟨0, none, 0, 0, rfl, Nat.zero_le _, rfl, Own.nil _ _, f.alloc _, sp.alloc (Nat.le_of_lt f.size) _, Row.new _ _ _⟩
      have HS0 := Lib.hid S0
      clear S0 f sp bb bz cA
      go_wp2_with (first | (refine rowAlloc rfl 67 rfl z24 zero_b ?_))
      go_loopw [8, 24] (fun out k wr => HeadEi w w2.heap.size A n c sg P pn p Q m t out k wr) (fun _ k _ => m - (intOf k).toNat)
      case atStart => exact HS0.out
      case round =>
        obtain ⟨i, O, on, oc, rfl, hi, rfl, ho, f, sp, rN⟩ := hrel
        clear HS0
        have hon : on ≤ 60 := by have h1 := Own.len ho; have h2 := emb_len (sg := sg) (p := p) (t := t) i; omega
        by_cases him : i < m
        · obtain ⟨R, hR⟩ : ∃ R, mst sg t p i s0 = R := ⟨_, rfl⟩
          have HB := Lib.hid (show R.isSome = instB sg p (subL sg t i) by rw [← hR]; exact mst_at HSP.out HST.out (by rw [HL.out]; exact him))
          have LX := extended A P Q n c pn pc m mc sg p t i z24 s0 wr f.s1 (sp.more (Nat.le_of_lt f.size)) f.t1 hn hp60 hm60 hmc hmc2 him HSP.out HST.out (TabR.new _ _) (fun j => by rw [s0_get]; simp)
          rw [hR] at LX
          have HLX := Lib.hid LX
          have hrN := rN
          unfold Row at hrN
          have HRN := Lib.hid hrN
          have cA := f.cell
          have HO := Lib.hid ho
          have HFr := Lib.hid f
          have HP := Lib.hid sp
          have HN := Lib.hid rN
          have HE := Lib.hid (show embN sg p t (i + 1) = embN sg p t i ++ (if R.isSome = true then [(i : Int)] else []) by simp only [embN]; rw [HB.out])
          have zr : w2.heap.size < wr.heap.size := rN.lt
          clear LX hR f sp ho rN hrN HB
          obtain ⟨b, hb⟩ : ∃ b, R.isSome = b := ⟨_, rfl⟩
          have HBB := Lib.hid hb
          clear hb
          cases b with
          | false =>
            go_wp2_with (first
              | (refine wpList_load_row rfl 67 _ rfl w2.heap.size rfl 67 z24 (0, 0) _ HRN.out Try.underlying67 rfl (by rw [z24_size]; exact size_b) ?_)
              | (go_at_call 54; refine HLX.out.mono ?_; rintro e w3 ⟨cs, rfl, tab, hsz, bb⟩; rw [HBB.out]; have one := Lib.hid tab.one; have h24 := Lib.hid tab.1; have B4 := bb.alloc bb.size (.cells cs 67); clear tab hsz)
              | (refine rowAlloc rfl 67 rfl z24 zero_b ?_)
              | (refine rowStore rfl 67 _ _ rfl w3.heap.size cs z24 67 rfl rfl (heap_alloc_new w3 _) (by rw [h24.out]; exact size_b) (by rw [h24.out]; rfl) one.out ?_; rw [World.setRow_alloc_new]))
            have S : HeadEi w w2.heap.size A n c sg P pn p Q m t (.slice O on oc) (.int .i64 ((i : Int) + 1)) (w3.alloc (.cells cs 67)) :=
              ⟨i + 1, O, on, oc, by simp, him, rfl, by rw [HE.out, HBB.out]; simpa using Own.next HO.out B4, HFr.out.next B4, HP.out.below (B4.mono (Nat.le_of_lt HFr.out.size)), HN.out.next B4⟩
            have HSS := Lib.hid S
            clear S B4 bb one h24 HLX HO HFr HP HN HRN cA
            go_wp2
            go_roundw
            case rel => exact HSS.out
            case measure => simp [intOf]; omega
          | true =>
            go_wp2_with (first
              | (refine wpList_load_row rfl 67 _ rfl w2.heap.size rfl 67 z24 (0, 0) _ HRN.out Try.underlying67 rfl (by rw [z24_size]; exact size_b) ?_)
              | (go_at_call 54; refine HLX.out.mono ?_; rintro e w3 ⟨cs, rfl, tab, hsz, bb⟩; rw [HBB.out]; have one := Lib.hid tab.one; have h24 := Lib.hid tab.1; have B4 := bb.alloc bb.size (.cells cs 67); clear tab hsz)
              | (refine rowAlloc rfl 67 rfl z24 zero_b ?_)
              | (refine rowStore rfl 67 _ _ rfl w3.heap.size cs z24 67 rfl rfl (heap_alloc_new w3 _) (by rw [h24.out]; exact size_b) (by rw [h24.out]; rfl) one.out ?_; rw [World.setRow_alloc_new])
              | (at_builtin; refine app1 rfl _ _ rfl (w2.heap.size + 1) O on oc _ rfl (Own.alloc (Own.next HO.out B4) _) (w3.alloc (.cells cs 67)).heap.size 1 (i : Int) (by simp [Act.eval]) ((Row.new _ _ _).cell 0) (by omega) (by have := B4.size; simp at this ⊢; omega) ?_; intro O' oc' w7 ho7 b7))
            have S : HeadEi w w2.heap.size A n c sg P pn p Q m t (.slice O' (on + 1) oc') (.int .i64 ((i : Int) + 1)) w7 := by
              have f4 := HFr.out.next B4
              have p4 := HP.out.below (B4.mono (Nat.le_of_lt HFr.out.size))
              have n4 := HN.out.next B4
              refine ⟨i + 1, O', on + 1, oc', by simp, him, rfl, by rw [HE.out, HBB.out]; exact ho7, (f4.alloc _).over (b7.mono (by omega)), (p4.alloc (Nat.le_of_lt f4.size) _).below (b7.mono (by omega)), (n4.alloc _).below b7 (Nat.lt_succ_self _)⟩
            have HSS := Lib.hid S
            clear S ho7 b7 B4 bb one h24 HLX HO HFr HP HN HRN cA
            go_wp2
            go_roundw
            case rel => exact HSS.out
            case measure => simp [intOf]; omega
        · have him2 : i = m := by omega
          have F := Lib.hid (list_of (w := w) (show embI sg p t = embN sg p t i by rw [HF.out, him2]) ho (by omega) f.b)
          clear ho f sp rN him2
          go_wp2
          go_ret
          exact F.out

theorem all_terms {sg : List Int} {ps : List (List Int)} (h : sigOkB sg = true) : allB sg ps = termsB sg ps := by unfold allB termsB; rw [h]; rfl

set_option maxHeartbeats 1000000 in
theorem implMatchedAll (A P Q : Option Addr) (n c pn pc m mc : Nat) (sg : List Int) (ps : List (List Int)) (t : List Int) (w : World) (h : Seg w w.heap.size A n sg) (hp : Segs w w.heap.size P pn ps) (ht : Seg w w.heap.size Q m t) (hn : n ≤ 1048576) (htot : tot ps ≤ 1048576) (hm : m ≤ 1048576) (hmc : m ≤ mc) (hmc2 : mc ≤ 9223372036854775807) :
    Calls Try.prog 31 #[.agg #[.slice A n c], .slice P pn pc, .slice Q m mc] w (AnsList w (maI sg ps t)) := by
  obtain ⟨W, hW⟩ : ∃ W, W = w.alloc (.cells #[.slice A n c] 26) := ⟨_, rfl⟩
  have f : Fs w W A n c sg P pn ps := by rw [hW]; exact Fs.start h hp
  have st : Seg W w.heap.size Q m t := ht.below f.b
  have HW := Lib.hid hW
  have HL := Lib.hid hp.1
  have HE := Lib.hid (tot_each htot)
  have HTOT := Lib.hid htot
  have cA := f.cell
  have cA0 : (w.alloc (.cells #[.slice A n c] 26)).cell? ⟨w.heap.size, 0, none⟩ = some (.slice A n c) := by rw [← hW]; exact cA
  have LP := Lib.hid (implTermOk A Q n c m mc sg t W f.s1 (st.more (Nat.le_of_lt f.size)) hn hm)
  clear hW h hp ht htot
  cases hokt : termOkB sg t with
  | false =>
    have HS := Lib.hid hokt
    have HF := Lib.hid (ma_no (ps := ps) (.inr hokt))
    clear hokt
    go_enter Try.func31, Try.ntmps31
    go_wp2_with fail
    rw [← HW.out]
    refine LP.out.mono ?_
    rintro e w1 ⟨he, bb⟩
    rw [HS.out] at he
    subst he
    have F := Lib.hid (list_of (w := w) HF.out (Own.nil w1 w.heap.size) (Nat.le_refl _) (f.next bb).b)
    clear f st bb LP cA cA0
    go_wp2
    go_ret
    exact F.out
  | true =>
    have HST := Lib.hid hokt
    have HAT := Lib.hid (all_terms (ps := ps) (termOk_parts hokt).1)
    cases hall : termsB sg ps with
    | false =>
      have HS := Lib.hid hall
      have HF := Lib.hid (ma_no (t := t) (.inl (HAT.out.trans hall)))
      clear hall hokt
      go_enter Try.func31, Try.ntmps31
      go_wp2_with fail
      rw [← HW.out]
      refine LP.out.mono ?_
      rintro e w1 ⟨he, bb⟩
      rw [HST.out] at he
      subst he
      have bz : Below w.heap.size W w1 := bb.mono (Nat.le_of_lt f.size)
      replace f := f.next bb
      replace st := st.below bz
      clear bb bz LP cA cA0
      have cA := f.cell
      go_wp2_with fail
      refine (implTermsOk A P n c pn pc sg ps _ f.s1 (f.s'.more (Nat.le_of_lt f.size)) hn HTOT.out).mono ?_
      rintro e w2 ⟨he, bb⟩
      rw [HS.out] at he
      subst he
      have F := Lib.hid (list_of (w := w) HF.out (Own.nil w2 w.heap.size) (Nat.le_refl _) (f.next bb).b)
      clear f st bb cA
      go_wp2
      go_ret
      exact F.out
    | true =>
      have HS := Lib.hid hall
      have hp12 : pn ≤ 12 := by have h1 := (terms_parts hall).1; rw [HL.out] at h1; exact h1
      have HF := Lib.hid (show maI sg ps t = maN sg ps t pn by rw [ma_yes (HAT.out.trans hall) hokt, HL.out])
      clear hall hokt
      go_enter Try.func31, Try.ntmps31
      go_wp2_with fail
      rw [← HW.out]
      refine LP.out.mono ?_
      rintro e w1 ⟨he, bb⟩
      rw [HST.out] at he
      subst he
      have bz : Below w.heap.size W w1 := bb.mono (Nat.le_of_lt f.size)
      replace f := f.next bb
      replace st := st.below bz
      clear bb bz LP cA cA0
      have cA := f.cell
      go_wp2_with fail
      refine (implTermsOk A P n c pn pc sg ps _ f.s1 (f.s'.more (Nat.le_of_lt f.size)) hn HTOT.out).mono ?_
      rintro e w2 ⟨he, bb⟩
      rw [HS.out] at he
      subst he
      have bz : Below w.heap.size w1 w2 := bb.mono (Nat.le_of_lt f.size)
      have S0 : HeadMa w A n c sg P pn ps Q m t pn (.slice none 0 0) (.int .i64 0) w2 := ⟨0, none, 0, 0, rfl, by omega, rfl, Own.nil _ _, f.next bb, st.below bz⟩
      have HS0 := Lib.hid S0
      clear S0 f st bb bz cA
      go_wp2_with fail
      go_loopg [7, 22] pn (fun g out k wr => HeadMa w A n c sg P pn ps Q m t g out k wr)
      case atStart => exact HS0.out
      case round =>
        obtain ⟨i, O, on, oc, rfl, hi, rfl, ho, f, st⟩ := hrel
        clear HS0
        have HI := Lib.hid hi
        clear hi
        have hon : on ≤ 12 := by have h1 := Own.len ho; have h2 := ma_len (sg := sg) (ps := ps) (t := t) i; have := HI.out; omega
        by_cases hip : i < pn
        · obtain ⟨b, off, D, dn, dc, rfl, hbb, hc, hsg, hcap⟩ := f.s'.spot hip
          have hdn : dn ≤ 1048576 := by have := HE.out i; rw [hsg.1] at this; exact this
          have hgk := Lib.hid (show gk - 1 < gk ∧ i + 1 + (gk - 1) = pn by have := HI.out; omega)
          have sd : Seg wr wr.heap.size D dn (ps.getD i []) := hsg.more (Nat.le_of_lt f.size)
          obtain ⟨ys, hys⟩ : ∃ ys, ps.getD i [] = ys := ⟨_, rfl⟩
          rw [hys] at sd
          obtain ⟨bi, hbi⟩ : ∃ b, instB sg ys t = b := ⟨_, rfl⟩
          have HB := Lib.hid hbi
          have HE2 := Lib.hid (show maN sg ps t (i + 1) = maN sg ps t i ++ (if bi = true then [(i : Int)] else []) by simp only [maN]; rw [hys, hbi])
          have z0 := f.size
          have LI := Lib.hid (implInstanceIn A D Q n c dn dc m mc sg ys t wr f.s1 sd (st.more (Nat.le_of_lt f.size)) hn hdn hm hmc hmc2)
          have cA := f.cell
          clear hsg hcap hbi hys sd
          cases bi with
          | false =>
            go_wp2_with fail
            refine LI.out.mono ?_
            rintro e w3 ⟨he, bb⟩
            rw [HB.out] at he
            subst he
            have f2 := f.next bb
            have S : HeadMa w A n c sg (some ⟨b, off, none⟩) pn ps Q m t (gk - 1) (.slice O on oc) (.int .i64 ((i : Int) + 1)) w3 := ⟨i + 1, O, on, oc, by simp, hgk.out.2, rfl, by rw [HE2.out]; simpa using Own.next ho bb, f2, st.below (bb.mono (Nat.le_of_lt f.size))⟩
            have HSS := Lib.hid S
            clear S ho f f2 st bb LI cA hc
            go_wp2
            go_roundg (gk - 1)
            case measure => exact hgk.out.1
            case rel => exact HSS.out
          | true =>
            go_wp2_with fail
            refine LI.out.mono ?_
            rintro e w3 ⟨he, bb⟩
            rw [HB.out] at he
            subst he
            have f2 := f.next bb
            replace ho := Own.next ho bb
            replace st := st.below (bb.mono (Nat.le_of_lt f.size))
            have z1 : w.heap.size + 1 ≤ w3.heap.size := f2.size
            clear bb LI cA hc f
            go_wp2_with (at_builtin; refine app1 rfl _ _ rfl (w.heap.size + 1) O on oc _ rfl (Own.alloc ho _) w3.heap.size 1 (i : Int) rfl ((Row.new _ _ _).cell 0) (by omega) (by simp; omega) ?_; intro O' oc' w7 ho7 b7)
            have S : HeadMa w A n c sg (some ⟨b, off, none⟩) pn ps Q m t (gk - 1) (.slice O' (on + 1) oc') (.int .i64 ((i : Int) + 1)) w7 := ⟨i + 1, O', on + 1, oc', by simp, hgk.out.2, rfl, by rw [HE2.out]; exact ho7, (f2.alloc _).over b7, (st.alloc (Nat.le_of_lt f2.size) _).below (b7.mono (Nat.le_succ _))⟩
            have HSS := Lib.hid S
            clear S ho ho7 f2 st b7
            go_wp2
            go_roundg (gk - 1)
            case measure => exact hgk.out.1
            case rel => exact HSS.out
        · have hip2 : i = pn := by have := HI.out; omega
          have F := Lib.hid (list_of (w := w) (show maI sg ps t = maN sg ps t i by rw [HF.out, hip2]) ho (Nat.le_succ _) f.b)
          clear ho f st hip2
          go_wp2
          go_ret
          exact F.out
end Go.Proofs.Ythbhiihhanochaa.matchImplB
end

section
/-
  CONTRACTS: slices.IndexFunc, slices.ContainsFunc of a [][]int64, over whatever test ('Tests'). Conditions: the slices read as lists ('Segs'), at most 1048576 values. By an AI agent.
-/
namespace Go.Proofs.Ythbhiihhanochaa.anyOf
open Go.RowKit Go.Proofs.Ythbhiihhanochaa.base Go.Proofs.Ythbhiihhanochaa.ints Go.Proofs.Ythbhiihhanochaa.sig Go.Proofs.Ythbhiihhanochaa.segs Go.Proofs.Ythbhiihhanochaa.segsHelp Go.Proofs.Ythbhiihhanochaa.inside
set_option maxRecDepth 100000

/-- function g with what it has captured tests f, as long as what lies in w lies -/
def Tests (g : Nat) (lb : Array Value) (w : World) (f : List Int → Bool) : Prop :=
  ∀ (W : World) (D : Option Addr) (dn dc : Nat) (ys : List Int), Below w.heap.size w W → Seg W W.heap.size D dn ys → dn ≤ 1048576 → Cap D dn dc → Calls Try.prog g (#[.slice D dn dc] ++ lb) W (Tells W (f ys))
theorem Tests.next {g : Nat} {lb : Array Value} {w w' : World} {f : List Int → Bool} (h : Tests g lb w f) (hb : Below w.heap.size w w') : Tests g lb w' f :=
  fun W D dn dc ys hW hs hn hc => h W D dn dc ys (next_trans hb hW) hs hn hc

def AnsIx (w : World) (f : List Int → Bool) (xss : List (List Int)) (e : Ending) (w' : World) : Prop := ∃ z : Int, e = .returned (.int .i64 z) ∧ -1 ≤ z ∧ z ≤ 1048576 ∧ decide (0 ≤ z) = xss.any f ∧ Below w.heap.size w w'
def HeadIx (w : World) (n : Nat) (f : List Int → Bool) (xss : List (List Int)) (i : Value) (wr : World) : Prop := ∃ k : Nat, k ≤ n ∧ i = .int .i64 k ∧ (∀ j, j < k → f (xss.getD j []) = false) ∧ Below w.heap.size w wr
theorem any_at {f : List Int → Bool} {xss : List (List Int)} {k : Nat} (hk : k < xss.length) (h : f (xss.getD k []) = true) : xss.any f = true := by
  rw [List.any_eq_true]
  exact ⟨xss[k], List.getElem_mem hk, by simpa [List.getD, hk] using h⟩
theorem any_none {f : List Int → Bool} {xss : List (List Int)} (h : ∀ j, j < xss.length → f (xss.getD j []) = false) : xss.any f = false := by
  rw [List.any_eq_false]
  intro x hx
  obtain ⟨i, hi, rfl⟩ := List.getElem_of_mem hx
  have := h i hi
  simpa [List.getD, hi] using this

set_option maxHeartbeats 2000000 in
theorem indexFunc (g : Nat) (lb : Array Value) (eg : ∀ args w, (callFunc g args).run Try.prog w = .ok (.enter g args) w) (f : List Int → Bool) (A : Option Addr) (n c : Nat) (xss : List (List Int)) (w : World) (hT : Tests g lb w f)
    (h : Segs w w.heap.size A n xss) (hn : n ≤ 1048576) (hE : ∀ j, (xss.getD j []).length ≤ 1048576) :
    Calls Try.prog 105 #[.slice A n c, .func (.func g) #[] lb] w (AnsIx w f xss) := by
  have HE := Lib.hid hE
  have HL := Lib.hid h.1
  have HK := Lib.hid hT
  have HH : Hid (HeadIx w n f xss (.int .i64 0) w) := Lib.hid ⟨0, Nat.zero_le _, rfl, fun j hj => absurd hj (Nat.not_lt_zero _), Below.refl _ _⟩
  clear hE hT
  go_enter Try.func105, Try.ntmps105
  go_wp2_with fail
  go_loopw [8] (fun i wr => HeadIx w n f xss i wr) (fun i _ => n - (intOf i).toNat)
  case atStart => exact HH.out
  case round =>
    obtain ⟨k, hk, rfl, hlow, hb⟩ := hrel
    have HLOW := Lib.hid hlow
    clear hlow HH
    by_cases hlt : k < n
    · obtain ⟨b, off, A', n', cc, rfl, hbB, hx0, hseg, hcap⟩ := h.spot hlt
      have hx : wr.cell? ⟨b, off + k, none⟩ = some (.slice A' n' cc) := (hb.cell (p := ⟨b, off + k, none⟩) hbB).trans hx0
      have hn' : n' ≤ 1048576 := by rw [← hseg.1]; exact HE.out k
      obtain ⟨ys, hys⟩ : ∃ ys, xss.getD k [] = ys := ⟨_, rfl⟩
      rw [hys] at hseg
      have HY := Lib.hid hys
      have hcall := HK.out wr A' n' cc ys hb (hseg.below hb |>.more hb.size) hn' hcap
      obtain ⟨v, hv⟩ : ∃ v, f ys = v := ⟨_, rfl⟩
      rw [hv] at hcall
      have HV := Lib.hid hv
      have HC := Lib.hid hcall
      have i0 : (0 : Int) ≤ (k : Int) := by omega
      have i1 : (k : Int) < (n : Int) := by omega
      clear hseg hcap h hx0 hys hv hcall
      cases v with
      | true =>
        go_wp2_with (first
          | (go_at_fn g; refine HC.out.mono ?_; rintro e w1 ⟨rfl, bb⟩))
        have F : AnsIx w f xss (.returned (.int .i64 (k : Int))) w1 := ⟨k, rfl, by omega, by omega, by rw [decide_eq_true (by omega)]; exact (any_at (by rw [HL.out]; exact hlt) (by rw [HY.out]; exact HV.out)).symm, next_trans hb bb⟩
        have HF := Lib.hid F
        clear F hx bb hb HC
        go_wp2
        go_ret
        exact HF.out
      | false =>
        go_wp2_with (first
          | (go_at_fn g; refine HC.out.mono ?_; rintro e w1 ⟨rfl, bb⟩))
        have S1 : HeadIx w n f xss (.int .i64 ((k : Int) + 1)) w1 := ⟨k + 1, hlt, by simp, fun j hj => by
          by_cases e : j = k
          · rw [e, HY.out]; exact HV.out
          · exact HLOW.out j (by omega), next_trans hb bb⟩
        have HS1 := Lib.hid S1
        clear S1 hx bb hb HC
        go_wp2
        go_roundw
        case rel => exact HS1.out
        case measure => simp [intOf]; omega
    · have F : AnsIx w f xss (.returned (.int .i64 (-1))) wr := ⟨-1, rfl, by omega, by omega, (any_none (fun j hj => HLOW.out j (by rw [HL.out] at hj; omega))).symm, hb⟩
      have HF := Lib.hid F
      clear F h hb
      go_wp2
      go_ret
      exact HF.out
theorem containsFunc (g : Nat) (lb : Array Value) (eg : ∀ args w, (callFunc g args).run Try.prog w = .ok (.enter g args) w) (f : List Int → Bool) (A : Option Addr) (n c : Nat) (xss : List (List Int)) (w : World) (hT : Tests g lb w f)
    (h : Segs w w.heap.size A n xss) (hn : n ≤ 1048576) (hE : ∀ j, (xss.getD j []).length ≤ 1048576) :
    Calls Try.prog 83 #[.slice A n c, .func (.func g) #[] lb] w (Tells w (xss.any f)) := by
  have L := Lib.hid (indexFunc g lb eg f A n c xss w hT h hn hE)
  clear h hE hT
  go_enter Try.func83, Try.ntmps83
  go_wp2_with fail
  refine L.out.mono ?_
  rintro e w' ⟨z, rfl, h1, h2, hz, bb⟩
  have HZ := Lib.hid hz
  have HB := Lib.hid bb
  clear hz L bb
  go_wp2
  go_ret
  exact ⟨by rw [← HZ.out]; rfl, HB.out⟩
end Go.Proofs.Ythbhiihhanochaa.anyOf
end

section
/-
  CONTRACTS: the two tests of impl.MostGeneral, impl.MostGeneral. Conditions: the slices read as lists ('Seg', 'Segs'), at most 1048576 numbers. By an AI agent.
-/
namespace Go.Proofs.Ythbhiihhanochaa.matchImplC
open Go.RowKit Go.Proofs.Ythbhiihhanochaa.base Go.Proofs.Ythbhiihhanochaa.ints Go.Proofs.Ythbhiihhanochaa.sig Go.Proofs.Ythbhiihhanochaa.same Go.Proofs.Ythbhiihhanochaa.term Go.Proofs.Ythbhiihhanochaa.termOk Go.Proofs.Ythbhiihhanochaa.endAt Go.Proofs.Ythbhiihhanochaa.inside Go.Proofs.Ythbhiihhanochaa.marks Go.Proofs.Ythbhiihhanochaa.app Go.Proofs.Ythbhiihhanochaa.sym Go.Proofs.Ythbhiihhanochaa.sub Go.Proofs.Ythbhiihhanochaa.segs Go.Proofs.Ythbhiihhanochaa.segsHelp Go.Proofs.Ythbhiihhanochaa.kinds Go.Proofs.Ythbhiihhanochaa.termFacts Go.Proofs.Ythbhiihhanochaa.termMath Go.Proofs.Ythbhiihhanochaa.posMath Go.Proofs.Ythbhiihhanochaa.plainMath Go.Proofs.Ythbhiihhanochaa.plain Go.Proofs.Ythbhiihhanochaa.plainOf Go.Proofs.Ythbhiihhanochaa.gives Go.Proofs.Ythbhiihhanochaa.cursor Go.Proofs.Ythbhiihhanochaa.fillMath Go.Proofs.Ythbhiihhanochaa.matchMath Go.Proofs.Ythbhiihhanochaa.matchSpec Go.Proofs.Ythbhiihhanochaa.matchList Go.Proofs.Ythbhiihhanochaa.matchMost Go.Proofs.Ythbhiihhanochaa.whole Go.Proofs.Ythbhiihhanochaa.takeMath Go.Proofs.Ythbhiihhanochaa.take Go.Proofs.Ythbhiihhanochaa.extended Go.Proofs.Ythbhiihhanochaa.pathSpec Go.Proofs.Ythbhiihhanochaa.matchImpl Go.Proofs.Ythbhiihhanochaa.renMath Go.Proofs.Ythbhiihhanochaa.varsOf Go.Proofs.Ythbhiihhanochaa.variant Go.Proofs.Ythbhiihhanochaa.anyOf Go.Proofs.Ythbhiihhanochaa.matchImplB
set_option maxRecDepth 100000

theorem any_range {f : List Int → Bool} {ps : List (List Int)} : ∀ n, n ≤ ps.length → ((List.range n).any fun k => f (ps.getD k [])) = (ps.take n).any f
  | 0, _ => rfl
  | n + 1, h => by
    rw [List.range_succ, List.any_append, any_range n (by omega), List.take_succ_eq_append_getElem h, List.any_append]
    simp [List.getD, show n < ps.length by omega]
theorem best_any {sg : List Int} {ps : List (List Int)} {i : Nat} (hi : i ≤ ps.length) : bestB sg ps i = (!(ps.any fun q => moreB sg q (ps.getD i [])) && !((ps.take i).any fun q => variantB sg q (ps.getD i []))) := by
  have h1 := any_range (f := fun q => moreB sg q (ps.getD i [])) (ps := ps) ps.length (Nat.le_refl _)
  have h2 := any_range (f := fun q => variantB sg q (ps.getD i [])) (ps := ps) i hi
  rw [List.take_length] at h1
  rw [← h1, ← h2, Bool.eq_iff_iff]
  unfold bestB
  rw [List.all_eq_true, Bool.and_eq_true, Bool.not_eq_true', Bool.not_eq_true', List.any_eq_false, List.any_eq_false]
  constructor
  · intro h
    refine ⟨fun k hk => ?_, fun k hk => ?_⟩
    · have := h k hk
      rw [Bool.not_eq_true', Bool.or_eq_false_iff] at this
      rw [this.1]; simp
    · rw [List.mem_range] at hk
      have := h k (List.mem_range.2 (by omega))
      rw [Bool.not_eq_true', Bool.or_eq_false_iff, decide_eq_true hk, Bool.true_and] at this
      unfold variantB
      rw [this.2]; simp
  · rintro ⟨g1, g2⟩ k hk
    have a := g1 k hk
    rw [Bool.not_eq_true] at a
    rw [a, Bool.false_or]
    by_cases hki : k < i
    · have b := g2 k (List.mem_range.2 hki)
      unfold variantB at b
      rw [Bool.not_eq_true] at b
      rw [b, Bool.and_false]; rfl
    · rw [decide_eq_false hki]; rfl

theorem testMore (bs bp : Nat) (A D : Option Addr) (n c dn dc : Nat) (sg p : List Int) (w : World) (hcs : w.cell? ⟨bs, 0, none⟩ = some (.slice A n c)) (hcp : w.cell? ⟨bp, 0, none⟩ = some (.slice D dn dc)) (hs : Seg w w.heap.size A n sg) (hp : Seg w w.heap.size D dn p)
    (hn : n ≤ 1048576) (hdn : dn ≤ 1048576) (hcap : Cap D dn dc) : Tests 80 #[.pointer (some ⟨bs, 0, none⟩), .pointer (some ⟨bp, 0, none⟩)] w (fun q => moreB sg q p) := by
  intro W E en ec q hW hq hen hec
  have d1 : W.cell? ⟨bs, 0, none⟩ = some (.slice A n c) := (hW.cell (p := ⟨bs, 0, none⟩) (World.block_lt_of_cell? _ _ hcs)).trans hcs
  have d2 : W.cell? ⟨bp, 0, none⟩ = some (.slice D dn dc) := (hW.cell (p := ⟨bp, 0, none⟩) (World.block_lt_of_cell? _ _ hcp)).trans hcp
  have L := Lib.hid (implMoreGeneral A E D n c en ec dn dc sg q p W (hs.next hW) hq (hp.next hW) hn hen hdn hec.1 hec.2.1 hcap.1 hcap.2.1)
  clear hcs hcp hs hp hW hq hec hcap
  show Calls Try.prog 80 #[.slice E en ec, .pointer (some ⟨bs, 0, none⟩), .pointer (some ⟨bp, 0, none⟩)] W (Tells W (moreB sg q p))
  generalize moreB sg q p = v at *
  go_enter Try.func80, Try.ntmps80
  go_wp2_with fail
  refine L.out.mono ?_
  rintro e w1 ⟨rfl, bb⟩
  have B := Lib.hid bb
  clear L bb
  go_wp2
  go_ret
  exact ⟨rfl, B.out⟩
theorem testVariant (bs bp : Nat) (A D : Option Addr) (n c dn dc : Nat) (sg p : List Int) (w : World) (hcs : w.cell? ⟨bs, 0, none⟩ = some (.slice A n c)) (hcp : w.cell? ⟨bp, 0, none⟩ = some (.slice D dn dc)) (hs : Seg w w.heap.size A n sg) (hp : Seg w w.heap.size D dn p)
    (hn : n ≤ 1048576) (hdn : dn ≤ 1048576) : Tests 81 #[.pointer (some ⟨bs, 0, none⟩), .pointer (some ⟨bp, 0, none⟩)] w (fun q => variantB sg q p) := by
  intro W E en ec q hW hq hen hec
  have d1 : W.cell? ⟨bs, 0, none⟩ = some (.slice A n c) := (hW.cell (p := ⟨bs, 0, none⟩) (World.block_lt_of_cell? _ _ hcs)).trans hcs
  have d2 : W.cell? ⟨bp, 0, none⟩ = some (.slice D dn dc) := (hW.cell (p := ⟨bp, 0, none⟩) (World.block_lt_of_cell? _ _ hcp)).trans hcp
  have L := Lib.hid (implVariantIn A E D n c en ec dn dc sg q p W (hs.next hW) hq (hp.next hW) hn hen hdn)
  clear hcs hcp hs hp hW hq hec
  show Calls Try.prog 81 #[.slice E en ec, .pointer (some ⟨bs, 0, none⟩), .pointer (some ⟨bp, 0, none⟩)] W (Tells W (variantB sg q p))
  generalize variantB sg q p = v at *
  go_enter Try.func81, Try.ntmps81
  go_wp2_with fail
  refine L.out.mono ?_
  rintro e w1 ⟨rfl, bb⟩
  have B := Lib.hid bb
  clear L bb
  go_wp2
  go_ret
  exact ⟨rfl, B.out⟩
theorem segs_take {w : World} {B b off n i : Nat} {xss : List (List Int)} (h : Segs w B (some ⟨b, off, none⟩) n xss) (hi : i ≤ n) : Segs w B (some ⟨b, off, none⟩) i (xss.take i) := by
  refine ⟨by rw [List.length_take, h.1]; omega, fun h0 => ?_⟩
  obtain ⟨b', off', e, hb, hc⟩ := h.2 (by omega)
  refine ⟨b', off', e, hb, fun j hj => ?_⟩
  obtain ⟨A', n', c', h1, h2, h3⟩ := hc j (by omega)
  exact ⟨A', n', c', h1, by simpa [List.getD, List.getElem?_take, hj] using h2, h3⟩
theorem take_each {xss : List (List Int)} {M i : Nat} (h : ∀ j, (xss.getD j []).length ≤ M) (j : Nat) : ((xss.take i).getD j []).length ≤ M := by
  by_cases hj : j < i
  · have := h j
    simpa [List.getD, List.getElem?_take, hj] using this
  · simp [List.getD, List.getElem?_take, hj]

set_option maxHeartbeats 4000000 in
theorem implMostGeneral (A P : Option Addr) (n c pn pc : Nat) (sg : List Int) (ps : List (List Int)) (w : World) (h : Seg w w.heap.size A n sg) (hp : Segs w w.heap.size P pn ps) (hn : n ≤ 1048576) (htot : tot ps ≤ 1048576) (hpc : pn ≤ pc) (hpc2 : pc ≤ 9223372036854775807) :
    Calls Try.prog 29 #[.agg #[.slice A n c], .slice P pn pc] w (AnsList w (mgI sg ps)) := by
  obtain ⟨W, hW⟩ : ∃ W, W = w.alloc (.cells #[.slice A n c] 26) := ⟨_, rfl⟩
  have f : Fs w W A n c sg P pn ps := by rw [hW]; exact Fs.start h hp
  have HW := Lib.hid hW
  have HL := Lib.hid hp.1
  have HE := Lib.hid (tot_each htot)
  have cA := f.cell
  have cA0 : (w.alloc (.cells #[.slice A n c] 26)).cell? ⟨w.heap.size, 0, none⟩ = some (.slice A n c) := by rw [← hW]; exact cA
  have LP := Lib.hid (implTermsOk A P n c pn pc sg ps W f.s1 (f.s'.more (Nat.le_of_lt f.size)) hn htot)
  have HPOS : Hid (0 < pn → termsB sg ps = true → allB sg ps = true) := Lib.hid (fun h0 ht => by
    have h1 := (terms_parts ht).2 0 (by rw [hp.1]; exact h0)
    rw [all_terms (termOk_parts h1).1]; exact ht)
  clear hW h hp htot
  cases hall : termsB sg ps with
  | false =>
    have HS := Lib.hid hall
    have HF := Lib.hid (show mgI sg ps = [] by unfold mgI; rw [if_neg]; unfold allB; rw [show (decide (ps.length ≤ 12) && ps.all (termOkB sg)) = false from hall, Bool.and_false]; simp)
    clear hall
    go_enter Try.func29, Try.ntmps29
    go_wp2_with fail
    rw [← HW.out]
    refine LP.out.mono ?_
    rintro e w1 ⟨he, bb⟩
    rw [HS.out] at he
    subst he
    have F := Lib.hid (list_of (w := w) HF.out (Own.nil w1 w.heap.size) (Nat.le_refl _) (f.next bb).b)
    clear f bb LP cA cA0
    go_wp2
    go_ret
    exact F.out
  | true =>
    have HS := Lib.hid hall
    have hp12 : pn ≤ 12 := by have h1 := (terms_parts hall).1; rw [HL.out] at h1; exact h1
    have HF := Lib.hid (show mgI sg ps = mgN sg ps pn by
      by_cases h0 : 0 < pn
      · unfold mgI; rw [if_pos (HPOS.out h0 hall), HL.out]
      · have e : pn = 0 := by omega
        unfold mgI
        rw [HL.out, e]
        split <;> rfl)
    have hmf : ∀ (fn : Fn) (first cap : Array Value) (w : World), (Instr.makeFunc fn first cap).run Try.prog w = .ok (.func fn first cap) w := fun _ _ _ _ => rfl
    clear hall
    go_enter Try.func29, Try.ntmps29
    go_wp2_with fail
    rw [← HW.out]
    refine LP.out.mono ?_
    rintro e w2 ⟨he, bb⟩
    rw [HS.out] at he
    subst he
    have S0 : HeadMg w A n c sg P pn ps pn (.slice none 0 0) (.int .i64 0) w2 := ⟨0, none, 0, 0, rfl, by omega, rfl, Own.nil _ _, f.next bb⟩
    have HS0 := Lib.hid S0
    clear S0 f bb cA cA0 LP
    go_wp2_with fail
    go_loopg [5, 16] pn (fun g out k wr => HeadMg w A n c sg P pn ps g out k wr)
    case atStart => exact HS0.out
    case round =>
      obtain ⟨i, O, on, oc, rfl, hi, rfl, ho, f⟩ := hrel
      clear HS0
      have HI := Lib.hid hi
      clear hi
      have hon : on ≤ 12 := by have h1 := Own.len ho; have h2 := mg_len (sg := sg) (ps := ps) i; have := HI.out; omega
      by_cases hip : i < pn
      · obtain ⟨b, off, D, dn, dc, rfl, hbb, hc, hsg, hcap⟩ := f.s'.spot hip
        have hdn : dn ≤ 1048576 := by have := HE.out i; rw [hsg.1] at this; exact this
        have hgk := Lib.hid (show gk - 1 < gk ∧ i + 1 + (gk - 1) = pn by have := HI.out; omega)
        obtain ⟨W5, hW5⟩ : ∃ W, W = wr.alloc (.cells #[.slice D dn dc] 24) := ⟨_, rfl⟩
        have B5 : Below wr.heap.size wr W5 := by rw [hW5]; exact (Below.refl _ _).alloc (Nat.le_refl _) _
        have f5 := f.next B5
        have ho5 := Own.next ho B5
        have cp : W5.cell? ⟨wr.heap.size, 0, none⟩ = some (.slice D dn dc) := by rw [hW5]; exact (Row.new _ _ _).cell 0
        have sp : Seg W5 W5.heap.size D dn (ps.getD i []) := (hsg.more (Nat.le_of_lt f.size)).next B5
        have s5 := f5.s'.more (Nat.le_of_lt f5.size)
        have LM := Lib.hid (containsFunc 80 #[.pointer (some ⟨w.heap.size, 0, none⟩), .pointer (some ⟨wr.heap.size, 0, none⟩)] (enters_of Try.func80 (by kernel_rfl) rfl) _ (some ⟨b, off, none⟩) pn pc ps W5 (testMore w.heap.size wr.heap.size A D n c dn dc sg (ps.getD i []) W5 f5.cell cp f5.s1 sp hn hdn hcap) s5 (by omega) HE.out)
        have TV := Lib.hid (testVariant w.heap.size wr.heap.size A D n c dn dc sg (ps.getD i []) W5 f5.cell cp f5.s1 sp hn hdn)
        have ST := Lib.hid (segs_take (i := i) s5 (by omega))
        have HB := Lib.hid (best_any (sg := sg) (ps := ps) (i := i) (by rw [HL.out]; omega))
        have HE2 := Lib.hid (show mgN sg ps (i + 1) = mgN sg ps i ++ (if bestB sg ps i = true then [(i : Int)] else []) from rfl)
        have HW5 := Lib.hid hW5
        have z0 := f.size
        clear hW5 f ho sp s5 cp hsg hcap B5
        obtain ⟨v1, hv1⟩ : ∃ v, (ps.any fun q => moreB sg q (ps.getD i [])) = v := ⟨_, rfl⟩
        have HV1 := Lib.hid hv1
        rw [hv1] at LM
        clear hv1
        cases v1 with
        | true =>
          have HN := Lib.hid (show bestB sg ps i = false by rw [HB.out, HV1.out]; rfl)
          go_wp2_with fail
          rw [← HW5.out]
          refine LM.out.mono ?_
          rintro e w6 ⟨rfl, bb⟩
          have S : HeadMg w A n c sg (some ⟨b, off, none⟩) pn ps (gk - 1) (.slice O on oc) (.int .i64 ((i : Int) + 1)) w6 := ⟨i + 1, O, on, oc, by simp, hgk.out.2, rfl, by rw [HE2.out, HN.out]; simpa using Own.next ho5 bb, f5.next bb⟩
          have HSS := Lib.hid S
          clear S ho5 f5 bb LM hc
          go_wp2
          go_roundg (gk - 1)
          case measure => exact hgk.out.1
          case rel => exact HSS.out
        | false =>
          have i0 : (0 : Int) ≤ (i : Int) := by omega
          have i1 : (i : Int) ≤ (pc : Int) := by omega
          have i3 : ¬ pc = 0 := by omega
          obtain ⟨v2, hv2⟩ : ∃ v, ((ps.take i).any fun q => variantB sg q (ps.getD i [])) = v := ⟨_, rfl⟩
          have HV2 := Lib.hid hv2
          clear hv2
          have HN := Lib.hid (show bestB sg ps i = !v2 by rw [HB.out, HV1.out, HV2.out]; rfl)
          go_wp2_with fail
          rw [← HW5.out]
          refine LM.out.mono ?_
          rintro e w6 ⟨rfl, bb⟩
          have LV := Lib.hid (containsFunc 81 #[.pointer (some ⟨w.heap.size, 0, none⟩), .pointer (some ⟨wr.heap.size, 0, none⟩)] (enters_of Try.func81 (by kernel_rfl) rfl) _ (some ⟨b, off, none⟩) i pc (ps.take i) w6 (TV.out.next bb) (ST.out.next bb) (by omega) (take_each HE.out))
          have f6 := f5.next bb
          have ho6 := Own.next ho5 bb
          rw [HV2.out] at LV
          clear bb f5 ho5 LM TV ST hc
          cases v2 with
          | true =>
            go_wp2_with fail
            refine LV.mono ?_
            rintro e w7 ⟨rfl, bb⟩
            have S : HeadMg w A n c sg (some ⟨b, off, none⟩) pn ps (gk - 1) (.slice O on oc) (.int .i64 ((i : Int) + 1)) w7 := ⟨i + 1, O, on, oc, by simp, hgk.out.2, rfl, by rw [HE2.out, HN.out]; simpa using Own.next ho6 bb, f6.next bb⟩
            have HSS := Lib.hid S
            clear S ho6 f6 bb LV
            go_wp2
            go_roundg (gk - 1)
            case measure => exact hgk.out.1
            case rel => exact HSS.out
          | false =>
            go_wp2_with fail
            refine LV.mono ?_
            rintro e w7 ⟨rfl, bb⟩
            have f7 := f6.next bb
            have ho7 := Own.next ho6 bb
            have z1 : w.heap.size + 1 ≤ w7.heap.size := f7.size
            clear bb LV f6 ho6
            go_wp2_with (at_builtin; refine app1 rfl _ _ rfl (w.heap.size + 1) O on oc _ rfl (Own.alloc ho7 _) w7.heap.size 1 (i : Int) rfl ((Row.new _ _ _).cell 0) (by omega) (by simp; omega) ?_; intro O' oc' w8 ho8 b8)
            have S : HeadMg w A n c sg (some ⟨b, off, none⟩) pn ps (gk - 1) (.slice O' (on + 1) oc') (.int .i64 ((i : Int) + 1)) w8 := ⟨i + 1, O', on + 1, oc', by simp, hgk.out.2, rfl, by rw [HE2.out, HN.out]; exact ho8, (f7.alloc _).over b8⟩
            have HSS := Lib.hid S
            clear S ho7 ho8 f7 b8
            go_wp2
            go_roundg (gk - 1)
            case measure => exact hgk.out.1
            case rel => exact HSS.out
      · have hip2 : i = pn := by have := HI.out; omega
        have F := Lib.hid (list_of (w := w) (show mgI sg ps = mgN sg ps i by rw [HF.out, hip2]) ho (Nat.le_succ _) f.b)
        clear ho f hip2
        go_wp2
        go_ret
        exact F.out
/-- the specification's contract with two bounds more, which it does not need -/
theorem specMostGeneralX (A P : Option Addr) (n c pn pc : Nat) (sg : List Int) (ps : List (List Int)) (w : World) (h : Seg w w.heap.size A n sg) (hp : Segs w w.heap.size P pn ps) (hn : n ≤ 1048576) (htot : tot ps ≤ 1048576) (_ : pn ≤ pc) (_ : pc ≤ 9223372036854775807) :
    Calls Try.prog 30 #[.agg #[.slice A n c], .slice P pn pc] w (AnsList w (mgI sg ps)) := specMostGeneral A P n c pn pc sg ps w h hp hn htot
end Go.Proofs.Ythbhiihhanochaa.matchImplC
end

section
/-
  PLAIN MATHEMATICS: a match's answer holds few numbers. Conditions: none. By an AI agent.
-/
namespace Go.Proofs.Ythbhiihhanochaa.matchTot
open Go.RowKit Go.Proofs.Ythbhiihhanochaa.base Go.Proofs.Ythbhiihhanochaa.ints Go.Proofs.Ythbhiihhanochaa.sig Go.Proofs.Ythbhiihhanochaa.term Go.Proofs.Ythbhiihhanochaa.termOk Go.Proofs.Ythbhiihhanochaa.app Go.Proofs.Ythbhiihhanochaa.sym Go.Proofs.Ythbhiihhanochaa.sub Go.Proofs.Ythbhiihhanochaa.segs Go.Proofs.Ythbhiihhanochaa.segsHelp Go.Proofs.Ythbhiihhanochaa.plainMath Go.Proofs.Ythbhiihhanochaa.gives Go.Proofs.Ythbhiihhanochaa.plainOf Go.Proofs.Ythbhiihhanochaa.fillMath Go.Proofs.Ythbhiihhanochaa.termFacts Go.Proofs.Ythbhiihhanochaa.matchMath Go.Proofs.Ythbhiihhanochaa.matchSpec

theorem mst_short {sg t : List Int} : ∀ {p : List Int} {k : Nat} {s s' : List (List Int)}, mst sg t p k s = some s' → (∀ i, (s.getD i []).length ≤ t.length) → ∀ i, (s'.getD i []).length ≤ t.length := by
  intro p
  induction p with
  | nil => intro k s s' h hs; injection h with h; subst h; exact hs
  | cons x r ih =>
    intro k s s' h hs
    by_cases h1 : t.length ≤ k
    · rw [mst_out h1] at h; cases h
    · by_cases h2 : 0 ≤ x
      · by_cases h3 : x = t.getD k 0
        · rw [mst_sym h1 h2 h3] at h; exact ih h hs
        · rw [mst_symNo h1 h2 h3] at h; cases h
      · by_cases h3 : (s.getD (vr x) []).length ≠ 0 ∧ s.getD (vr x) [] ≠ subL sg t k
        · rw [mst_varNo h1 h2 h3] at h; cases h
        · rw [mst_var h1 h2 h3] at h
          refine ih h (fun i => ?_)
          rw [set_get]
          split
          · unfold subL; rw [List.length_take, List.length_drop]; omega
          · exact hs i
theorem match_tot {sg p t : List Int} : tot (resL (matchO sg p t)) ≤ 1048576 := by
  cases h1 : termOkB sg t with
  | false => rw [match_no (.inr h1)]; simp [resL, tot, sumL]
  | true =>
    cases h : matchO sg p t with
    | none => simp [resL, tot, sumL]
    | some s =>
      have ht := (term_len h1).2
      have hs : ∀ i, (s.getD i []).length ≤ t.length := by
        unfold matchO at h
        split at h
        · exact mst_short h (fun i => by rw [s0_get]; simp)
        · cases h
      have hg : ∀ i, (givesL s i).length ≤ 60 := fun i => by
        by_cases e : (s.getD i []).length = 0
        · rw [gives_var e]; simp [vt]
        · rw [gives_term e]; have := hs i; omega
      have h3 := tot_le (plain_each (L := givesL s) (m := 24) hg)
      have h4 := plain_len (givesL s) 24
      have h5 : (plainL (givesL s) 24).length * 60 ≤ 24 * 60 := Nat.mul_le_mul_right _ h4
      show tot (plainL (givesL s) 24) ≤ 1048576
      omega
end Go.Proofs.Ythbhiihhanochaa.matchTot
end

section
/-
  THE WALK of laws.FnExactMostGeneral: it returns true, whatever the arguments, and writes nothing that was there. Conditions: the slices read as lists. Written by a program of mine (gen_exact.py). By an AI agent.
-/
namespace Go.Proofs.Ythbhiihhanochaa.wMostGeneral
open Go.RowKit Go.Proofs.Ythbhiihhanochaa.base Go.Proofs.Ythbhiihhanochaa.ints Go.Proofs.Ythbhiihhanochaa.sig Go.Proofs.Ythbhiihhanochaa.cursor Go.Proofs.Ythbhiihhanochaa.marks Go.Proofs.Ythbhiihhanochaa.app Go.Proofs.Ythbhiihhanochaa.sym Go.Proofs.Ythbhiihhanochaa.appAt Go.Proofs.Ythbhiihhanochaa.segs Go.Proofs.Ythbhiihhanochaa.segsHelp Go.Proofs.Ythbhiihhanochaa.segsMark Go.Proofs.Ythbhiihhanochaa.kinds Go.Proofs.Ythbhiihhanochaa.kindsSS Go.Proofs.Ythbhiihhanochaa.inside Go.Proofs.Ythbhiihhanochaa.matchMath Go.Proofs.Ythbhiihhanochaa.matchSpec Go.Proofs.Ythbhiihhanochaa.matchList Go.Proofs.Ythbhiihhanochaa.matchMost Go.Proofs.Ythbhiihhanochaa.matchTot Go.Proofs.Ythbhiihhanochaa.matchImpl Go.Proofs.Ythbhiihhanochaa.matchImplB Go.Proofs.Ythbhiihhanochaa.matchImplC
set_option maxRecDepth 100000

set_option maxHeartbeats 8000000 in
theorem law (a0 : Option Addr) (n0 c0 : Nat) (xs0 : List Int) (a1 : Option Addr) (n1 c1 : Nat) (xs1 : List (List Int)) (w : World) (s0 : Seg w w.heap.size a0 n0 xs0) (hN0 : n0 ≤ 9223372036854775807) (s1 : Segs w w.heap.size a1 n1 xs1) (hN1 : n1 ≤ 9223372036854775807) :
    Calls Try.prog 11 #[.agg #[.slice a0 n0 c0], .slice a1 n1 c1] w (Fine w) := by
  obtain ⟨W, hW⟩ : ∃ W, W = w.alloc (.cells #[.slice a0 n0 c0] 48) := ⟨_, rfl⟩
  have rA0 : Row W (w.heap.size) 48 #[.slice a0 n0 c0] := by rw [hW]; have := Row.new (w) 48 #[.slice a0 n0 c0]; simpa using this
  have bW : Below w.heap.size w W := by rw [hW]; exact (Below.refl w.heap.size w).alloc (by simp) (.cells #[.slice a0 n0 c0] 48)
  have zA0 := rA0.lt
  replace s0 := s0.next bW
  have Hl0 := Lib.hid s0.1
  replace s1 := s1.next bW
  have Hl1 := Lib.hid s1.1
  have HW := Lib.hid hW
  clear hW
  obtain ⟨t1, ht1⟩ : ∃ z, tot xs1 = z := ⟨_, rfl⟩
  have HT1 := Lib.hid ht1
  clear ht1
  go_enter Try.func11, Try.ntmps11
  go_wp2_with fail
  rw [← HW.out]
  clear HW
  have bel := Below.refl W.heap.size W
  have cA0 : W.cell? ⟨w.heap.size, 0, none⟩ = some (.slice a0 n0 c0) := (rA0.next bel).cell 0
  refine (szSig _ _ _ (1048576) _ hN0 (by omega) (by omega)).mono ?_
  rintro e w1 ⟨he, bb⟩
  replace bel := next_trans bel bb
  have zw1 := bb.size
  clear bb
  by_cases q0 : n0 ≤ 1048576
  case neg =>
    rw [if_pos (by omega)] at he
    subst he
    have F := Lib.hid (bW.trans (bel.mono bW.size))
    clear bel bW cA0
    go_wp2
    go_ret
    exact ⟨rfl, F.out⟩
  rw [if_neg (by omega)] at he
  subst he
  have h0 : n0 ≤ 1048576 := by omega
  clear cA0
  have cA0 : w1.cell? ⟨w.heap.size, 0, none⟩ = some (.slice a0 n0 c0) := (rA0.next bel).cell 0
  go_wp2_with fail
  refine (listsSz _ _ _ xs1 (1048576 - (n0 : Int)) _ (s1.next bel) hN1 (by omega) (by omega)).mono ?_
  rintro e w2 ⟨he, bb⟩
  rw [HT1.out] at he
  replace bel := next_trans bel bb
  have zw2 := bb.size
  clear bb
  by_cases q1 : n0 + t1 ≤ 1048576
  case neg =>
    rw [if_pos (by omega)] at he
    subst he
    have F := Lib.hid (bW.trans (bel.mono bW.size))
    clear bel bW cA0
    go_wp2
    go_ret
    exact ⟨rfl, F.out⟩
  rw [if_neg (by omega)] at he
  subst he
  have h1 : tot xs1 ≤ 1048576 := by rw [HT1.out]; omega
  replace h1 := Lib.hid h1
  have hn1 : n1 ≤ 1048576 := tot_len Hl1.out h1.out
  have hm1 : sumL xs1 n1 ≤ 1048576 := by have q := h1.out; unfold tot at q; rw [Hl1.out] at q; omega
  obtain ⟨z1, hz1⟩ : ∃ z, sumL xs1 n1 = z := ⟨_, rfl⟩
  rw [hz1] at hm1
  have HZ1 := Lib.hid hz1
  clear hz1
  clear cA0
  have cA0 : w2.cell? ⟨w.heap.size, 0, none⟩ = some (.slice a0 n0 c0) := (rA0.next bel).cell 0
  have hlen : (mgI xs0 xs1).length ≤ 1048576 := by unfold mgI; split; exact Nat.le_trans (mg_len _) (by rw [Hl1.out]; exact hn1); simp
  obtain ⟨ys, hys⟩ : ∃ ys, mgI xs0 xs1 = ys := ⟨_, rfl⟩
  rw [hys] at hlen
  have HY := Lib.hid hys
  clear hys
  replace hlen := Lib.hid hlen
  go_wp2_with fail
  refine (sigTo _ _ _ xs0 _ (s0.next bel) h0).mono ?_
  rintro e w3 ⟨gp0, rfl, op0, yp0, bb⟩
  replace bel := next_trans bel bb
  have zw3 := bb.size
  clear bb
  clear cA0
  have cA0 : w3.cell? ⟨w.heap.size, 0, none⟩ = some (.slice a0 n0 c0) := (rA0.next bel).cell 0
  go_wp2_with fail
  refine (listsTo _ _ _ xs1 _ (s1.next bel) h1.out).mono ?_
  rintro e w4 ⟨gp1, rfl, op1, yp1, bb⟩
  replace op0 := op0.next bb
  replace bel := next_trans bel bb
  have zw4 := bb.size
  clear bb
  clear cA0
  have cA0 : w4.cell? ⟨w.heap.size, 0, none⟩ = some (.slice a0 n0 c0) := (rA0.next bel).cell 0
  go_wp2_with fail
  refine (specMostGeneralX _ _ _ _ _ _ xs0 xs1 _ op0.rd op1.rd h0 h1.out (Nat.le_refl _) (by omega)).mono ?_
  rintro e w5 ⟨A0, m0, d0, he, o0, bb⟩
  subst he
  replace op0 := op0.next bb
  replace op1 := op1.next bb
  replace bel := next_trans bel bb
  have zw5 := bb.size
  clear bb
  rw [HY.out] at o0
  have sw := Own.seg o0
  clear o0
  clear op0 op1
  clear cA0
  have cA0 : w5.cell? ⟨w.heap.size, 0, none⟩ = some (.slice a0 n0 c0) := (rA0.next bel).cell 0
  obtain ⟨Aw, mw, dw, eA, em, ed⟩ : ∃ A m d, A = A0 ∧ m = m0 ∧ d = d0 := ⟨_, _, _, rfl, rfl, rfl⟩
  subst eA em ed
  have belw := Below.refl w5.heap.size w5
  clear cA0
  have cA0 : w5.cell? ⟨w.heap.size, 0, none⟩ = some (.slice a0 n0 c0) := (rA0.next bel).cell 0
  go_wp2_with fail
  refine (sigTo _ _ _ xs0 _ (s0.next bel) h0).mono ?_
  rintro e w6 ⟨gx0, rfl, ox0, yx0, bb⟩
  replace bel := next_trans bel bb
  replace belw := next_trans belw bb
  have zw6 := bb.size
  clear bb
  clear cA0
  have cA0 : w6.cell? ⟨w.heap.size, 0, none⟩ = some (.slice a0 n0 c0) := (rA0.next bel).cell 0
  have dA0 : (w6.alloc (.cells #[.slice (some ⟨gx0, 0, none⟩) n0 n0] 26)).cell? ⟨w.heap.size, 0, none⟩ = some (.slice a0 n0 c0) := ((rA0.next bel).alloc _).cell 0
  go_wp2_with fail
  obtain ⟨w7, hw⟩ : ∃ W, W = w6.alloc (.cells #[.slice (some ⟨gx0, 0, none⟩) n0 n0] 26) := ⟨_, rfl⟩
  rw [← hw]
  have rx0 : Row w7 w6.heap.size 26 #[.slice (some ⟨gx0, 0, none⟩) n0 n0] := by rw [hw]; exact Row.new _ _ _
  have bb : Below w6.heap.size w6 w7 := by rw [hw]; exact (Below.refl _ _).alloc (Nat.le_refl _) _
  have yrx0 : w6.heap.size < w7.heap.size := by rw [hw]; simp
  clear hw
  replace ox0 := ox0.next bb
  replace bel := next_trans bel bb
  replace belw := next_trans belw bb
  have zw7 := bb.size
  clear bb
  clear dA0
  clear cA0
  have cA0 : w7.cell? ⟨w.heap.size, 0, none⟩ = some (.slice a0 n0 c0) := (rA0.next bel).cell 0
  have cx0 : w7.cell? ⟨w6.heap.size, 0, none⟩ = some (.slice (some ⟨gx0, 0, none⟩) n0 n0) := (rx0).cell 0
  refine (listsTo _ _ _ xs1 _ (s1.next bel) h1.out).mono ?_
  rintro e w8 ⟨gx1, rfl, ox1, yx1, bb⟩
  replace ox0 := ox0.next bb
  replace rx0 := rx0.next bb
  replace bel := next_trans bel bb
  replace belw := next_trans belw bb
  have zw8 := bb.size
  clear bb
  clear cA0 cx0
  have cA0 : w8.cell? ⟨w.heap.size, 0, none⟩ = some (.slice a0 n0 c0) := (rA0.next bel).cell 0
  have cx0 : w8.cell? ⟨w6.heap.size, 0, none⟩ = some (.slice (some ⟨gx0, 0, none⟩) n0 n0) := (rx0).cell 0
  go_wp2_with fail
  refine (implMostGeneral _ _ _ _ _ _ xs0 xs1 _ ox0.rd ox1.rd h0 h1.out (Nat.le_refl _) (by omega)).mono ?_
  rintro e w9 ⟨A0, m0, d0, he, o0, bb⟩
  subst he
  replace ox0 := ox0.next bb
  replace rx0 := rx0.next bb
  replace ox1 := ox1.next bb
  replace bel := next_trans bel bb
  replace belw := next_trans belw bb
  have zw9 := bb.size
  clear bb
  rw [HY.out] at o0
  have og := Ownd.of_own o0
  clear o0
  obtain ⟨Ag, mg, dg, eA, em, ed⟩ : ∃ A m d, A = A0 ∧ m = m0 ∧ d = d0 := ⟨_, _, _, rfl, rfl, rfl⟩
  subst eA em ed
  clear cA0 cx0
  have cA0 : w9.cell? ⟨w.heap.size, 0, none⟩ = some (.slice a0 n0 c0) := (rA0.next bel).cell 0
  have cx0 : w9.cell? ⟨w6.heap.size, 0, none⟩ = some (.slice (some ⟨gx0, 0, none⟩) n0 n0) := (rx0).cell 0
  have hlenn : mg ≤ 1048576 := by rw [← og.rd.1]; exact hlen.out
  go_wp2_with fail
  refine (intsEq _ _ _ _ _ _ ys _ og.rd (sw.next belw) hlenn).mono ?_
  rintro e w10 ⟨rfl, bb⟩
  replace ox0 := ox0.next bb
  replace rx0 := rx0.next bb
  replace ox1 := ox1.next bb
  replace og := og.next bb
  replace bel := next_trans bel bb
  replace belw := next_trans belw bb
  have zw10 := bb.size
  clear bb
  clear cA0 cx0
  have cA0 : w10.cell? ⟨w.heap.size, 0, none⟩ = some (.slice a0 n0 c0) := (rA0.next bel).cell 0
  have cx0 : w10.cell? ⟨w6.heap.size, 0, none⟩ = some (.slice (some ⟨gx0, 0, none⟩) n0 n0) := (rx0).cell 0
  go_wp2_with fail
  replace ox0 := ox0.drew
  replace rx0 := rx0.drew
  replace ox1 := ox1.drew
  replace og := og.drew
  replace bel := bel.drew
  replace belw := belw.drew
  have zdw10 := (drew_below w10).size
  go_region_held3 (fun w' => w'.cell? ⟨w6.heap.size, 0, none⟩ = some (.slice (some ⟨gx0, 0, none⟩) n0 n0) ∧ w'.cell? ⟨w.heap.size, 0, none⟩ = some (.slice a0 n0 c0))
    (go_keep)
    (first
      | (go_at_call 33; refine (sigTo _ _ _ xs0 _ (s0.next bel) h0).mono ?_; rintro e w11 ⟨gt0, rfl, ot, yt0, bb⟩; replace ox0 := ox0.next bb; replace rx0 := rx0.next bb; replace ox1 := ox1.next bb; replace og := og.next bb; replace bel := next_trans bel bb; replace belw := next_trans belw bb; have k0w11 : w11.cell? ⟨w.heap.size, 0, none⟩ = some (.slice a0 n0 c0) := (rA0.next bel).cell 0; have l0w11 : w11.cell? ⟨w6.heap.size, 0, none⟩ = some (.slice (some ⟨gx0, 0, none⟩) n0 n0) := rx0.cell 0; have zqw11 := bb.size; clear bb)
      | (go_at_call 36; refine (sigEq _ _ _ _ _ _ xs0 _ ox0.rd ot.rd h0).mono ?_; rintro e w12 ⟨rfl, bb⟩; replace ox0 := ox0.next bb; replace rx0 := rx0.next bb; replace ox1 := ox1.next bb; replace og := og.next bb; replace bel := next_trans bel bb; replace belw := next_trans belw bb; have k0w12 : w12.cell? ⟨w.heap.size, 0, none⟩ = some (.slice a0 n0 c0) := (rA0.next bel).cell 0; have l0w12 : w12.cell? ⟨w6.heap.size, 0, none⟩ = some (.slice (some ⟨gx0, 0, none⟩) n0 n0) := rx0.cell 0; have zqw12 := bb.size; clear bb ot))
  clear k0w11 l0w11 k0w12 l0w12
  clear cA0 cx0
  have cA0 : w12.cell? ⟨w.heap.size, 0, none⟩ = some (.slice a0 n0 c0) := (rA0.next bel).cell 0
  have cx0 : w12.cell? ⟨w6.heap.size, 0, none⟩ = some (.slice (some ⟨gx0, 0, none⟩) n0 n0) := (rx0).cell 0
  go_wp2_with fail
  refine (listsTo _ _ _ xs1 _ (s1.next bel) h1.out).mono ?_
  rintro e w13 ⟨gt1, rfl, ot1, yt1, bb⟩
  replace ox0 := ox0.next bb
  replace rx0 := rx0.next bb
  replace ox1 := ox1.next bb
  replace og := og.next bb
  replace bel := next_trans bel bb
  replace belw := next_trans belw bb
  have zw13 := bb.size
  clear bb
  clear cA0 cx0
  have cA0 : w13.cell? ⟨w.heap.size, 0, none⟩ = some (.slice a0 n0 c0) := (rA0.next bel).cell 0
  have cx0 : w13.cell? ⟨w6.heap.size, 0, none⟩ = some (.slice (some ⟨gx0, 0, none⟩) n0 n0) := (rx0).cell 0
  go_wp2_with fail
  refine (listsEq _ _ _ _ _ _ xs1 _ ox1.rd ot1.rd h1.out).mono ?_
  rintro e w14 ⟨rfl, bb⟩
  replace ox0 := ox0.next bb
  replace rx0 := rx0.next bb
  replace ox1 := ox1.next bb
  replace og := og.next bb
  replace ot1 := ot1.next bb
  replace bel := next_trans bel bb
  replace belw := next_trans belw bb
  have zw14 := bb.size
  clear bb
  clear ot1
  clear cA0 cx0
  have cA0 : w14.cell? ⟨w.heap.size, 0, none⟩ = some (.slice a0 n0 c0) := (rA0.next bel).cell 0
  have cx0 : w14.cell? ⟨w6.heap.size, 0, none⟩ = some (.slice (some ⟨gx0, 0, none⟩) n0 n0) := (rx0).cell 0
  go_wp2_with fail
  refine (sigMark (w5.heap.size) (w6.heap.size) _ _ _ xs0 (1) _ ox0 h0 (by omega) (by omega)).mono ?_
  rintro e w15 ⟨he, -, bt⟩
  subst he
  clear ox0
  replace rx0 := Row.btw rx0 bt (by omega)
  replace ox1 := ox1.btw bt (by omega)
  replace og := og.btw bt (by omega)
  replace bel := Below.btw bel bt (by omega) bel.size
  replace belw := Below.btw belw bt (by omega) belw.size
  have zw15 := bt.size
  clear bt
  clear cA0 cx0
  have cA0 : w15.cell? ⟨w.heap.size, 0, none⟩ = some (.slice a0 n0 c0) := (rA0.next bel).cell 0
  have cx0 : w15.cell? ⟨w6.heap.size, 0, none⟩ = some (.slice (some ⟨gx0, 0, none⟩) n0 n0) := (rx0).cell 0
  go_wp2_with fail
  refine (listsMark (w7.heap.size) (w8.heap.size) _ _ _ xs1 (1 + (n0 : Int)) _ ox1 (by omega) h1.out (by omega) (by omega)).mono ?_
  rintro e w16 ⟨he, -, bt⟩
  rw [HZ1.out] at he
  subst he
  clear ox1
  replace rx0 := Row.btw rx0 bt (by omega)
  replace og := og.btw bt (by omega)
  replace bel := Below.btw bel bt (by omega) bel.size
  replace belw := Below.btw belw bt (by omega) belw.size
  have zw16 := bt.size
  clear bt
  clear cA0 cx0
  have cA0 : w16.cell? ⟨w.heap.size, 0, none⟩ = some (.slice a0 n0 c0) := (rA0.next bel).cell 0
  have cx0 : w16.cell? ⟨w6.heap.size, 0, none⟩ = some (.slice (some ⟨gx0, 0, none⟩) n0 n0) := (rx0).cell 0
  clear rx0
  clear cA0 cx0
  have cA0 : w16.cell? ⟨w.heap.size, 0, none⟩ = some (.slice a0 n0 c0) := (rA0.next bel).cell 0
  go_wp2_with fail
  refine (intsEq _ _ _ _ _ _ ys _ og.rd (sw.next belw) hlenn).mono ?_
  rintro e w17 ⟨rfl, bb⟩
  replace og := og.next bb
  replace bel := next_trans bel bb
  replace belw := next_trans belw bb
  have zw17 := bb.size
  clear bb
  clear cA0
  have cA0 : w17.cell? ⟨w.heap.size, 0, none⟩ = some (.slice a0 n0 c0) := (rA0.next bel).cell 0
  go_wp2_with fail
  refine (intsMark (w8.heap.size) (w9.heap.size) _ _ _ ys 1 _ og hlenn (by omega) (by omega)).mono ?_
  rintro e w18 ⟨he, om, bt⟩
  subst he
  clear og
  replace bel := Below.btw bel bt (by omega) bel.size
  replace belw := Below.btw belw bt (by omega) belw.size
  have zw18 := bt.size
  clear bt
  clear cA0
  have cA0 : w18.cell? ⟨w.heap.size, 0, none⟩ = some (.slice a0 n0 c0) := (rA0.next bel).cell 0
  go_wp2_with fail
  refine (intsHeld _ _ _ 1 _ om.rd hlenn (by omega) (by omega)).mono ?_
  rintro e w19 ⟨rfl, bb⟩
  replace om := om.next bb
  replace bel := next_trans bel bb
  replace belw := next_trans belw bb
  have zw19 := bb.size
  clear bb
  clear cA0
  have cA0 : w19.cell? ⟨w.heap.size, 0, none⟩ = some (.slice a0 n0 c0) := (rA0.next bel).cell 0
  go_wp2_with fail
  refine (sigTo _ _ _ xs0 _ (s0.next bel) h0).mono ?_
  rintro e w20 ⟨gp0, rfl, op0, yp0, bb⟩
  replace om := om.next bb
  replace bel := next_trans bel bb
  replace belw := next_trans belw bb
  have zw20 := bb.size
  clear bb
  clear cA0
  have cA0 : w20.cell? ⟨w.heap.size, 0, none⟩ = some (.slice a0 n0 c0) := (rA0.next bel).cell 0
  go_wp2_with fail
  refine (listsTo _ _ _ xs1 _ (s1.next bel) h1.out).mono ?_
  rintro e w21 ⟨gp1, rfl, op1, yp1, bb⟩
  replace om := om.next bb
  replace op0 := op0.next bb
  replace bel := next_trans bel bb
  replace belw := next_trans belw bb
  have zw21 := bb.size
  clear bb
  clear cA0
  have cA0 : w21.cell? ⟨w.heap.size, 0, none⟩ = some (.slice a0 n0 c0) := (rA0.next bel).cell 0
  go_wp2_with fail
  refine (implMostGeneral _ _ _ _ _ _ xs0 xs1 _ op0.rd op1.rd h0 h1.out (Nat.le_refl _) (by omega)).mono ?_
  rintro e w22 ⟨A0, m0, d0, he, o0, bb⟩
  subst he
  replace om := om.next bb
  replace op0 := op0.next bb
  replace op1 := op1.next bb
  replace bel := next_trans bel bb
  replace belw := next_trans belw bb
  have zw22 := bb.size
  clear bb
  rw [HY.out] at o0
  have sh := Own.seg o0
  clear o0
  clear op0 op1
  clear cA0
  have cA0 : w22.cell? ⟨w.heap.size, 0, none⟩ = some (.slice a0 n0 c0) := (rA0.next bel).cell 0
  obtain ⟨Ah, mh, dh, eA, em, ed⟩ : ∃ A m d, A = A0 ∧ m = m0 ∧ d = d0 := ⟨_, _, _, rfl, rfl, rfl⟩
  subst eA em ed
  have belh := Below.refl w22.heap.size w22
  clear cA0
  have cA0 : w22.cell? ⟨w.heap.size, 0, none⟩ = some (.slice a0 n0 c0) := (rA0.next bel).cell 0
  go_wp2_with fail
  refine (intsEq _ _ _ _ _ _ ys _ (sh.next belh) (sw.next belw) (by rw [← sh.1]; exact hlen.out)).mono ?_
  rintro e w23 ⟨rfl, bb⟩
  replace om := om.next bb
  replace bel := next_trans bel bb
  replace belw := next_trans belw bb
  replace belh := next_trans belh bb
  have zw23 := bb.size
  clear bb
  clear cA0
  have cA0 : w23.cell? ⟨w.heap.size, 0, none⟩ = some (.slice a0 n0 c0) := (rA0.next bel).cell 0
  go_wp2_with fail
  refine (intsHeld _ _ _ 1 _ om.rd hlenn (by omega) (by omega)).mono ?_
  rintro e w24 ⟨rfl, bb⟩
  replace om := om.next bb
  replace bel := next_trans bel bb
  replace belw := next_trans belw bb
  replace belh := next_trans belh bb
  have zw24 := bb.size
  clear bb
  clear cA0
  have cA0 : w24.cell? ⟨w.heap.size, 0, none⟩ = some (.slice a0 n0 c0) := (rA0.next bel).cell 0
  have F := Lib.hid (bW.trans (bel.mono bW.size))
  clear bel belw belh om bW cA0
  go_wp2
  go_ret
  exact ⟨rfl, F.out⟩
end Go.Proofs.Ythbhiihhanochaa.wMostGeneral
end
