/-
  MERGED: my texts Extended, PathSpec, MatchList, Variant, MatchMost, MatchImpl, Big, LawT, WFnMet, one behind the other, as they are. By an AI agent.
-/
import Derived.Test.YtkmhnkljigncmaaGreatMFnMet7
import Derived.Deep.LoopGhost
import Derived.Deep.RegionHeld3
import Derived.Deep.WholeRow
import Derived.Deep.QuietTactic
import Derived.BigQuiet
section
/-
  CONTRACTS: impl's (bindings).extended, (bindings).plain. Conditions: the slices read as lists ('Seg', 'TabR'), pattern and term are valid, the place lies in the term. By an AI agent.
-/
namespace Go.Proofs.YtkmhnkljigncmaaGreat.extended
open Go.RowKit Go.Proofs.YtkmhnkljigncmaaGreat.base Go.Proofs.YtkmhnkljigncmaaGreat.ints Go.Proofs.YtkmhnkljigncmaaGreat.sig Go.Proofs.YtkmhnkljigncmaaGreat.same Go.Proofs.YtkmhnkljigncmaaGreat.term Go.Proofs.YtkmhnkljigncmaaGreat.termOk Go.Proofs.YtkmhnkljigncmaaGreat.endAt Go.Proofs.YtkmhnkljigncmaaGreat.marks Go.Proofs.YtkmhnkljigncmaaGreat.app Go.Proofs.YtkmhnkljigncmaaGreat.sym Go.Proofs.YtkmhnkljigncmaaGreat.sub Go.Proofs.YtkmhnkljigncmaaGreat.segs Go.Proofs.YtkmhnkljigncmaaGreat.termFacts Go.Proofs.YtkmhnkljigncmaaGreat.termMath Go.Proofs.YtkmhnkljigncmaaGreat.posMath Go.Proofs.YtkmhnkljigncmaaGreat.cursor Go.Proofs.YtkmhnkljigncmaaGreat.matchMath Go.Proofs.YtkmhnkljigncmaaGreat.matchSpec Go.Proofs.YtkmhnkljigncmaaGreat.whole Go.Proofs.YtkmhnkljigncmaaGreat.takeMath Go.Proofs.YtkmhnkljigncmaaGreat.take Go.Proofs.YtkmhnkljigncmaaGreat.segsHelp Go.Proofs.YtkmhnkljigncmaaGreat.kinds Go.Proofs.YtkmhnkljigncmaaGreat.plainMath Go.Proofs.YtkmhnkljigncmaaGreat.plain Go.Proofs.YtkmhnkljigncmaaGreat.plainOf Go.Proofs.YtkmhnkljigncmaaGreat.gives Go.Proofs.YtkmhnkljigncmaaGreat.look Go.Proofs.YtkmhnkljigncmaaGreat.fillMath
set_option maxRecDepth 100000

/-- what extended gives: the bindings by value, and whether there are any -/
def AnsExt (w : World) (R : Option (List (List Int))) (e : Ending) (w' : World) : Prop :=
  ∃ cs, e = .returned (.tuple #[.agg cs, .bool R.isSome]) ∧ TabR w' w.heap.size cs (R.getD s0) ∧ (∀ j, ((R.getD s0).getD j []).length ≤ 60) ∧ Below w.heap.size w w'
/-- the head of its loop -/
def HeadX (w : World) (A : Option Addr) (n c : Nat) (Q : Option Addr) (m mc : Nat) (sg t : List Int) (P : Option Addr) (pn : Nat) (p : List Int) (R : Option (List (List Int))) (i : Value) (wr : World) : Prop :=
  ∃ (j k : Nat) (s : List (List Int)), i = .int .i64 j ∧ j ≤ pn ∧ Tk wr w.heap.size A n c Q m mc sg t k s ∧ Row wr (w.heap.size + 1 + 1) 77 z24 ∧ Seg wr w.heap.size P pn p ∧ Below w.heap.size w wr ∧ Sync sg p t j k ∧ mst sg t (p.drop j) k s = R
theorem seg_btw {w w' : World} {lo hi : Nat} {A : Option Addr} {n : Nat} {xs : List Int} (h : Seg w lo A n xs) (hb : Btw lo hi w w') (hl : lo ≤ w.heap.size) : Seg w' lo A n xs :=
  h.keep fun p hp => World.cell?_of_block (hb.block p.block (by omega) (.inl hp))

set_option maxHeartbeats 1000000 in
theorem extended (A P Q : Option Addr) (n c pn pc m mc : Nat) (sg p t : List Int) (at_ : Nat) (cs : Array Value) (s : List (List Int)) (w : World) (h : Seg w w.heap.size A n sg) (hp : Seg w w.heap.size P pn p) (ht : Seg w w.heap.size Q m t)
    (hn : n ≤ 1048576) (hpn : pn ≤ 60) (hm : m ≤ 60) (hmc : m ≤ mc) (hmc2 : mc ≤ 9223372036854775807) (hat : at_ < m) (hokp : termOkB sg p = true) (hokt : termOkB sg t = true) (htab : TabR w w.heap.size cs s) (hs : ∀ j, (s.getD j []).length ≤ m) :
    Calls Tryz.prog 59 #[.agg cs, .slice P pn pc, .agg #[.slice A n c, .slice Q m mc, .int .i64 (at_ : Int)]] w (AnsExt w (mst sg t p at_ s)) := by
  obtain ⟨W, hW⟩ : ∃ W, W = ((w.alloc (.cells cs 77)).alloc (.cells #[.slice A n c, .slice Q m mc, .int .i64 (at_ : Int)] 67)).alloc (.cells z24 77) := ⟨_, rfl⟩
  have b0 : Below w.heap.size w W := by rw [hW]; exact (((Below.refl _ _).alloc (Nat.le_refl _) _).alloc (by simp) _).alloc (by simp; omega) _
  have r0 : Row W w.heap.size 77 cs := by rw [hW]; exact ((Row.new w _ _).alloc _).alloc _
  have r1 : Row W (w.heap.size + 1) 67 #[.slice A n c, .slice Q m mc, .int .i64 (at_ : Int)] := by
    rw [hW]
    have := (Row.new (w.alloc (.cells cs 77)) 67 #[.slice A n c, .slice Q m mc, .int .i64 (at_ : Int)]).alloc (.cells z24 77)
    simpa using this
  have r2 : Row W (w.heap.size + 1 + 1) 77 z24 := by
    rw [hW]
    have := Row.new ((w.alloc (.cells cs 77)).alloc (.cells #[.slice A n c, .slice Q m mc, .int .i64 (at_ : Int)] 67)) 77 z24
    simpa using this
  have HX : HeadX w A n c Q m mc sg t P pn p (mst sg t p at_ s) (.int .i64 0) W :=
    ⟨0, at_, s, rfl, Nat.zero_le _, ⟨r1, ⟨cs, r0, htab.below b0⟩, h.below b0, ht.below b0, Nat.le_of_lt hat, hn, by omega, (sig_arities (termOk_parts hokt).1).1, hs⟩, r2, hp.below b0, b0, Sync.start hokp hokt (by rw [ht.1]; exact hat), by rw [List.drop_zero]⟩
  have HH := Lib.hid HX
  have HW := Lib.hid hW
  have HT := Lib.hid hokt
  have HL := Lib.hid ht.1
  have HPL := Lib.hid hp.1
  have HPM : Hid (∀ i, i < pn → -24 ≤ p.getD i 0) := Lib.hid (fun i hi => (term_num hokp (by rw [hp.1]; exact hi)).1)
  generalize mst sg t p at_ s = R at *
  clear hW HX r0 r1 r2 b0 htab hs hokt hokp h hp ht
  go_enter Tryz.func59, Tryz.ntmps59
  go_wp2_with (first
    | (refine rowBox rfl 77 _ rfl cs rfl ?_)
    | (refine rowAlloc rfl 77 rfl z24 zero_b ?_))
  rw [← HW.out]
  go_loopw [12] (fun i wr => HeadX w A n c Q m mc sg t P pn p R i wr) (fun i _ => pn - (intOf i).toNat)
  case atStart => exact HH.out
  case round =>
    obtain ⟨j, k, s, rfl, hj, M, r2, sp, hb, hsy, hm1⟩ := hrel
    clear HH
    have HM1 := Lib.hid hm1
    have HSY := Lib.hid hsy
    clear hm1 hsy
    by_cases hlt : j < pn
    · obtain ⟨bp, op, x, rfl, hbp, hx, ex⟩ := sp.spot hlt
      have hx24 : -24 ≤ x := by rw [← ex.out]; exact HPM.out j hlt
      have hkm : k < m := by have := HSY.out.lt (by rw [HPL.out]; exact hlt); rw [HL.out] at this; exact this
      have HD := Lib.hid (show p.drop j = x :: p.drop (j + 1) by rw [drop_cons (by rw [HPL.out]; exact hlt), ex.out])
      have LT := Lib.hid (take w.heap.size A Q n c m mc sg t k s x wr M hkm hmc hmc2 hx24 HT.out)
      have gl := M.lt
      have HR := Lib.hid r2
      have HB := Lib.hid hb
      have HP := Lib.hid sp
      clear M r2 hb sp
      go_wp2_with fail
      refine LT.out.mono ?_
      rintro e w2 ⟨bb, ⟨k', s', rfl, M, hmv, hr⟩ | ⟨rfl, hr⟩⟩
      · have hsync : Sync sg p t (j + 1) k' := by
          rcases hmv with ⟨h0, h1, rfl⟩ | ⟨h0, rfl⟩
          · exact HSY.out.sym (by rw [HPL.out]; exact hlt) ex.out h1
          · exact HSY.out.var (by rw [HPL.out]; exact hlt) ex.out hx24 h0 HT.out
        have S : HeadX w A n c Q m mc sg t (some ⟨bp, op, none⟩) pn p R (.int .i64 ((j : Int) + 1)) w2 :=
          ⟨j + 1, k', s', by simp, hlt, M, segs.Row.btw HR.out bb (.inr (Nat.le_refl _)), seg_btw HP.out bb (by omega), Below.btw HB.out bb (Nat.le_refl _) (by omega), hsync, by rw [← hr, ← HD.out]; exact HM1.out⟩
        have HS := Lib.hid S
        clear S M hsync hmv hr bb HR HP HB LT ex HD hx
        go_wp2
        go_roundw
        case rel => exact HS.out
        case measure => simp [intOf]; omega
      · have hR : R = none := by rw [← HM1.out, HD.out]; exact hr _
        have r2 := segs.Row.btw HR.out bb (.inr (Nat.le_refl _))
        have b2 := Below.btw HB.out bb (Nat.le_refl _) (by omega)
        have hz := r2
        unfold Row at hz
        have r3 := Row.setRow r2 z24
        have F : AnsExt w R (.returned (.tuple #[.agg z24, .bool false])) (w2.setRow (w.heap.size + 1 + 1) z24) :=
          ⟨z24, by rw [hR]; rfl, by rw [hR]; exact TabR.new _ _, fun i => by rw [hR]; simp only [Option.getD_none]; rw [s0_get]; simp, Below.btw b2 (Btw.of_grown (lo := w.heap.size) (hi := w.heap.size + 1 + 1 + 1) (grown_setRow w2 (w.heap.size + 1 + 1) z24) (fun k e => by injection e; omega)) (Nat.le_refl _) b2.size⟩
        have HF := Lib.hid F
        have H3 := Lib.hid r3
        have HZ := Lib.hid hz
        clear F r3 r2 b2 hz hr bb HR HP HB LT ex HD hx hR
        go_wp2_with (first
          | (refine rowBuild rfl 77 rfl z24 built_b ?_)
          | (refine rowStore rfl 77 _ _ rfl (w.heap.size + 1 + 1) z24 z24 77 rfl rfl HZ.out (by rw [z24_size]; exact size_b) rfl z24_one ?_))
        (try simp only [Exit.inBlock, Exit.then])
        refine bodyPost_ret (v := .tuple #[.agg z24, .bool false]) ?_ rfl HF.out
        exact results_row_tmp Tryz.results59 _ (w.heap.size + 1 + 1) 77 z24 _ rfl H3.out Tryz.underlying77 rfl (by rw [z24_size]; exact size_b)
    · have hjp : j = pn := by omega
      have hR : R = some s := by rw [← HM1.out, hjp, List.drop_eq_nil_of_le (by rw [HPL.out]; exact Nat.le_refl _)]; rfl
      obtain ⟨cs', h1, h2⟩ := M.tab
      have hz1 := h1
      have hz2 := r2
      unfold Row at hz1 hz2
      have r3 := Row.setRow r2 cs'
      have hl := M.lt
      have F : AnsExt w R (.returned (.tuple #[.agg cs', .bool true])) (wr.setRow (w.heap.size + 1 + 1) cs') :=
        ⟨cs', by rw [hR]; rfl, by rw [hR]; exact h2.keep (keep_of (grown_setRow wr (w.heap.size + 1 + 1) cs') (by omega) (fun k e => by injection e; omega)), by rw [hR]; exact fun j => Nat.le_trans (M.hs j) hm,
          Below.btw hb (Btw.of_grown (lo := w.heap.size) (hi := w.heap.size + 1 + 1 + 1) (grown_setRow wr (w.heap.size + 1 + 1) cs') (fun k e => by injection e; omega)) (Nat.le_refl _) hb.size⟩
      have HF := Lib.hid F
      have H3 := Lib.hid r3
      have HZ1 := Lib.hid hz1
      have HZ2 := Lib.hid hz2
      have HSZ := Lib.hid h2.1
      have HON := Lib.hid h2.one
      clear F r3 r2 hz1 hz2 h1 h2 hR M sp hb hjp
      go_wp2_with (first
        | (refine wpList_load_row rfl 77 _ rfl w.heap.size rfl 77 cs' (0, 0) _ HZ1.out Tryz.underlying77 rfl (by rw [HSZ.out]; exact size_b) ?_)
        | (refine rowStore rfl 77 _ _ rfl (w.heap.size + 1 + 1) cs' z24 77 rfl rfl HZ2.out (by rw [HSZ.out]; exact size_b) (by rw [HSZ.out]; rfl) HON.out ?_))
      (try simp only [Exit.inBlock, Exit.then])
      refine bodyPost_ret (v := .tuple #[.agg cs', .bool true]) ?_ rfl HF.out
      exact results_row_tmp Tryz.results59 _ (w.heap.size + 1 + 1) 77 cs' _ rfl H3.out Tryz.underlying77 rfl (by rw [HSZ.out]; exact size_b)

set_option maxHeartbeats 1000000 in
theorem plainB (cs : Array Value) (s : List (List Int)) (w : World) (htab : TabR w w.heap.size cs s) (hs : ∀ j, (s.getD j []).length ≤ 60) :
    Calls Tryz.prog 60 #[.agg cs] w (AnsSubst w (plainL (givesL s) 24)) := by
  obtain ⟨W, hW⟩ : ∃ W, W = (w.alloc (.cells cs 77)).alloc (.cells #[.slice none 0 0] 35) := ⟨_, rfl⟩
  have b0 : Below w.heap.size w W := by rw [hW]; exact ((Below.refl _ _).alloc (Nat.le_refl _) _).alloc (by simp) _
  have r0 : Row W w.heap.size 77 cs := by rw [hW]; exact (Row.new w _ _).alloc _
  have r1 : Row W (w.heap.size + 1) 35 #[.slice none 0 0] := by
    rw [hW]
    have := Row.new (w.alloc (.cells cs 77)) 35 #[.slice none 0 0]
    simpa using this
  have s1 : Segs W W.heap.size (some ⟨w.heap.size, 0, none⟩) 24 s := (htab.below b0).segs r0 b0.size
  have HW := Lib.hid hW
  have HG := Lib.hid (show ∀ i, (givesL s i).length ≤ 60 from fun i => by
    unfold givesL
    split
    · simp [vt]
    · exact hs i)
  clear hW htab hs r0
  go_enter Tryz.func60, Tryz.ntmps60
  go_wp2_with (first
    | (refine rowBox rfl 77 _ rfl cs rfl ?_))
  rw [← HW.out]
  refine (lookupIn (some ⟨w.heap.size, 0, none⟩) 24 24 W).mono ?_
  rintro e w3 ⟨rfl, hw3⟩
  have b3 : Below W.heap.size W w3 := by rw [hw3]; exact (Below.refl _ _).alloc (Nat.le_refl _) _
  have r3 : Row w3 W.heap.size 35 #[.slice (some ⟨w.heap.size, 0, none⟩) 24 24] := by rw [hw3]; exact Row.new _ _ _
  replace s1 := s1.next b3
  replace b0 := next_trans b0 b3
  replace r1 := r1.next b3
  have L3 := Lib.hid (plain 70 #[.pointer (some ⟨W.heap.size, 0, none⟩)] (enters_of Tryz.func70 (by kernel_rfl) rfl) (givesL s) w3 (lookSubst W.heap.size (some ⟨w.heap.size, 0, none⟩) 24 24 s w3 r3 s1 (by omega)) (gives_pos s) (fun i => Nat.le_trans (HG.out i) (by omega)))
  clear hw3 b3 r3 s1
  go_wp2_with fail
  refine L3.out.mono ?_
  rintro e w4 ⟨O, on, oc, rfl, ho, b4⟩
  have z1 := r1.lt
  have z0 := b0.size
  replace r1 := r1.next b4
  replace b0 := next_trans b0 b4
  have cR : w4.cell? ⟨w.heap.size + 1, 0, none⟩ = some (.slice none 0 0) := r1.cell 0
  have fR : w4.frozen? ⟨w.heap.size + 1, 0, none⟩ = false := r1.free 0
  have F : AnsSubst w (plainL (givesL s) 24) (.returned (.agg #[.slice O on oc])) (w4.setCell ⟨w.heap.size + 1, 0, none⟩ (.slice O on oc)) :=
    ⟨O, on, oc, rfl, (owns_put ho r1 (by omega) 0 _).wider z0 (by simp), b0.setCell (p := ⟨w.heap.size + 1, 0, none⟩) (show w.heap.size ≤ w.heap.size + 1 by omega) _⟩
  have HF := Lib.hid F
  clear F ho r1 b0 b4 L3
  go_wp2
  exact bodyPost_ret (v := .agg #[.slice O on oc]) (by simp [results, Tryz.results60, go_sem, cR]) rfl HF.out
end Go.Proofs.YtkmhnkljigncmaaGreat.extended
end

section
/-
  CONTRACTS: spec.AboveOf, spec.l3Path, spec.PathOf. Conditions: the slices read as lists ('Seg'), at most 1048576 numbers; the places are int64. By an AI agent.
-/
namespace Go.Proofs.YtkmhnkljigncmaaGreat.pathSpec
open Go.RowKit Go.Proofs.YtkmhnkljigncmaaGreat.base Go.Proofs.YtkmhnkljigncmaaGreat.ints Go.Proofs.YtkmhnkljigncmaaGreat.sig Go.Proofs.YtkmhnkljigncmaaGreat.term Go.Proofs.YtkmhnkljigncmaaGreat.arity Go.Proofs.YtkmhnkljigncmaaGreat.endOf Go.Proofs.YtkmhnkljigncmaaGreat.cursor Go.Proofs.YtkmhnkljigncmaaGreat.termOk Go.Proofs.YtkmhnkljigncmaaGreat.endAt Go.Proofs.YtkmhnkljigncmaaGreat.inside Go.Proofs.YtkmhnkljigncmaaGreat.marks Go.Proofs.YtkmhnkljigncmaaGreat.app Go.Proofs.YtkmhnkljigncmaaGreat.appAt Go.Proofs.YtkmhnkljigncmaaGreat.sym Go.Proofs.YtkmhnkljigncmaaGreat.args Go.Proofs.YtkmhnkljigncmaaGreat.posMath
set_option maxRecDepth 100000

theorem own_lt {w : World} {base : Nat} {A : Option Addr} {n c : Nat} {xs : List Int} (h : Own w base (.slice A n c) xs) : ∀ k, blk A = some k → base ≤ k ∧ k < w.heap.size := fun k hk => World.ownsRow.lt h k (by rw [blk_own]; exact hk)
def aboveI (sg t : List Int) (x : Int) : List Int := if thereB sg t x = true then aboveL sg t x.toNat else []
theorem above_no {sg t : List Int} {x : Int} (h : thereB sg t x = false) : aboveI sg t x = [] := by unfold aboveI; rw [if_neg (by rw [h]; simp)]
theorem above_yes {sg t : List Int} {a : Nat} (h : thereB sg t (a : Int) = true) : aboveI sg t (a : Int) = upTo sg t a 0 a := by unfold aboveI aboveL; rw [if_pos h, Int.toNat_natCast]
/-- the path of a place; none where there is no such place -/
def PathIs (sg t : List Int) (x : Int) (pa : List Int) : Prop := (thereB sg t x = true ∧ ∃ ab, Trail sg t x.toNat 0 ab pa) ∨ (thereB sg t x = false ∧ pa = [])
theorem path_ex (sg t : List Int) (x : Int) : ∃ pa, PathIs sg t x pa := by
  cases h : thereB sg t x with
  | false => exact ⟨[], .inr ⟨h, rfl⟩⟩
  | true =>
    obtain ⟨hok, h0, h1⟩ := there_parts h
    obtain ⟨ab, pa, hw⟩ := way_root hok (show x.toNat < t.length by omega)
    exact ⟨pa, .inl ⟨h, ab, hw⟩⟩
theorem PathIs.one {sg t : List Int} {x : Int} {pa pa' : List Int} (h : PathIs sg t x pa) (h' : PathIs sg t x pa') : pa = pa' := by
  rcases h with ⟨e, ab, hw⟩ | ⟨e, rfl⟩ <;> rcases h' with ⟨e', ab', hw'⟩ | ⟨e', rfl⟩
  · exact (hw.one hw').2
  · rw [e] at e'; cases e'
  · rw [e] at e'; cases e'
  · rfl
theorem PathIs.len {sg t : List Int} {x : Int} {pa : List Int} (h : PathIs sg t x pa) : pa.length ≤ 60 := by
  rcases h with ⟨e, ab, hw⟩ | ⟨e, rfl⟩
  · obtain ⟨hok, h0, h1⟩ := there_parts e
    have := hw.le
    have := (termOk_parts hok).2.1
    omega
  · simp
theorem ins_nat {sg t : List Int} (hok : termOkB sg t = true) {k a : Nat} (hk : k < t.length) : insI sg t (k : Int) (a : Int) = decide (k ≤ a ∧ a < k + len1 sg t k) := by
  unfold insI
  rw [Int.toNat_natCast, end_at hok hk]
  exact decide_eq_decide.2 ⟨fun h => ⟨by omega, by omega⟩, fun h => ⟨by omega, by omega⟩⟩
theorem up_yes {sg t : List Int} (hok : termOkB sg t = true) {k a : Nat} (ha : a < t.length) (hk : k < a) (h : insI sg t (k : Int) (a : Int) = true) : upTo sg t a 0 (k + 1) = upTo sg t a 0 k ++ [(k : Int)] := by
  rw [ins_nat hok (by omega), decide_eq_true_eq] at h
  rw [upTo_snoc, Nat.zero_add, if_pos h.2]
theorem up_no {sg t : List Int} (hok : termOkB sg t = true) {k a : Nat} (ha : a < t.length) (hk : k < a) (h : insI sg t (k : Int) (a : Int) = false) : upTo sg t a 0 (k + 1) = upTo sg t a 0 k := by
  rw [ins_nat hok (by omega), decide_eq_false_iff_not] at h
  rw [upTo_snoc, Nat.zero_add, if_neg (by omega), List.append_nil]
theorem up_len {sg t : List Int} {a : Nat} : ∀ n p, (upTo sg t a p n).length ≤ n
  | 0, _ => by simp [upTo]
  | n + 1, p => by
    have := up_len (sg := sg) (t := t) (a := a) n (p + 1)
    simp only [upTo, List.length_append]
    split <;> simp <;> omega
theorem list_of {w w' : World} {xs ys : List Int} {A : Option Addr} {n c base : Nat} (e : ys = xs) (ho : Own w' base (.slice A n c) xs) (hB : w.heap.size ≤ base) (hb : Below w.heap.size w w') : AnsList w ys (.returned (.slice A n c)) w' :=
  ⟨A, n, c, rfl, by rw [e]; exact Own.lower ho hB, hb⟩
theorem there_dec {sg t : List Int} {x : Int} {m : Nat} (hm : t.length = m) (hok : termOkB sg t = true) : thereB sg t x = decide (0 ≤ x ∧ x < (m : Int)) := by
  unfold thereB inB
  rw [hok, hm]
  rfl

def HeadAb (w : World) (A : Option Addr) (n c : Nat) (sg : List Int) (A' : Option Addr) (m : Nat) (t : List Int) (a : Nat) (out p : Value) (wr : World) : Prop :=
  ∃ (k : Nat) (O : Option Addr) (on oc : Nat), p = .int .i64 k ∧ k ≤ a ∧ out = .slice O on oc ∧ Own wr (w.heap.size + 1) (.slice O on oc) (upTo sg t a 0 k) ∧ Fr w wr A n c sg A' m t

/-- an append of one number: where it lies, and that nothing else has turned -/
theorem app1At {w : World} {ops : Array Oper} {rest : List Oper} {o : Oper} {a : Act} {Q : Exit → Act → World → Prop} (hgd : o.guard = none) (s x : Operand)
    (ho : o.op = .call { callee := .builtin .append, args := #[s, x], argTypes := #[24, 24] })
    (base : Nat) (A : Option Addr) (n c : Nat) (xs : List Int) (hs : a.eval s = .slice A n c) (hown : Own w base (.slice A n c) xs)
    (g c2 : Nat) (y : Int) (hx : a.eval x = .slice (some ⟨g, 0, none⟩) 1 c2) (hy : w.cell? ⟨g, 0, none⟩ = some (.int .i64 y)) (hn : n ≤ 2097152) (hbase : base ≤ w.heap.size)
    (h : ∀ A' c' w', Own w' base (.slice A' (n + 1) c') (xs ++ [y]) → w.grownBy w' (blk A) → (blk A' = blk A ∨ blk A' = some w.heap.size) → wpList Tryz.prog ops Q rest (a.put o.dst (.slice A' (n + 1) c')) w') : wpList Tryz.prog ops Q (o :: rest) a w :=
  appAllAt hgd s x ho base A n c xs hs hown (some ⟨g, 0, none⟩) 1 c2 (g + 1) [y] hx ⟨rfl, fun _ => ⟨g, 0, rfl, Nat.lt_succ_self _, fun j hj => by
    obtain rfl : j = 0 := by omega
    exact hy⟩⟩ (Nat.le_refl _) hn (by omega) hbase h
theorem Trail.split {sg t : List Int} {a q : Nat} {ab pa : List Int} (h : Trail sg t a q ab pa) (hne : q ≠ a) : ∃ (k : Nat) (ab' pa' : List Int), ab = (q : Int) :: ab' ∧ pa = (k : Int) :: pa' ∧ q < a ∧ k < arN sg t q ∧ argP sg t k (q + 1) ≤ a ∧ a < argP sg t k (q + 1) + len1 sg t (argP sg t k (q + 1)) ∧ q < argP sg t k (q + 1) ∧ Trail sg t a (argP sg t k (q + 1)) ab' pa' := by
  cases h with
  | here => exact absurd rfl hne
  | @down _ k ab' pa' h1 h2 h3 h4 h5 h6 hw => exact ⟨k, ab', pa', rfl, rfl, h1, h2, h3, h4, h5, hw⟩
theorem argsL_get {sg t : List Int} {q k : Nat} (h : k < arN sg t q) : (argsL sg t q).getD k 0 = (argP sg t k (q + 1) : Int) := places_get h
theorem argsL_arN {sg t : List Int} {q : Nat} : (argsL sg t q).length = arN sg t q := places_len _ _
theorem own_cell {w : World} {base : Nat} {A : Option Addr} {n c : Nat} {xs : List Int} (h : Own w base (.slice A n c) xs) {k : Nat} (hk : k < n) : ∃ g off, A = some ⟨g, off, none⟩ ∧ base ≤ g ∧ w.cell? ⟨g, off + k, none⟩ = some (.int .i64 (xs.getD k 0)) := by
  obtain ⟨b, off, e, _, hc⟩ := (Own.seg h).round hk
  subst e
  exact ⟨b, off, rfl, (own_lt h b rfl).1, hc⟩
theorem cell_kept {w w' : World} {r : Option Nat} {p : Addr} {v : Value} (hg : w.grownBy w' r) (hr : ∀ k, r = some k → p.block ≠ k) (hp : p.block < w.heap.size) (h : w.cell? p = some v) : w'.cell? p = some v := by
  exact hg.cell h (fun e => hr _ e.symm rfl)

def HeadPa (w : World) (A : Option Addr) (n c : Nat) (sg : List Int) (A' : Option Addr) (m : Nat) (t : List Int) (a : Nat) (pa : List Int) (g : Nat) (out p : Value) (wr : World) : Prop :=
  ∃ (q : Nat) (O : Option Addr) (on oc : Nat) (ys ab' pa' : List Int), p = .int .i64 q ∧ q + g = a ∧ out = .slice O on oc ∧ Own wr (w.heap.size + 1) (.slice O on oc) ys ∧ Trail sg t a q ab' pa' ∧ ys ++ pa' = pa ∧ Fr w wr A n c sg A' m t
def InPa (w : World) (A : Option Addr) (n c : Nat) (sg : List Int) (A' : Option Addr) (m : Nat) (t : List Int) (k0 B : Nat) (O : Option Addr) (on oc : Nat) (ys : List Int) (A2 : Option Addr) (n2 c2 : Nat) (L : List Int) (g : Nat) (k : Value) (wr : World) : Prop :=
  ∃ j : Nat, k = .int .i64 j ∧ j + g = k0 ∧ Own wr (w.heap.size + 1) (.slice O on oc) ys ∧ (∀ b, blk O = some b → b < B) ∧ Own wr B (.slice A2 n2 c2) L ∧ Fr w wr A n c sg A' m t ∧ B ≤ wr.heap.size

end Go.Proofs.YtkmhnkljigncmaaGreat.pathSpec
end

section
/-
  CONTRACTS: spec.MoreGeneral, l4All, MatchedAll, EmbedsIn. Conditions: the slices read as lists ('Seg', 'Segs'), at most 1048576 numbers. By an AI agent.
-/
namespace Go.Proofs.YtkmhnkljigncmaaGreat.matchList
open Go.RowKit Go.Proofs.YtkmhnkljigncmaaGreat.base Go.Proofs.YtkmhnkljigncmaaGreat.ints Go.Proofs.YtkmhnkljigncmaaGreat.sig Go.Proofs.YtkmhnkljigncmaaGreat.term Go.Proofs.YtkmhnkljigncmaaGreat.termOk Go.Proofs.YtkmhnkljigncmaaGreat.endAt Go.Proofs.YtkmhnkljigncmaaGreat.inside Go.Proofs.YtkmhnkljigncmaaGreat.marks Go.Proofs.YtkmhnkljigncmaaGreat.app Go.Proofs.YtkmhnkljigncmaaGreat.sym Go.Proofs.YtkmhnkljigncmaaGreat.sub Go.Proofs.YtkmhnkljigncmaaGreat.segs Go.Proofs.YtkmhnkljigncmaaGreat.segsHelp Go.Proofs.YtkmhnkljigncmaaGreat.termFacts Go.Proofs.YtkmhnkljigncmaaGreat.termMath Go.Proofs.YtkmhnkljigncmaaGreat.posMath Go.Proofs.YtkmhnkljigncmaaGreat.pathSpec Go.Proofs.YtkmhnkljigncmaaGreat.matchMath Go.Proofs.YtkmhnkljigncmaaGreat.matchSpec
set_option maxRecDepth 100000

theorem keep_alloc {w : World} {a : Addr} {v : Value} {o : Obj} (h : w.cell? a = some v) : (w.alloc o).cell? a = some v := (World.cell?_alloc_some w a o (by rw [h]; rfl)).trans h
theorem keep_set {w : World} {p a : Addr} {u v : Value} (hne : p.block ≠ a.block) (h : w.cell? a = some v) : (w.setCell p u).cell? a = some v := (World.cell?_setCell_far w p a u hne).trans h

/-- the places where the pattern stands, of the first k -/
def embN (sg p t : List Int) : Nat → List Int
  | 0 => []
  | k + 1 => embN sg p t k ++ (if instB sg p (subL sg t k) = true then [(k : Int)] else [])
theorem emb_len {sg p t : List Int} : ∀ k, (embN sg p t k).length ≤ k
  | 0 => by simp [embN]
  | k + 1 => by
    have := emb_len (sg := sg) (p := p) (t := t) k
    simp only [embN, List.length_append]
    split <;> simp <;> omega
def embI (sg p t : List Int) : List Int := if (termOkB sg p && termOkB sg t) = true then embN sg p t t.length else []
theorem emb_no {sg p t : List Int} (h : termOkB sg p = false ∨ termOkB sg t = false) : embI sg p t = [] := by
  unfold embI
  rw [if_neg]
  rcases h with h | h <;> rw [h] <;> simp
theorem emb_yes {sg p t : List Int} (h1 : termOkB sg p = true) (h2 : termOkB sg t = true) : embI sg p t = embN sg p t t.length := by unfold embI; rw [if_pos (by rw [h1, h2]; rfl)]

def HeadE (w : World) (A : Option Addr) (n c : Nat) (sg : List Int) (P : Option Addr) (pn : Nat) (p : List Int) (Q : Option Addr) (m : Nat) (t : List Int) (g : Nat) (out k : Value) (wr : World) : Prop :=
  ∃ (i : Nat) (O : Option Addr) (on oc : Nat), k = .int .i64 i ∧ i + g = m ∧ out = .slice O on oc ∧ Own wr (w.heap.size + 1) (.slice O on oc) (embN sg p t i) ∧ Fr w wr A n c sg Q m t ∧ Seg wr w.heap.size P pn p

def allB (sg : List Int) (ps : List (List Int)) : Bool := sigOkB sg && (decide (ps.length ≤ 12) && ps.all (termOkB sg))
theorem all_sig {sg : List Int} {ps : List (List Int)} (h : sigOkB sg = false) : allB sg ps = false := by unfold allB; rw [h]; rfl
theorem all_long {sg : List Int} {ps : List (List Int)} (h : 12 < ps.length) : allB sg ps = false := by unfold allB; rw [decide_eq_false (by omega)]; simp
theorem all_bad {sg : List Int} {ps : List (List Int)} {i : Nat} (hi : i < ps.length) (h : termOkB sg (ps.getD i []) = false) : allB sg ps = false := by
  unfold allB
  have : ps.all (termOkB sg) = false := by
    rw [List.all_eq_false]
    refine ⟨ps.getD i [], ?_, by rw [h]; simp⟩
    simp [List.getD, hi]
  rw [this]; simp
theorem all_good {sg : List Int} {ps : List (List Int)} (h1 : sigOkB sg = true) (h2 : ps.length ≤ 12) (h : ∀ i, i < ps.length → termOkB sg (ps.getD i []) = true) : allB sg ps = true := by
  unfold allB
  rw [h1, decide_eq_true h2]
  have : ps.all (termOkB sg) = true := by
    rw [List.all_eq_true]
    intro x hx
    obtain ⟨i, hi, rfl⟩ := List.getElem_of_mem hx
    have := h i hi
    simpa [List.getD, hi] using this
  rw [this]; rfl
theorem all_parts {sg : List Int} {ps : List (List Int)} (h : allB sg ps = true) : sigOkB sg = true ∧ ps.length ≤ 12 ∧ ∀ i, i < ps.length → termOkB sg (ps.getD i []) = true := by
  unfold allB at h
  simp only [Bool.and_eq_true, decide_eq_true_eq, List.all_eq_true] at h
  refine ⟨h.1, h.2.1, fun i hi => h.2.2 _ ?_⟩
  simp [List.getD, hi]

/-- what stands in the course of a call with a boxed signature and a list of lists -/
structure Fs (w wr : World) (A : Option Addr) (n c : Nat) (sg : List Int) (P : Option Addr) (pn : Nat) (ps : List (List Int)) : Prop where
  r : Row wr w.heap.size 26 #[.slice A n c]
  s : Seg wr w.heap.size A n sg
  s' : Segs wr w.heap.size P pn ps
  b : Below w.heap.size w wr
section
variable {w wr w' : World} {A : Option Addr} {n c : Nat} {sg : List Int} {P : Option Addr} {pn : Nat} {ps : List (List Int)}
theorem Fs.start (h : Seg w w.heap.size A n sg) (h' : Segs w w.heap.size P pn ps) : Fs w (w.alloc (.cells #[.slice A n c] 26)) A n c sg P pn ps :=
  have b : Below w.heap.size w (w.alloc (.cells #[.slice A n c] 26)) := (Below.refl _ _).alloc (Nat.le_refl _) _
  ⟨Row.new _ _ _, h.below b, h'.below b, b⟩
theorem Fs.next (f : Fs w wr A n c sg P pn ps) (hb : Below wr.heap.size wr w') : Fs w w' A n c sg P pn ps :=
  have b : Below w.heap.size wr w' := hb.mono (Nat.le_of_lt f.r.lt)
  ⟨f.r.next hb, f.s.below b, f.s'.below b, f.b.trans b⟩
theorem Fs.over (f : Fs w wr A n c sg P pn ps) (hb : Below (w.heap.size + 1) wr w') : Fs w w' A n c sg P pn ps :=
  have b : Below w.heap.size wr w' := hb.mono (Nat.le_succ _)
  ⟨f.r.below hb (Nat.lt_succ_self _), f.s.below b, f.s'.below b, f.b.trans b⟩
theorem Fs.alloc (f : Fs w wr A n c sg P pn ps) (o : Obj) : Fs w (wr.alloc o) A n c sg P pn ps := f.next ((Below.refl _ _).alloc (Nat.le_refl _) _)
theorem Fs.drew (f : Fs w wr A n c sg P pn ps) : Fs w wr.drew A n c sg P pn ps := f.over (Below.refl _ _).drew
theorem Fs.cell (f : Fs w wr A n c sg P pn ps) : wr.cell? ⟨w.heap.size, 0, none⟩ = some (.slice A n c) := f.r.cell 0
theorem Fs.s1 (f : Fs w wr A n c sg P pn ps) : Seg wr wr.heap.size A n sg := f.s.more (Nat.le_of_lt f.r.lt)
theorem Fs.size (f : Fs w wr A n c sg P pn ps) : w.heap.size < wr.heap.size := f.r.lt
end

/-- the indexes of the patterns of which t is an instance, of the first k -/
def maN (sg : List Int) (ps : List (List Int)) (t : List Int) : Nat → List Int
  | 0 => []
  | k + 1 => maN sg ps t k ++ (if instB sg (ps.getD k []) t = true then [(k : Int)] else [])
theorem ma_len {sg : List Int} {ps : List (List Int)} {t : List Int} : ∀ k, (maN sg ps t k).length ≤ k
  | 0 => by simp [maN]
  | k + 1 => by
    have := ma_len (sg := sg) (ps := ps) (t := t) k
    simp only [maN, List.length_append]
    split <;> simp <;> omega
def maI (sg : List Int) (ps : List (List Int)) (t : List Int) : List Int := if (allB sg ps && termOkB sg t) = true then maN sg ps t ps.length else []
theorem ma_no {sg : List Int} {ps : List (List Int)} {t : List Int} (h : allB sg ps = false ∨ termOkB sg t = false) : maI sg ps t = [] := by
  unfold maI
  rw [if_neg]
  rcases h with h | h <;> rw [h] <;> simp
theorem ma_yes {sg : List Int} {ps : List (List Int)} {t : List Int} (h1 : allB sg ps = true) (h2 : termOkB sg t = true) : maI sg ps t = maN sg ps t ps.length := by unfold maI; rw [if_pos (by rw [h1, h2]; rfl)]

def HeadMa (w : World) (A : Option Addr) (n c : Nat) (sg : List Int) (P : Option Addr) (pn : Nat) (ps : List (List Int)) (Q : Option Addr) (m : Nat) (t : List Int) (g : Nat) (out k : Value) (wr : World) : Prop :=
  ∃ (i : Nat) (O : Option Addr) (on oc : Nat), k = .int .i64 i ∧ i + g = pn ∧ out = .slice O on oc ∧ Own wr (w.heap.size + 1) (.slice O on oc) (maN sg ps t i) ∧ Fs w wr A n c sg P pn ps ∧ Seg wr w.heap.size Q m t

end Go.Proofs.YtkmhnkljigncmaaGreat.matchList
end

section
/-
  (the regions' walks by wip/tools/reg.py) CONTRACTS: spec.VariantIn, impl.VariantIn. Conditions: the slices read as lists ('Seg'), at most 1048576 numbers. By an AI agent.
-/
namespace Go.Proofs.YtkmhnkljigncmaaGreat.variant
open Go.RowKit Go.Proofs.YtkmhnkljigncmaaGreat.base Go.Proofs.YtkmhnkljigncmaaGreat.ints Go.Proofs.YtkmhnkljigncmaaGreat.sig Go.Proofs.YtkmhnkljigncmaaGreat.same Go.Proofs.YtkmhnkljigncmaaGreat.term Go.Proofs.YtkmhnkljigncmaaGreat.termOk Go.Proofs.YtkmhnkljigncmaaGreat.marks Go.Proofs.YtkmhnkljigncmaaGreat.sym Go.Proofs.YtkmhnkljigncmaaGreat.termFacts Go.Proofs.YtkmhnkljigncmaaGreat.varsOf Go.Proofs.YtkmhnkljigncmaaGreat.renMath Go.Proofs.YtkmhnkljigncmaaGreat.rename Go.Proofs.YtkmhnkljigncmaaGreat.renImpl
set_option maxRecDepth 100000

/-- what VariantIn answers -/
def variantB (sg a b : List Int) : Bool := termOkB sg a && (termOkB sg b && decide (renL a = renL b))
theorem variant_a {sg a b : List Int} (h : termOkB sg a = false) : variantB sg a b = false := by unfold variantB; rw [h, Bool.false_and]
theorem variant_b {sg a b : List Int} (h : termOkB sg b = false) : variantB sg a b = false := by unfold variantB; rw [h, Bool.false_and, Bool.and_false]
theorem variant_ab {sg a b : List Int} (h : termOkB sg a = true) (h' : termOkB sg b = true) : variantB sg a b = decide (renL a = renL b) := by unfold variantB; rw [h, h', Bool.true_and, Bool.true_and]

end Go.Proofs.YtkmhnkljigncmaaGreat.variant
end

section
/-
  CONTRACTS: spec.MostGeneral. Conditions: the slices read as lists ('Seg', 'Segs'), at most 1048576 numbers. (The regions' walks by wip/tools/reg.py.) By an AI agent.
-/
namespace Go.Proofs.YtkmhnkljigncmaaGreat.matchMost
open Go.RowKit Go.Proofs.YtkmhnkljigncmaaGreat.base Go.Proofs.YtkmhnkljigncmaaGreat.ints Go.Proofs.YtkmhnkljigncmaaGreat.sig Go.Proofs.YtkmhnkljigncmaaGreat.term Go.Proofs.YtkmhnkljigncmaaGreat.termOk Go.Proofs.YtkmhnkljigncmaaGreat.endAt Go.Proofs.YtkmhnkljigncmaaGreat.inside Go.Proofs.YtkmhnkljigncmaaGreat.marks Go.Proofs.YtkmhnkljigncmaaGreat.app Go.Proofs.YtkmhnkljigncmaaGreat.sym Go.Proofs.YtkmhnkljigncmaaGreat.segs Go.Proofs.YtkmhnkljigncmaaGreat.segsHelp Go.Proofs.YtkmhnkljigncmaaGreat.termFacts Go.Proofs.YtkmhnkljigncmaaGreat.renMath Go.Proofs.YtkmhnkljigncmaaGreat.varsOf Go.Proofs.YtkmhnkljigncmaaGreat.variant Go.Proofs.YtkmhnkljigncmaaGreat.pathSpec Go.Proofs.YtkmhnkljigncmaaGreat.matchMath Go.Proofs.YtkmhnkljigncmaaGreat.matchSpec Go.Proofs.YtkmhnkljigncmaaGreat.matchList
set_option maxRecDepth 100000

/-- what speaks against i at k -/
def hitB (sg : List Int) (ps : List (List Int)) (i k : Nat) : Bool := moreB sg (ps.getD k []) (ps.getD i []) || (decide (k < i) && variantB sg (ps.getD k []) (ps.getD i []))
def bestK (sg : List Int) (ps : List (List Int)) (i : Nat) : Nat → Bool
  | 0 => true
  | k + 1 => bestK sg ps i k && !hitB sg ps i k
theorem bestK_all {sg : List Int} {ps : List (List Int)} {i : Nat} : ∀ k, bestK sg ps i k = (List.range k).all fun j => !hitB sg ps i j
  | 0 => rfl
  | k + 1 => by
    rw [List.range_succ, List.all_append, ← bestK_all k]
    simp [bestK]
theorem bestK_best {sg : List Int} {ps : List (List Int)} {i : Nat} : bestK sg ps i ps.length = bestB sg ps i := by rw [bestK_all]; rfl
def mgN (sg : List Int) (ps : List (List Int)) : Nat → List Int
  | 0 => []
  | i + 1 => mgN sg ps i ++ (if bestB sg ps i = true then [(i : Int)] else [])
theorem mg_len {sg : List Int} {ps : List (List Int)} : ∀ k, (mgN sg ps k).length ≤ k
  | 0 => by simp [mgN]
  | k + 1 => by
    have := mg_len (sg := sg) (ps := ps) k
    simp only [mgN, List.length_append]
    split <;> simp <;> omega
def mgI (sg : List Int) (ps : List (List Int)) : List Int := if allB sg ps = true then mgN sg ps ps.length else []

def HeadMg (w : World) (A : Option Addr) (n c : Nat) (sg : List Int) (P : Option Addr) (pn : Nat) (ps : List (List Int)) (g : Nat) (out k : Value) (wr : World) : Prop :=
  ∃ (i : Nat) (O : Option Addr) (on oc : Nat), k = .int .i64 i ∧ i + g = pn ∧ out = .slice O on oc ∧ Own wr (w.heap.size + 1) (.slice O on oc) (mgN sg ps i) ∧ Fs w wr A n c sg P pn ps
def InMg (w : World) (A : Option Addr) (n c : Nat) (sg : List Int) (P : Option Addr) (pn : Nat) (ps : List (List Int)) (i : Nat) (O : Option Addr) (on oc : Nat) (g : Nat) (best k : Value) (wr : World) : Prop :=
  ∃ j : Nat, k = .int .i64 j ∧ j + g = pn ∧ best = .bool (bestK sg ps i j) ∧ Own wr (w.heap.size + 1) (.slice O on oc) (mgN sg ps i) ∧ Fs w wr A n c sg P pn ps

end Go.Proofs.YtkmhnkljigncmaaGreat.matchMost
end

section
/-
  CONTRACTS: impl.Matched, InstanceIn, MoreGeneral, termsOk. Conditions: the slices read as lists ('Seg', 'Segs'), at most 1048576 numbers. By an AI agent.
-/
namespace Go.Proofs.YtkmhnkljigncmaaGreat.matchImpl
open Go.RowKit Go.Proofs.YtkmhnkljigncmaaGreat.base Go.Proofs.YtkmhnkljigncmaaGreat.ints Go.Proofs.YtkmhnkljigncmaaGreat.sig Go.Proofs.YtkmhnkljigncmaaGreat.same Go.Proofs.YtkmhnkljigncmaaGreat.term Go.Proofs.YtkmhnkljigncmaaGreat.termOk Go.Proofs.YtkmhnkljigncmaaGreat.endAt Go.Proofs.YtkmhnkljigncmaaGreat.inside Go.Proofs.YtkmhnkljigncmaaGreat.marks Go.Proofs.YtkmhnkljigncmaaGreat.app Go.Proofs.YtkmhnkljigncmaaGreat.sym Go.Proofs.YtkmhnkljigncmaaGreat.sub Go.Proofs.YtkmhnkljigncmaaGreat.segs Go.Proofs.YtkmhnkljigncmaaGreat.segsHelp Go.Proofs.YtkmhnkljigncmaaGreat.kinds Go.Proofs.YtkmhnkljigncmaaGreat.termFacts Go.Proofs.YtkmhnkljigncmaaGreat.termMath Go.Proofs.YtkmhnkljigncmaaGreat.posMath Go.Proofs.YtkmhnkljigncmaaGreat.plainMath Go.Proofs.YtkmhnkljigncmaaGreat.plain Go.Proofs.YtkmhnkljigncmaaGreat.plainOf Go.Proofs.YtkmhnkljigncmaaGreat.gives Go.Proofs.YtkmhnkljigncmaaGreat.cursor Go.Proofs.YtkmhnkljigncmaaGreat.fillMath Go.Proofs.YtkmhnkljigncmaaGreat.matchMath Go.Proofs.YtkmhnkljigncmaaGreat.matchSpec Go.Proofs.YtkmhnkljigncmaaGreat.matchList Go.Proofs.YtkmhnkljigncmaaGreat.matchMost Go.Proofs.YtkmhnkljigncmaaGreat.whole Go.Proofs.YtkmhnkljigncmaaGreat.takeMath Go.Proofs.YtkmhnkljigncmaaGreat.take Go.Proofs.YtkmhnkljigncmaaGreat.extended
set_option maxRecDepth 100000

theorem plain_s0 : plainL (givesL s0) 24 = [] := by
  have h : ∀ i, 0 ≤ i → givesL s0 i = vt i := fun i _ => gives_var (by rw [s0_get]; rfl)
  rw [plain_24 (m := 0) (by omega) h]
  rfl
theorem res_get (R : Option (List (List Int))) : plainL (givesL (R.getD s0)) 24 = resL R := by
  cases R with
  | none => exact plain_s0
  | some s => rfl

set_option maxHeartbeats 1000000 in
theorem implMatched (A P Q : Option Addr) (n c pn pc m mc : Nat) (sg p t : List Int) (w : World) (h : Seg w w.heap.size A n sg) (hp : Seg w w.heap.size P pn p) (ht : Seg w w.heap.size Q m t) (hn : n ≤ 1048576) (hpn : pn ≤ 1048576) (hm : m ≤ 1048576) (hmc : m ≤ mc) (hmc2 : mc ≤ 9223372036854775807) :
    Calls Tryz.prog 27 #[.agg #[.slice A n c], .slice P pn pc, .slice Q m mc] w (AnsM w (resL (matchO sg p t)) (instB sg p t)) := by
  obtain ⟨W, hW⟩ : ∃ W, W = (w.alloc (.cells #[.slice A n c] 26)).alloc (.cells #[.slice none 0 0] 35) := ⟨_, rfl⟩
  have M : Mr w W A n c sg P pn p Q m t := by rw [hW]; exact Mr.start h hp ht
  have HW := Lib.hid hW
  have L := Lib.hid (implTermOk A P n c pn pc sg p W M.ss M.sp hn hpn)
  have c0 : W.cell? ⟨w.heap.size, 0, none⟩ = some (.slice A n c) := M.r0.cell 0
  have c00 : ((w.alloc (.cells #[.slice A n c] 26)).alloc (.cells #[.slice none 0 0] 35)).cell? ⟨w.heap.size, 0, none⟩ = some (.slice A n c) := by rw [← hW]; exact c0
  clear hW h hp ht
  cases hokp : termOkB sg p with
  | false =>
    have HS := Lib.hid hokp
    clear hokp
    go_enter Tryz.func27, Tryz.ntmps27
    go_wp2_with fail
    rw [← HW.out]
    refine L.out.mono ?_
    rintro e w1 ⟨he, bb⟩
    rw [HS.out] at he
    subst he
    replace M := M.next bb
    have cR : w1.cell? ⟨w.heap.size + 1, 0, none⟩ = some (.slice none 0 0) := M.r1.cell 0
    have fR : w1.frozen? ⟨w.heap.size + 1, 0, none⟩ = false := M.r1.free 0
    have F1 := Lib.hid (ansM_off (w := w) (t := t) (.inl HS.out) M.b)
    have F2 := Lib.hid (ansM_off (w := w) (t := t) (.inl HS.out) ((M.b).setCell (p := ⟨w.heap.size + 1, 0, none⟩) (show w.heap.size ≤ w.heap.size + 1 by omega) (.slice none 0 0)))
    clear M L bb c0 c00
    go_wp2
    first
      | exact bodyPost_ret (v := .tuple #[.agg #[.slice none 0 0], .bool false]) (by simp [results, Tryz.results27, go_sem, cR]) rfl F1.out
      | exact bodyPost_ret (v := .tuple #[.agg #[.slice none 0 0], .bool false]) (by simp [results, Tryz.results27, go_sem, cR]) rfl F2.out
  | true =>
    have HSP := Lib.hid hokp
    have hp60 : pn ≤ 60 := by have h1 := (termOk_parts hokp).2.1; rw [M.sp.1] at h1; exact h1
    clear hokp
    cases hokt : termOkB sg t with
    | false =>
      have HS := Lib.hid hokt
      clear hokt
      go_enter Tryz.func27, Tryz.ntmps27
      go_wp2_with fail
      rw [← HW.out]
      refine L.out.mono ?_
      rintro e w1 ⟨he, bb⟩
      rw [HSP.out] at he
      subst he
      replace M := M.next bb
      clear bb L c0 c00
      have c0 : w1.cell? ⟨w.heap.size, 0, none⟩ = some (.slice A n c) := M.r0.cell 0
      go_wp2_with fail
      refine (implTermOk A Q n c m mc sg t _ M.ss M.st hn hm).mono ?_
      rintro e w2 ⟨he, bb⟩
      rw [HS.out] at he
      subst he
      replace M := M.next bb
      have cR : w2.cell? ⟨w.heap.size + 1, 0, none⟩ = some (.slice none 0 0) := M.r1.cell 0
      have fR : w2.frozen? ⟨w.heap.size + 1, 0, none⟩ = false := M.r1.free 0
      have F1 := Lib.hid (ansM_off (w := w) (p := p) (.inr HS.out) M.b)
      have F2 := Lib.hid (ansM_off (w := w) (p := p) (.inr HS.out) ((M.b).setCell (p := ⟨w.heap.size + 1, 0, none⟩) (show w.heap.size ≤ w.heap.size + 1 by omega) (.slice none 0 0)))
      clear M bb c0
      go_wp2
      first
        | exact bodyPost_ret (v := .tuple #[.agg #[.slice none 0 0], .bool false]) (by simp [results, Tryz.results27, go_sem, cR]) rfl F1.out
        | exact bodyPost_ret (v := .tuple #[.agg #[.slice none 0 0], .bool false]) (by simp [results, Tryz.results27, go_sem, cR]) rfl F2.out
    | true =>
      have HST := Lib.hid hokt
      have hm60 : m ≤ 60 := by have h1 := (termOk_parts hokt).2.1; rw [M.st.1] at h1; exact h1
      have HMO := Lib.hid (match_yes HSP.out hokt)
      have HIO := Lib.hid (show instB sg p t = (mst sg t p 0 s0).isSome by unfold instB; rw [HMO.out])
      clear hokt
      go_enter Tryz.func27, Tryz.ntmps27
      go_wp2_with fail
      rw [← HW.out]
      refine L.out.mono ?_
      rintro e w1 ⟨he, bb⟩
      rw [HSP.out] at he
      subst he
      replace M := M.next bb
      clear bb L c0 c00
      have c0 : w1.cell? ⟨w.heap.size, 0, none⟩ = some (.slice A n c) := M.r0.cell 0
      go_wp2_with fail
      refine (implTermOk A Q n c m mc sg t _ M.ss M.st hn hm).mono ?_
      rintro e w2 ⟨he, bb⟩
      rw [HST.out] at he
      subst he
      replace M := M.next bb
      clear bb c0
      have c0 : w2.cell? ⟨w.heap.size, 0, none⟩ = some (.slice A n c) := M.r0.cell 0
      have LX : Calls Tryz.prog 59 #[.agg z24, .slice P pn pc, .agg #[.slice A n c, .slice Q m mc, .int .i64 0]] w2 (AnsExt w2 (mst sg t p 0 s0)) :=
        extended A P Q n c pn pc m mc sg p t 0 z24 s0 w2 M.ss M.sp M.st hn hp60 hm60 hmc hmc2 (by rw [← M.st.1]; exact (term_len HST.out).1) HSP.out HST.out (TabR.new _ _) (fun j => by rw [s0_get]; simp)
      obtain ⟨R, hR⟩ : ∃ R, mst sg t p 0 s0 = R := ⟨_, rfl⟩
      rw [hR] at LX
      have HR := Lib.hid hR
      have HLX := Lib.hid LX
      clear LX hR
      have zw := M.r1.lt
      go_wp2_with (first
        | (refine rowBuild rfl 77 rfl z24 built_b ?_)
        | (go_at_call 59; refine HLX.out.mono ?_; rintro e w3 ⟨cs, rfl, tab, hsz, bb⟩; have one := Lib.hid tab.one; have h24 := Lib.hid tab.1; have bb3 := bb)
        | (refine rowAlloc rfl 77 rfl z24 zero_b ?_)
        | (refine rowStore rfl 77 _ _ rfl w3.heap.size cs z24 77 rfl rfl (heap_alloc_new w3 _) (by rw [h24.out]; exact size_b) (by rw [h24.out]; rfl) one.out ?_; rw [World.setRow_alloc_new])
        | (refine wpList_load_row rfl 77 _ rfl w3.heap.size rfl 77 cs (0, 0) _ (heap_alloc_new w3 _) Tryz.underlying77 rfl (by rw [h24.out]; exact size_b) ?_))
      have M3 := M.next bb
      have B4 : Below w3.heap.size w3 (w3.alloc (.cells cs 77)) := (Below.refl _ _).alloc (Nat.le_refl _) _
      have tab4 : TabR (w3.alloc (.cells cs 77)) (w3.alloc (.cells cs 77)).heap.size cs (R.getD s0) := (tab.below (B4.mono bb.size)).more (by have := bb.size; simp; omega)
      have LP := Lib.hid (plainB cs (R.getD s0) _ tab4 hsz)
      have M4 := M3.next B4
      have HI2 := Lib.hid (show instB sg p t = R.isSome by rw [HIO.out, HR.out])
      have HM2 := Lib.hid (show resL (matchO sg p t) = resL R by rw [HMO.out, HR.out])
      rw [res_get] at LP
      clear M M3 tab4 tab hsz bb bb3 one h24 HLX B4 c0
      refine LP.out.mono ?_
      rintro e w5 ⟨D, dn, dc, rfl, od, bb⟩
      have M5 := M4.next bb
      have z4 := M4.b.size
      have z5 := M4.r1.lt
      have cR : w5.cell? ⟨w.heap.size + 1, 0, none⟩ = some (.slice none 0 0) := M5.r1.cell 0
      have fR : w5.frozen? ⟨w.heap.size + 1, 0, none⟩ = false := M5.r1.free 0
      obtain ⟨b, hb⟩ : ∃ b, R.isSome = b := ⟨_, rfl⟩
      rw [hb]
      have F : AnsM w (resL (matchO sg p t)) (instB sg p t) (.returned (.tuple #[.agg #[.slice D dn dc], .bool b])) (w5.setCell ⟨w.heap.size + 1, 0, none⟩ (.slice D dn dc)) := by
        rw [HI2.out, HM2.out, hb]
        have hbt : Btw (w.heap.size + 1) (w.heap.size + 2) w5 (w5.setCell ⟨w.heap.size + 1, 0, none⟩ (.slice D dn dc)) := Btw.of_grown (grown_put (World.grownBy.refl _ _) _ _) (fun k hk => by injection hk; omega)
        have o2 := od.btw hbt (.inr (by simp at z5 ⊢; omega))
        exact ⟨D, dn, dc, rfl, o2.wider (by simp at z4 ⊢; omega) (by simp), (M5.b).setCell (p := ⟨w.heap.size + 1, 0, none⟩) (show w.heap.size ≤ w.heap.size + 1 by omega) _⟩
      have HF := Lib.hid F
      clear F od bb M4 M5 HIO hb LP
      go_wp2
      exact bodyPost_ret (v := .tuple #[.agg #[.slice D dn dc], .bool b]) (by simp [results, Tryz.results27, go_sem, cR]) rfl HF.out

set_option maxHeartbeats 1000000 in
theorem implInstanceIn (A P Q : Option Addr) (n c pn pc m mc : Nat) (sg p t : List Int) (w : World) (h : Seg w w.heap.size A n sg) (hp : Seg w w.heap.size P pn p) (ht : Seg w w.heap.size Q m t) (hn : n ≤ 1048576) (hpn : pn ≤ 1048576) (hm : m ≤ 1048576) (hmc : m ≤ mc) (hmc2 : mc ≤ 9223372036854775807) :
    Calls Tryz.prog 12 #[.agg #[.slice A n c], .slice P pn pc, .slice Q m mc] w (Tells w (instB sg p t)) := by
  obtain ⟨W, hW⟩ : ∃ W, W = w.alloc (.cells #[.slice A n c] 26) := ⟨_, rfl⟩
  have bW : Below w.heap.size w W := by rw [hW]; exact (Below.refl _ _).alloc (Nat.le_refl _) _
  have HW := Lib.hid hW
  have L := Lib.hid (implMatched A P Q n c pn pc m mc sg p t W (h.next bW) (hp.next bW) (ht.next bW) hn hpn hm hmc hmc2)
  clear hW h hp ht
  generalize instB sg p t = b at *
  go_enter Tryz.func12, Tryz.ntmps12
  go_wp2_with fail
  rw [← HW.out]
  refine L.out.mono ?_
  rintro e w1 ⟨D, dn, dc, rfl, od, bb⟩
  have F := Lib.hid (fun o => (show Tells w b (.returned (.bool b)) (w1.alloc o) from ⟨rfl, (next_trans bW bb).alloc (next_trans bW bb).size _⟩))
  clear od bb L bW
  go_wp2
  go_ret
  exact F.out _
/-- so many are terms -/
def HeadTo (w : World) (A : Option Addr) (n c : Nat) (sg : List Int) (P : Option Addr) (pn : Nat) (ps : List (List Int)) (i : Value) (wr : World) : Prop :=
  ∃ k : Nat, i = .int .i64 k ∧ k ≤ pn ∧ (∀ j, j < k → termOkB sg (ps.getD j []) = true) ∧ Fs w wr A n c sg P pn ps
end Go.Proofs.YtkmhnkljigncmaaGreat.matchImpl
end

section
/-
  CONTRACT: laws.big: more than 4096 bytes. Conditions: none. By an AI agent.
-/
namespace Go.Proofs.YtkmhnkljigncmaaGreat.bigs
open Go.RowKit Go.Proofs.YtkmhnkljigncmaaGreat.base Go.Proofs.YtkmhnkljigncmaaGreat.ints

theorem bigAns (A : Option Addr) (n c : Nat) (b : Bool) (w : World) (hb : decide (4096 < n) = b) (hn : n ≤ 9223372036854775807) : Calls Tryz.prog 4 #[.slice A n c] w fun e w' => w = w' ∧ e = .returned (.bool b) := by
  cases b with
  | true =>
    have h : (4096 : Int) < (n : Int) := by have := of_decide_eq_true hb; omega
    clear hb
    go_enter Tryz.func4, Tryz.ntmps4
    go_wp2
    go_ret
    exact ⟨rfl, rfl⟩
  | false =>
    have h : ¬ (4096 : Int) < (n : Int) := by have := of_decide_eq_false hb; omega
    have h2 : decide (4096 < n) = false := hb
    clear hb
    go_enter Tryz.func4, Tryz.ntmps4
    go_wp2
    go_ret
    exact ⟨rfl, rfl⟩
end Go.Proofs.YtkmhnkljigncmaaGreat.bigs
end

section
/-
  WORDS of the laws' walks: what stands behind a draw of a signature and two terms ('T1'), a variable that holds a substitution ('Sv'); laws.likeInts of two lists that read the same. Conditions: none; plain lemmas. By an AI agent.
-/
namespace Go.Proofs.YtkmhnkljigncmaaGreat.lawT
open Go.RowKit Go.Proofs.YtkmhnkljigncmaaGreat.base Go.Proofs.YtkmhnkljigncmaaGreat.ints Go.Proofs.YtkmhnkljigncmaaGreat.segs
set_option maxRecDepth 100000

/-- what stands after the first draw: the signature's variable at v3 -/
structure T1 (w : World) (v3 : Nat) (S : Option Addr) (sn sc : Nat) (sg : List Int) (O : Option Addr) (on : Nat) (p : List Int) (Q : Option Addr) (qn : Nat) (t : List Int) (wr : World) : Prop where
  s : Seg wr wr.heap.size S sn sg
  o : Seg wr wr.heap.size O on p
  q : Seg wr wr.heap.size Q qn t
  r3 : Row wr v3 26 #[.slice S sn sc]
  bel : Below w.heap.size w wr
section
variable {w : World} {v3 : Nat} {S : Option Addr} {sn sc : Nat} {sg : List Int} {O : Option Addr} {on : Nat} {p : List Int} {Q : Option Addr} {qn : Nat} {t : List Int} {wr w' : World}
theorem T1.next (f : T1 w v3 S sn sc sg O on p Q qn t wr) (hb : Below wr.heap.size wr w') : T1 w v3 S sn sc sg O on p Q qn t w' :=
  ⟨f.s.next hb, f.o.next hb, f.q.next hb, f.r3.next hb, next_trans f.bel hb⟩
theorem T1.drew (f : T1 w v3 S sn sc sg O on p Q qn t wr) : T1 w v3 S sn sc sg O on p Q qn t wr.drew := ⟨f.s, f.o, f.q, f.r3, f.bel.drew⟩
theorem T1.cell (f : T1 w v3 S sn sc sg O on p Q qn t wr) : wr.cell? ⟨v3, 0, none⟩ = some (.slice S sn sc) := f.r3.cell 0
end
/-- a variable that holds a substitution -/
structure Sv (wr : World) (v : Nat) (D : Option Addr) (dn dc : Nat) (xss : List (List Int)) : Prop where
  r : Row wr v 35 #[.slice D dn dc]
  s : Segs wr wr.heap.size D dn xss
section
variable {v : Nat} {D : Option Addr} {dn dc : Nat} {xss : List (List Int)} {wr w' : World}
theorem Sv.next (f : Sv wr v D dn dc xss) (hb : Below wr.heap.size wr w') : Sv w' v D dn dc xss := ⟨f.r.next hb, f.s.next hb⟩
theorem Sv.cell (f : Sv wr v D dn dc xss) : wr.cell? ⟨v, 0, none⟩ = some (.slice D dn dc) := f.r.cell 0
end
theorem below_alloc (w : World) (x : Obj) : Below w.heap.size w (w.alloc x) := (Below.refl _ _).alloc (Nat.le_refl _) _
theorem below_drewN (w : World) (d : Nat) : Below w.heap.size w (w.drewN d) := ⟨rfl, rfl, rfl, Nat.le_refl _, fun _ _ => rfl⟩

end Go.Proofs.YtkmhnkljigncmaaGreat.lawT
end

section
/-
  THE WALK of laws.FnMet: it returns true, whatever the bytes, and writes nothing that was there. Conditions: the slice holds bytes. By an AI agent.
-/
namespace Go.Proofs.YtkmhnkljigncmaaGreat.wFnMet
open Go.RowKit Go.Proofs.YtkmhnkljigncmaaGreat.base Go.Proofs.YtkmhnkljigncmaaGreat.ints Go.Proofs.YtkmhnkljigncmaaGreat.sig Go.Proofs.YtkmhnkljigncmaaGreat.same Go.Proofs.YtkmhnkljigncmaaGreat.term Go.Proofs.YtkmhnkljigncmaaGreat.cursor Go.Proofs.YtkmhnkljigncmaaGreat.termOk Go.Proofs.YtkmhnkljigncmaaGreat.endAt Go.Proofs.YtkmhnkljigncmaaGreat.marks Go.Proofs.YtkmhnkljigncmaaGreat.app Go.Proofs.YtkmhnkljigncmaaGreat.sym Go.Proofs.YtkmhnkljigncmaaGreat.segs Go.Proofs.YtkmhnkljigncmaaGreat.segsHelp Go.Proofs.YtkmhnkljigncmaaGreat.dice Go.Proofs.YtkmhnkljigncmaaGreat.inside Go.Proofs.YtkmhnkljigncmaaGreat.look Go.Proofs.YtkmhnkljigncmaaGreat.drawVar Go.Proofs.YtkmhnkljigncmaaGreat.drawMatched Go.Proofs.YtkmhnkljigncmaaGreat.drawMeto Go.Proofs.YtkmhnkljigncmaaGreat.fillMath Go.Proofs.YtkmhnkljigncmaaGreat.shifted Go.Proofs.YtkmhnkljigncmaaGreat.renMath Go.Proofs.YtkmhnkljigncmaaGreat.renPure Go.Proofs.YtkmhnkljigncmaaGreat.renImpl Go.Proofs.YtkmhnkljigncmaaGreat.matchMath Go.Proofs.YtkmhnkljigncmaaGreat.matchSpec Go.Proofs.YtkmhnkljigncmaaGreat.matchImpl Go.Proofs.YtkmhnkljigncmaaGreat.unifMath Go.Proofs.YtkmhnkljigncmaaGreat.unifLaw Go.Proofs.YtkmhnkljigncmaaGreat.unified Go.Proofs.YtkmhnkljigncmaaGreat.behind Go.Proofs.YtkmhnkljigncmaaGreat.apart5 Go.Proofs.YtkmhnkljigncmaaGreat.met Go.Proofs.YtkmhnkljigncmaaGreat.bigs Go.Proofs.YtkmhnkljigncmaaGreat.lawT Go.Proofs.YtkmhnkljigncmaaGreat.termFacts Go.Proofs.YtkmhnkljigncmaaGreat.substOk Go.Proofs.YtkmhnkljigncmaaGreat.gives Go.Proofs.YtkmhnkljigncmaaGreat.filled Go.Proofs.YtkmhnkljigncmaaGreat.plainMath
set_option maxRecDepth 100000

theorem isA_met {sg a b : List Int} {F : List (List Int)} (h : IsA sg a b true F) : instB sg a (metL true F a) = true ∧ instB sg b (metL true F a) = true ∧ renI sg (metL true F a) = metL true F a ∧ (metL true F a).length ≤ 60 := by
  have h5 := (isA_true h).2.2.2.2
  have hl := (term_len (ren_ok h5)).2
  rcases h with ⟨hs, h⟩ | ⟨_, e, _⟩
  · rcases h with ⟨_, h1, h2, L, m, s, rfl⟩ | ⟨e, _⟩
    · have hb : termOkB sg b = true := by
        unfold shiftedB at hs
        rw [Bool.and_eq_true, Bool.and_eq_true] at hs
        exact hs.1.1
      have hk : 0 ≤ behindI sg a := by
        unfold shiftedB at hs
        rw [Bool.and_eq_true, Bool.and_eq_true, decide_eq_true_iff] at hs
        exact hs.1.2.1
      have e : metL true (plainL L 24) a = renL (fillL L a) := by
        unfold metL
        rw [if_pos rfl, fill_plain m.sub]
      obtain ⟨k, hkk⟩ := Int.eq_ofNat_of_zero_le hk
      have hx : shiftedL sg b (behindI sg a) = shiftL (k : Int) b := by
        unfold shiftedL
        rw [if_pos hs, hkk]
      obtain ⟨i1, i2, i3, i4⟩ := met_facts hx h1 hb h2 m s
      rw [e]
      refine ⟨i1, i2, ?_, (term_len i4).2⟩
      unfold renI
      rw [if_pos i4]
      exact i3
    · cases e
  · cases e

set_option maxHeartbeats 16000000 in
theorem law (A : Option Addr) (n c : Nat) (_ : List Int) (w : World) (h : SegB w w.heap.size A n) (hN : n ≤ 9223372036854775807) :
    Calls Tryz.prog 3 #[.slice A n c] w (Fine w) := by
  by_cases hbig : n ≤ 4096
  · have LB := Lib.hid (bigAns A n c false w (by simp; omega) hN)
    go_enter Tryz.func3, Tryz.ntmps3
    go_wp2_with fail
    refine LB.out.mono ?_
    rintro e w' ⟨rfl, rfl⟩
    clear LB
    go_wp2_with fail
    refine (drawMetOf A n c w h hbig).mono ?_
    rintro e w2 ⟨S, sn, sc, sg, O, on, oc, a, Q, qn, qc, b, rfl, s1, s2, s3, hsn, ⟨hon, hoc⟩, ⟨hqn, hqc⟩, b2⟩
    obtain ⟨v3, h3⟩ : ∃ v, w2.heap.size = v := ⟨_, rfl⟩
    obtain ⟨W, hW⟩ : ∃ W, W = w2.alloc (.cells #[.slice S sn sc] 26) := ⟨_, rfl⟩
    have T : T1 w v3 S sn sc sg O on a Q qn b W := by
      have bb : Below w2.heap.size w2 W := by rw [hW]; exact below_alloc _ _
      exact ⟨s1.next bb, s2.next bb, s3.next bb, by rw [hW, ← h3]; exact Row.new _ _ _, next_trans b2 bb⟩
    have HW := Lib.hid hW
    have H3 := Lib.hid h3
    have c30 : (w2.alloc (.cells #[.slice S sn sc] 26)).cell? ⟨v3, 0, none⟩ = some (.slice S sn sc) := by rw [← hW]; exact T.cell
    obtain ⟨v, F, hU⟩ := isA_ex sg a b
    have HU := Lib.hid hU
    obtain ⟨m, hm⟩ : ∃ m, metL v F a = m := ⟨_, rfl⟩
    have HM := Lib.hid hm
    have hml : m.length ≤ 1048576 := by rw [← hm]; exact met_len hU
    clear h hW h3 b2 s1 s2 s3 hU hm
    have c3 := T.cell
    go_wp2_with fail
    rw [← HW.out, H3.out]
    refine (implMetOf S O Q sn sc on oc qn qc sg a b W v F HU.out T.s T.o T.q (by omega) (by omega) (by omega) hoc).mono ?_
    rintro e w4 ⟨D, dn, dc, rfl, od, bb⟩
    rw [HM.out] at od
    have sd := Own.seg od
    have hdc := own_cap od
    have hdn : dn ≤ 1048576 := by rw [Own.len od]; exact hml
    replace T := T.next bb
    clear bb od c30
    replace c3 := T.cell
    go_wp2_with fail
    refine (specMetOf S O Q sn sc on oc qn qc sg a b w4 v F HU.out T.s T.o T.q (by omega) (by omega) (by omega)).mono ?_
    rintro e w5 ⟨E, en, ec, rfl, oe, bb⟩
    rw [HM.out] at oe
    have se := Own.seg oe
    have hen : en ≤ 1048576 := by rw [Own.len oe]; exact hml
    replace T := T.next bb
    replace sd := sd.next bb
    clear bb oe
    have Tz := T.drew
    have dz : Seg w5.drew w5.drew.heap.size D dn m := sd
    have ez : Seg w5.drew w5.drew.heap.size E en m := se
    replace c3 := T.cell
    clear T sd se
    obtain ⟨k, hk⟩ : ∃ k, behindI sg a = k := ⟨_, rfl⟩
    have HK := Lib.hid hk
    clear hk
    cases v with
    | false =>
      obtain rfl : dn = 0 := by rw [← dz.1, ← HM.out]; rfl
      go_wp2_with fail
      go_region_held3 (fun w' => w'.cell? ⟨v3, 0, none⟩ = some (.slice S sn sc))
        (go_keep)
        (first
          | (go_at_call 8; refine (implSame D E 0 en dc ec m m w5.drew dz ez (by omega) (by omega)).mono ?_; rintro e w20 ⟨he, dd, hd⟩; have bb20 : Below w5.drew.heap.size w5.drew w20 := (by rw [hd]; exact below_drewN w5.drew dd); rw [decide_eq_true rfl] at he; subst he; clear hd; have T20 := Tz.next bb20; have d20 := dz.next bb20; have k20 := T20.cell)
          | (go_at_call 9; refine (implBehindOf S O sn sc on oc sg a w20 T20.s T20.o (by omega) (by omega)).mono ?_; rintro e w21 ⟨he, bb21⟩; have T21 := T20.next bb21; have d21 := d20.next bb21; rw [HK.out] at he; subst he; have k21 := T21.cell)
          | (go_at_call 10; refine (specBehindOf S O sn sc on oc sg a w21 T21.s T21.o (by omega) (by omega)).mono ?_; rintro e w22 ⟨he, bb22⟩; have T22 := T21.next bb22; have d22 := d21.next bb22; rw [HK.out] at he; subst he; have k22 := T22.cell))
      have TB := Lib.hid T22.bel
      clear T22 T21 T20 Tz dz ez d20 d21 d22 k20 k21 bb20 bb21 bb22 c3
      go_wp2
      go_ret
      exact ⟨rfl, TB.out⟩
    | true =>
      have HI := Lib.hid (isA_met HU.out)
      rw [HM.out] at HI
      have HIA := Lib.hid HI.out.1
      have HIB := Lib.hid HI.out.2.1
      have HR := Lib.hid HI.out.2.2.1
      go_wp2_with fail
      go_region_held3 (fun w' => w'.cell? ⟨v3, 0, none⟩ = some (.slice S sn sc))
        (go_keep)
        (first
          | (go_at_call 8; refine (implSame D E dn en dc ec m m w5.drew dz ez (by omega) (by omega)).mono ?_; rintro e w20 ⟨he, dd, hd⟩; have bb20 : Below w5.drew.heap.size w5.drew w20 := (by rw [hd]; exact below_drewN w5.drew dd); rw [decide_eq_true rfl] at he; subst he; clear hd; have T20 := Tz.next bb20; have d20 := dz.next bb20; have k20 := T20.cell)
          | (go_at_call 9; refine (implBehindOf S O sn sc on oc sg a w20 T20.s T20.o (by omega) (by omega)).mono ?_; rintro e w21 ⟨he, bb21⟩; have T21 := T20.next bb21; have d21 := d20.next bb21; rw [HK.out] at he; subst he; have k21 := T21.cell)
          | (go_at_call 10; refine (specBehindOf S O sn sc on oc sg a w21 T21.s T21.o (by omega) (by omega)).mono ?_; rintro e w22 ⟨he, bb22⟩; have T22 := T21.next bb22; have d22 := d21.next bb22; rw [HK.out] at he; subst he; have k22 := T22.cell))
      replace c3 := T22.cell
      clear T21 T20 Tz dz ez d20 d21 k20 k21 bb20 bb21 bb22 k22
      go_wp2_with fail
      refine (implUnifiedApart S O Q sn sc on oc qn qc sg a b w22 true F HU.out T22.s T22.o T22.q (by omega) (by omega) (by omega) hoc).mono ?_
      rintro e w24 ⟨G, gn, gc, rfl, og, bb⟩
      obtain ⟨v10, h10⟩ : ∃ v, w24.heap.size = v := ⟨_, rfl⟩
      obtain ⟨W25, hW25⟩ : ∃ W, W = w24.alloc (.cells #[.slice G gn gc] 35) := ⟨_, rfl⟩
      have bx : Below w24.heap.size w24 W25 := by rw [hW25]; exact below_alloc _ _
      have T := (T22.next bb).next bx
      have sd := (d22.next bb).next bx
      have HW25 := Lib.hid hW25
      have H10 := Lib.hid h10
      have k3 : (w24.alloc (.cells #[.slice G gn gc] 35)).cell? ⟨v3, 0, none⟩ = some (.slice S sn sc) := by rw [← hW25]; exact T.cell
      clear bb bx og hW25 h10 T22 d22
      replace c3 := T.cell
      go_wp2_with fail
      rw [← HW25.out, H10.out]
      refine (implInstanceIn S O D sn sc on oc dn dc sg a m W25 T.s T.o sd (by omega) (by omega) (by omega) hdc.1 hdc.2.1).mono ?_
      rintro e w26 ⟨he, bb⟩
      rw [HIA.out] at he
      subst he
      replace T := T.next bb
      replace sd := sd.next bb
      clear bb k3
      replace c3 := T.cell
      go_wp2_with fail
      refine (implInstanceIn S Q D sn sc qn qc dn dc sg b m w26 T.s T.q sd (by omega) (by omega) (by omega) hdc.1 hdc.2.1).mono ?_
      rintro e w27 ⟨he, bb⟩
      rw [HIB.out] at he
      subst he
      replace T := T.next bb
      replace sd := sd.next bb
      clear bb
      replace c3 := T.cell
      go_wp2_with fail
      refine (implRenamed S D sn sc dn dc sg m w27 T.s sd (by omega) (by omega)).mono ?_
      rintro e w28 ⟨R, rn, rc, rfl, orr, bb⟩
      rw [HR.out] at orr
      have sr := Own.seg orr
      have hrn : rn ≤ 1048576 := by rw [Own.len orr]; exact hml
      replace T := T.next bb
      replace sd := sd.next bb
      clear bb orr
      replace c3 := T.cell
      go_wp2_with fail
      refine (implSame R D rn dn rc dc m m w28 sr sd (by omega) (by omega)).mono ?_
      rintro e w29 ⟨he, d, hd⟩
      have bb : Below w28.heap.size w28 w29 := by rw [hd]; exact below_drewN w28 d
      rw [decide_eq_true rfl] at he
      subst he
      have TB := Lib.hid (T.next bb).bel
      clear bb hd T sd sr c3
      go_wp2
      go_ret
      exact ⟨rfl, TB.out⟩
  · have LB := Lib.hid (bigAns A n c true w (by simp; omega) hN)
    clear h
    go_enter Tryz.func3, Tryz.ntmps3
    go_wp2_with fail
    refine LB.out.mono ?_
    rintro e w' ⟨rfl, rfl⟩
    clear LB
    go_wp2
    go_ret
    exact ⟨rfl, Below.refl _ _⟩
end Go.Proofs.YtkmhnkljigncmaaGreat.wFnMet
end
