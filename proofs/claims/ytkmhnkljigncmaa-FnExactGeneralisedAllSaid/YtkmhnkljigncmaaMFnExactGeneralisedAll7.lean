/-
  MERGED: my texts Extended, PathSpec, MatchList, Rename, RenImpl, Variant, MatchMost, MatchImpl, GenAll, WGeneralisedAll, one behind the other, as they are. By an AI agent.
-/
import Derived.Test.YtkmhnkljigncmaaMFnExactGeneralisedAll6
import Derived.Deep.LoopGhost
import Derived.Deep.RegionHeld3
import Derived.Deep.QuietTactic
import Derived.BigQuiet
import Derived.Deep.WholeRow
section
/-
  CONTRACTS: impl's (bindings).extended, (bindings).plain. Conditions: the slices read as lists ('Seg', 'TabR'), pattern and term are valid, the place lies in the term. By an AI agent.
-/
namespace Go.Proofs.Ytkmhnkljigncmaa.extended
open Go.RowKit Go.Proofs.Ytkmhnkljigncmaa.base Go.Proofs.Ytkmhnkljigncmaa.ints Go.Proofs.Ytkmhnkljigncmaa.sig Go.Proofs.Ytkmhnkljigncmaa.same Go.Proofs.Ytkmhnkljigncmaa.term Go.Proofs.Ytkmhnkljigncmaa.termOk Go.Proofs.Ytkmhnkljigncmaa.endAt Go.Proofs.Ytkmhnkljigncmaa.marks Go.Proofs.Ytkmhnkljigncmaa.app Go.Proofs.Ytkmhnkljigncmaa.sym Go.Proofs.Ytkmhnkljigncmaa.sub Go.Proofs.Ytkmhnkljigncmaa.segs Go.Proofs.Ytkmhnkljigncmaa.termFacts Go.Proofs.Ytkmhnkljigncmaa.termMath Go.Proofs.Ytkmhnkljigncmaa.posMath Go.Proofs.Ytkmhnkljigncmaa.cursor Go.Proofs.Ytkmhnkljigncmaa.matchMath Go.Proofs.Ytkmhnkljigncmaa.matchSpec Go.Proofs.Ytkmhnkljigncmaa.whole Go.Proofs.Ytkmhnkljigncmaa.takeMath Go.Proofs.Ytkmhnkljigncmaa.take Go.Proofs.Ytkmhnkljigncmaa.segsHelp Go.Proofs.Ytkmhnkljigncmaa.kinds Go.Proofs.Ytkmhnkljigncmaa.plainMath Go.Proofs.Ytkmhnkljigncmaa.plain Go.Proofs.Ytkmhnkljigncmaa.plainOf Go.Proofs.Ytkmhnkljigncmaa.gives Go.Proofs.Ytkmhnkljigncmaa.look Go.Proofs.Ytkmhnkljigncmaa.fillMath
set_option maxRecDepth 100000

/-- what extended gives: the bindings by value, and whether there are any -/
def AnsExt (w : World) (R : Option (List (List Int))) (e : Ending) (w' : World) : Prop :=
  ∃ cs, e = .returned (.tuple #[.agg cs, .bool R.isSome]) ∧ TabR w' w.heap.size cs (R.getD s0) ∧ (∀ j, ((R.getD s0).getD j []).length ≤ 60) ∧ Below w.heap.size w w'
/-- the head of its loop -/
def HeadX (w : World) (A : Option Addr) (n c : Nat) (Q : Option Addr) (m mc : Nat) (sg t : List Int) (P : Option Addr) (pn : Nat) (p : List Int) (R : Option (List (List Int))) (i : Value) (wr : World) : Prop :=
  ∃ (j k : Nat) (s : List (List Int)), i = .int .i64 j ∧ j ≤ pn ∧ Tk wr w.heap.size A n c Q m mc sg t k s ∧ Row wr (w.heap.size + 1 + 1) 114 z24 ∧ Seg wr w.heap.size P pn p ∧ Below w.heap.size w wr ∧ Sync sg p t j k ∧ mst sg t (p.drop j) k s = R
theorem seg_btw {w w' : World} {lo hi : Nat} {A : Option Addr} {n : Nat} {xs : List Int} (h : Seg w lo A n xs) (hb : Btw lo hi w w') (hl : lo ≤ w.heap.size) : Seg w' lo A n xs :=
  h.keep fun p hp => World.cell?_of_block (hb.block p.block (by omega) (.inl hp))

set_option maxHeartbeats 1000000 in
theorem extended (A P Q : Option Addr) (n c pn pc m mc : Nat) (sg p t : List Int) (at_ : Nat) (cs : Array Value) (s : List (List Int)) (w : World) (h : Seg w w.heap.size A n sg) (hp : Seg w w.heap.size P pn p) (ht : Seg w w.heap.size Q m t)
    (hn : n ≤ 1048576) (hpn : pn ≤ 60) (hm : m ≤ 60) (hmc : m ≤ mc) (hmc2 : mc ≤ 9223372036854775807) (hat : at_ < m) (hokp : termOkB sg p = true) (hokt : termOkB sg t = true) (htab : TabR w w.heap.size cs s) (hs : ∀ j, (s.getD j []).length ≤ m) :
    Calls Try.prog 120 #[.agg cs, .slice P pn pc, .agg #[.slice A n c, .slice Q m mc, .int .i64 (at_ : Int)]] w (AnsExt w (mst sg t p at_ s)) := by
  obtain ⟨W, hW⟩ : ∃ W, W = ((w.alloc (.cells cs 114)).alloc (.cells #[.slice A n c, .slice Q m mc, .int .i64 (at_ : Int)] 83)).alloc (.cells z24 114) := ⟨_, rfl⟩
  have b0 : Below w.heap.size w W := by rw [hW]; exact (((Below.refl _ _).alloc (Nat.le_refl _) _).alloc (by simp) _).alloc (by simp; omega) _
  have r0 : Row W w.heap.size 114 cs := by rw [hW]; exact ((Row.new w _ _).alloc _).alloc _
  have r1 : Row W (w.heap.size + 1) 83 #[.slice A n c, .slice Q m mc, .int .i64 (at_ : Int)] := by
    rw [hW]
    have := (Row.new (w.alloc (.cells cs 114)) 83 #[.slice A n c, .slice Q m mc, .int .i64 (at_ : Int)]).alloc (.cells z24 114)
    simpa using this
  have r2 : Row W (w.heap.size + 1 + 1) 114 z24 := by
    rw [hW]
    have := Row.new ((w.alloc (.cells cs 114)).alloc (.cells #[.slice A n c, .slice Q m mc, .int .i64 (at_ : Int)] 83)) 114 z24
    simpa using this
  have HX : HeadX w A n c Q m mc sg t P pn p (mst sg t p at_ s) (.int .i64 0) W :=
    ⟨0, at_, s, rfl, Nat.zero_le _, ⟨r1, ⟨cs, r0, htab.below b0⟩, h.below b0, ht.below b0, Nat.le_of_lt hat, hn, by omega, (sig_arities (termOk_parts hokt).1).1, hs⟩, r2, hp.below b0, b0, Sync.start hokp hokt (by rw [ht.1]; exact hat), by rw [List.drop_zero]⟩
  have HH := Lib.hid HX
  have HW := Lib.hid hW
  have HT := Lib.hid hokt
  have HL := Lib.hid ht.1
  have HPL := Lib.hid hp.1
  have HPM : Hid (∀ i, i < pn → -24 ≤ p.getD i 0) := Lib.hid (fun i hi => (term_num hokp (by rw [hp.1]; exact hi)).1)
  generalize mst sg t p at_ s = R at *
  clear hW HX r0 r1 r2 b0 htab hs hokt hokp h hp ht
  go_enter Try.func120, Try.ntmps120
  go_wp2_with (first
    | (refine rowBox rfl 114 _ rfl cs rfl ?_)
    | (refine rowAlloc rfl 114 rfl z24 zero_b ?_))
  rw [← HW.out]
  go_loopw [12] (fun i wr => HeadX w A n c Q m mc sg t P pn p R i wr) (fun i _ => pn - (intOf i).toNat)
  case atStart => exact HH.out
  case round =>
    obtain ⟨j, k, s, rfl, hj, M, r2, sp, hb, hsy, hm1⟩ := hrel
    clear HH
    have HM1 := Lib.hid hm1
    have HSY := Lib.hid hsy
    clear hm1 hsy
    by_cases hlt : j < pn
    · obtain ⟨bp, op, x, rfl, hbp, hx, ex⟩ := sp.spot hlt
      have hx24 : -24 ≤ x := by rw [← ex.out]; exact HPM.out j hlt
      have hkm : k < m := by have := HSY.out.lt (by rw [HPL.out]; exact hlt); rw [HL.out] at this; exact this
      have HD := Lib.hid (show p.drop j = x :: p.drop (j + 1) by rw [drop_cons (by rw [HPL.out]; exact hlt), ex.out])
      have LT := Lib.hid (take w.heap.size A Q n c m mc sg t k s x wr M hkm hmc hmc2 hx24 HT.out)
      have gl := M.lt
      have HR := Lib.hid r2
      have HB := Lib.hid hb
      have HP := Lib.hid sp
      clear M r2 hb sp
      go_wp2_with fail
      refine LT.out.mono ?_
      rintro e w2 ⟨bb, ⟨k', s', rfl, M, hmv, hr⟩ | ⟨rfl, hr⟩⟩
      · have hsync : Sync sg p t (j + 1) k' := by
          rcases hmv with ⟨h0, h1, rfl⟩ | ⟨h0, rfl⟩
          · exact HSY.out.sym (by rw [HPL.out]; exact hlt) ex.out h1
          · exact HSY.out.var (by rw [HPL.out]; exact hlt) ex.out hx24 h0 HT.out
        have S : HeadX w A n c Q m mc sg t (some ⟨bp, op, none⟩) pn p R (.int .i64 ((j : Int) + 1)) w2 :=
          ⟨j + 1, k', s', by simp, hlt, M, segs.Row.btw HR.out bb (.inr (Nat.le_refl _)), seg_btw HP.out bb (by omega), Below.btw HB.out bb (Nat.le_refl _) (by omega), hsync, by rw [← hr, ← HD.out]; exact HM1.out⟩
        have HS := Lib.hid S
        clear S M hsync hmv hr bb HR HP HB LT ex HD hx
        go_wp2
        go_roundw
        case rel => exact HS.out
        case measure => simp [intOf]; omega
      · have hR : R = none := by rw [← HM1.out, HD.out]; exact hr _
        have r2 := segs.Row.btw HR.out bb (.inr (Nat.le_refl _))
        have b2 := Below.btw HB.out bb (Nat.le_refl _) (by omega)
        have hz := r2
        unfold Row at hz
        have r3 := Row.setRow r2 z24
        have F : AnsExt w R (.returned (.tuple #[.agg z24, .bool false])) (w2.setRow (w.heap.size + 1 + 1) z24) :=
          ⟨z24, by rw [hR]; rfl, by rw [hR]; exact TabR.new _ _, fun i => by rw [hR]; simp only [Option.getD_none]; rw [s0_get]; simp, Below.btw b2 (Btw.of_grown (lo := w.heap.size) (hi := w.heap.size + 1 + 1 + 1) (grown_setRow w2 (w.heap.size + 1 + 1) z24) (fun k e => by injection e; omega)) (Nat.le_refl _) b2.size⟩
        have HF := Lib.hid F
        have H3 := Lib.hid r3
        have HZ := Lib.hid hz
        clear F r3 r2 b2 hz hr bb HR HP HB LT ex HD hx hR
        go_wp2_with (first
          | (refine rowBuild rfl 114 rfl z24 built_b ?_)
          | (refine rowStore rfl 114 _ _ rfl (w.heap.size + 1 + 1) z24 z24 114 rfl rfl HZ.out (by rw [z24_size]; exact size_b) rfl z24_one ?_))
        (try simp only [Exit.inBlock, Exit.then])
        refine bodyPost_ret (v := .tuple #[.agg z24, .bool false]) ?_ rfl HF.out
        exact results_row_tmp Try.results120 _ (w.heap.size + 1 + 1) 114 z24 _ rfl H3.out Try.underlying114 rfl (by rw [z24_size]; exact size_b)
    · have hjp : j = pn := by omega
      have hR : R = some s := by rw [← HM1.out, hjp, List.drop_eq_nil_of_le (by rw [HPL.out]; exact Nat.le_refl _)]; rfl
      obtain ⟨cs', h1, h2⟩ := M.tab
      have hz1 := h1
      have hz2 := r2
      unfold Row at hz1 hz2
      have r3 := Row.setRow r2 cs'
      have hl := M.lt
      have F : AnsExt w R (.returned (.tuple #[.agg cs', .bool true])) (wr.setRow (w.heap.size + 1 + 1) cs') :=
        ⟨cs', by rw [hR]; rfl, by rw [hR]; exact h2.keep (keep_of (grown_setRow wr (w.heap.size + 1 + 1) cs') (by omega) (fun k e => by injection e; omega)), by rw [hR]; exact fun j => Nat.le_trans (M.hs j) hm,
          Below.btw hb (Btw.of_grown (lo := w.heap.size) (hi := w.heap.size + 1 + 1 + 1) (grown_setRow wr (w.heap.size + 1 + 1) cs') (fun k e => by injection e; omega)) (Nat.le_refl _) hb.size⟩
      have HF := Lib.hid F
      have H3 := Lib.hid r3
      have HZ1 := Lib.hid hz1
      have HZ2 := Lib.hid hz2
      have HSZ := Lib.hid h2.1
      have HON := Lib.hid h2.one
      clear F r3 r2 hz1 hz2 h1 h2 hR M sp hb hjp
      go_wp2_with (first
        | (refine wpList_load_row rfl 114 _ rfl w.heap.size rfl 114 cs' (0, 0) _ HZ1.out Try.underlying114 rfl (by rw [HSZ.out]; exact size_b) ?_)
        | (refine rowStore rfl 114 _ _ rfl (w.heap.size + 1 + 1) cs' z24 114 rfl rfl HZ2.out (by rw [HSZ.out]; exact size_b) (by rw [HSZ.out]; rfl) HON.out ?_))
      (try simp only [Exit.inBlock, Exit.then])
      refine bodyPost_ret (v := .tuple #[.agg cs', .bool true]) ?_ rfl HF.out
      exact results_row_tmp Try.results120 _ (w.heap.size + 1 + 1) 114 cs' _ rfl H3.out Try.underlying114 rfl (by rw [HSZ.out]; exact size_b)

set_option maxHeartbeats 1000000 in
theorem plainB (cs : Array Value) (s : List (List Int)) (w : World) (htab : TabR w w.heap.size cs s) (hs : ∀ j, (s.getD j []).length ≤ 60) :
    Calls Try.prog 121 #[.agg cs] w (AnsSubst w (plainL (givesL s) 24)) := by
  obtain ⟨W, hW⟩ : ∃ W, W = (w.alloc (.cells cs 114)).alloc (.cells #[.slice none 0 0] 31) := ⟨_, rfl⟩
  have b0 : Below w.heap.size w W := by rw [hW]; exact ((Below.refl _ _).alloc (Nat.le_refl _) _).alloc (by simp) _
  have r0 : Row W w.heap.size 114 cs := by rw [hW]; exact (Row.new w _ _).alloc _
  have r1 : Row W (w.heap.size + 1) 31 #[.slice none 0 0] := by
    rw [hW]
    have := Row.new (w.alloc (.cells cs 114)) 31 #[.slice none 0 0]
    simpa using this
  have s1 : Segs W W.heap.size (some ⟨w.heap.size, 0, none⟩) 24 s := (htab.below b0).segs r0 b0.size
  have HW := Lib.hid hW
  have HG := Lib.hid (show ∀ i, (givesL s i).length ≤ 60 from fun i => by
    unfold givesL
    split
    · simp [vt]
    · exact hs i)
  clear hW htab hs r0
  go_enter Try.func121, Try.ntmps121
  go_wp2_with (first
    | (refine rowBox rfl 114 _ rfl cs rfl ?_))
  rw [← HW.out]
  refine (lookupIn (some ⟨w.heap.size, 0, none⟩) 24 24 W).mono ?_
  rintro e w3 ⟨rfl, hw3⟩
  have b3 : Below W.heap.size W w3 := by rw [hw3]; exact (Below.refl _ _).alloc (Nat.le_refl _) _
  have r3 : Row w3 W.heap.size 31 #[.slice (some ⟨w.heap.size, 0, none⟩) 24 24] := by rw [hw3]; exact Row.new _ _ _
  replace s1 := s1.next b3
  replace b0 := next_trans b0 b3
  replace r1 := r1.next b3
  have L3 := Lib.hid (plain 112 #[.pointer (some ⟨W.heap.size, 0, none⟩)] (enters_of Try.func112 (by kernel_rfl) rfl) (givesL s) w3 (lookSubst W.heap.size (some ⟨w.heap.size, 0, none⟩) 24 24 s w3 r3 s1 (by omega)) (gives_pos s) (fun i => Nat.le_trans (HG.out i) (by omega)))
  clear hw3 b3 r3 s1
  go_wp2_with fail
  refine L3.out.mono ?_
  rintro e w4 ⟨O, on, oc, rfl, ho, b4⟩
  have z1 := r1.lt
  have z0 := b0.size
  replace r1 := r1.next b4
  replace b0 := next_trans b0 b4
  have cR : w4.cell? ⟨w.heap.size + 1, 0, none⟩ = some (.slice none 0 0) := r1.cell 0
  have fR : w4.frozen? ⟨w.heap.size + 1, 0, none⟩ = false := r1.free 0
  have F : AnsSubst w (plainL (givesL s) 24) (.returned (.agg #[.slice O on oc])) (w4.setCell ⟨w.heap.size + 1, 0, none⟩ (.slice O on oc)) :=
    ⟨O, on, oc, rfl, (owns_put ho r1 (by omega) 0 _).wider z0 (by simp), b0.setCell (p := ⟨w.heap.size + 1, 0, none⟩) (show w.heap.size ≤ w.heap.size + 1 by omega) _⟩
  have HF := Lib.hid F
  clear F ho r1 b0 b4 L3
  go_wp2
  exact bodyPost_ret (v := .agg #[.slice O on oc]) (by simp [results, Try.results121, go_sem, cR]) rfl HF.out
end Go.Proofs.Ytkmhnkljigncmaa.extended
end

section
/-
  CONTRACTS: spec.AboveOf, spec.l3Path, spec.PathOf. Conditions: the slices read as lists ('Seg'), at most 1048576 numbers; the places are int64. By an AI agent.
-/
namespace Go.Proofs.Ytkmhnkljigncmaa.pathSpec
open Go.RowKit Go.Proofs.Ytkmhnkljigncmaa.base Go.Proofs.Ytkmhnkljigncmaa.ints Go.Proofs.Ytkmhnkljigncmaa.sig Go.Proofs.Ytkmhnkljigncmaa.term Go.Proofs.Ytkmhnkljigncmaa.arity Go.Proofs.Ytkmhnkljigncmaa.endOf Go.Proofs.Ytkmhnkljigncmaa.cursor Go.Proofs.Ytkmhnkljigncmaa.termOk Go.Proofs.Ytkmhnkljigncmaa.endAt Go.Proofs.Ytkmhnkljigncmaa.inside Go.Proofs.Ytkmhnkljigncmaa.marks Go.Proofs.Ytkmhnkljigncmaa.app Go.Proofs.Ytkmhnkljigncmaa.appAt Go.Proofs.Ytkmhnkljigncmaa.sym Go.Proofs.Ytkmhnkljigncmaa.args Go.Proofs.Ytkmhnkljigncmaa.posMath
set_option maxRecDepth 100000

theorem own_lt {w : World} {base : Nat} {A : Option Addr} {n c : Nat} {xs : List Int} (h : Own w base (.slice A n c) xs) : ∀ k, blk A = some k → base ≤ k ∧ k < w.heap.size := fun k hk => World.ownsRow.lt h k (by rw [blk_own]; exact hk)
def aboveI (sg t : List Int) (x : Int) : List Int := if thereB sg t x = true then aboveL sg t x.toNat else []
theorem above_no {sg t : List Int} {x : Int} (h : thereB sg t x = false) : aboveI sg t x = [] := by unfold aboveI; rw [if_neg (by rw [h]; simp)]
theorem above_yes {sg t : List Int} {a : Nat} (h : thereB sg t (a : Int) = true) : aboveI sg t (a : Int) = upTo sg t a 0 a := by unfold aboveI aboveL; rw [if_pos h, Int.toNat_natCast]
/-- the path of a place; none where there is no such place -/
def PathIs (sg t : List Int) (x : Int) (pa : List Int) : Prop := (thereB sg t x = true ∧ ∃ ab, Trail sg t x.toNat 0 ab pa) ∨ (thereB sg t x = false ∧ pa = [])
theorem path_ex (sg t : List Int) (x : Int) : ∃ pa, PathIs sg t x pa := by
  cases h : thereB sg t x with
  | false => exact ⟨[], .inr ⟨h, rfl⟩⟩
  | true =>
    obtain ⟨hok, h0, h1⟩ := there_parts h
    obtain ⟨ab, pa, hw⟩ := way_root hok (show x.toNat < t.length by omega)
    exact ⟨pa, .inl ⟨h, ab, hw⟩⟩
theorem PathIs.one {sg t : List Int} {x : Int} {pa pa' : List Int} (h : PathIs sg t x pa) (h' : PathIs sg t x pa') : pa = pa' := by
  rcases h with ⟨e, ab, hw⟩ | ⟨e, rfl⟩ <;> rcases h' with ⟨e', ab', hw'⟩ | ⟨e', rfl⟩
  · exact (hw.one hw').2
  · rw [e] at e'; cases e'
  · rw [e] at e'; cases e'
  · rfl
theorem PathIs.len {sg t : List Int} {x : Int} {pa : List Int} (h : PathIs sg t x pa) : pa.length ≤ 60 := by
  rcases h with ⟨e, ab, hw⟩ | ⟨e, rfl⟩
  · obtain ⟨hok, h0, h1⟩ := there_parts e
    have := hw.le
    have := (termOk_parts hok).2.1
    omega
  · simp
theorem ins_nat {sg t : List Int} (hok : termOkB sg t = true) {k a : Nat} (hk : k < t.length) : insI sg t (k : Int) (a : Int) = decide (k ≤ a ∧ a < k + len1 sg t k) := by
  unfold insI
  rw [Int.toNat_natCast, end_at hok hk]
  exact decide_eq_decide.2 ⟨fun h => ⟨by omega, by omega⟩, fun h => ⟨by omega, by omega⟩⟩
theorem up_yes {sg t : List Int} (hok : termOkB sg t = true) {k a : Nat} (ha : a < t.length) (hk : k < a) (h : insI sg t (k : Int) (a : Int) = true) : upTo sg t a 0 (k + 1) = upTo sg t a 0 k ++ [(k : Int)] := by
  rw [ins_nat hok (by omega), decide_eq_true_eq] at h
  rw [upTo_snoc, Nat.zero_add, if_pos h.2]
theorem up_no {sg t : List Int} (hok : termOkB sg t = true) {k a : Nat} (ha : a < t.length) (hk : k < a) (h : insI sg t (k : Int) (a : Int) = false) : upTo sg t a 0 (k + 1) = upTo sg t a 0 k := by
  rw [ins_nat hok (by omega), decide_eq_false_iff_not] at h
  rw [upTo_snoc, Nat.zero_add, if_neg (by omega), List.append_nil]
theorem up_len {sg t : List Int} {a : Nat} : ∀ n p, (upTo sg t a p n).length ≤ n
  | 0, _ => by simp [upTo]
  | n + 1, p => by
    have := up_len (sg := sg) (t := t) (a := a) n (p + 1)
    simp only [upTo, List.length_append]
    split <;> simp <;> omega
theorem list_of {w w' : World} {xs ys : List Int} {A : Option Addr} {n c base : Nat} (e : ys = xs) (ho : Own w' base (.slice A n c) xs) (hB : w.heap.size ≤ base) (hb : Below w.heap.size w w') : AnsList w ys (.returned (.slice A n c)) w' :=
  ⟨A, n, c, rfl, by rw [e]; exact Own.lower ho hB, hb⟩
theorem there_dec {sg t : List Int} {x : Int} {m : Nat} (hm : t.length = m) (hok : termOkB sg t = true) : thereB sg t x = decide (0 ≤ x ∧ x < (m : Int)) := by
  unfold thereB inB
  rw [hok, hm]
  rfl

def HeadAb (w : World) (A : Option Addr) (n c : Nat) (sg : List Int) (A' : Option Addr) (m : Nat) (t : List Int) (a : Nat) (out p : Value) (wr : World) : Prop :=
  ∃ (k : Nat) (O : Option Addr) (on oc : Nat), p = .int .i64 k ∧ k ≤ a ∧ out = .slice O on oc ∧ Own wr (w.heap.size + 1) (.slice O on oc) (upTo sg t a 0 k) ∧ Fr w wr A n c sg A' m t

/-- an append of one number: where it lies, and that nothing else has turned -/
theorem app1At {w : World} {ops : Array Oper} {rest : List Oper} {o : Oper} {a : Act} {Q : Exit → Act → World → Prop} (hgd : o.guard = none) (s x : Operand)
    (ho : o.op = .call { callee := .builtin .append, args := #[s, x], argTypes := #[24, 24] })
    (base : Nat) (A : Option Addr) (n c : Nat) (xs : List Int) (hs : a.eval s = .slice A n c) (hown : Own w base (.slice A n c) xs)
    (g c2 : Nat) (y : Int) (hx : a.eval x = .slice (some ⟨g, 0, none⟩) 1 c2) (hy : w.cell? ⟨g, 0, none⟩ = some (.int .i64 y)) (hn : n ≤ 2097152) (hbase : base ≤ w.heap.size)
    (h : ∀ A' c' w', Own w' base (.slice A' (n + 1) c') (xs ++ [y]) → w.grownBy w' (blk A) → (blk A' = blk A ∨ blk A' = some w.heap.size) → wpList Try.prog ops Q rest (a.put o.dst (.slice A' (n + 1) c')) w') : wpList Try.prog ops Q (o :: rest) a w :=
  appAllAt hgd s x ho base A n c xs hs hown (some ⟨g, 0, none⟩) 1 c2 (g + 1) [y] hx ⟨rfl, fun _ => ⟨g, 0, rfl, Nat.lt_succ_self _, fun j hj => by
    obtain rfl : j = 0 := by omega
    exact hy⟩⟩ (Nat.le_refl _) hn (by omega) hbase h
theorem Trail.split {sg t : List Int} {a q : Nat} {ab pa : List Int} (h : Trail sg t a q ab pa) (hne : q ≠ a) : ∃ (k : Nat) (ab' pa' : List Int), ab = (q : Int) :: ab' ∧ pa = (k : Int) :: pa' ∧ q < a ∧ k < arN sg t q ∧ argP sg t k (q + 1) ≤ a ∧ a < argP sg t k (q + 1) + len1 sg t (argP sg t k (q + 1)) ∧ q < argP sg t k (q + 1) ∧ Trail sg t a (argP sg t k (q + 1)) ab' pa' := by
  cases h with
  | here => exact absurd rfl hne
  | @down _ k ab' pa' h1 h2 h3 h4 h5 h6 hw => exact ⟨k, ab', pa', rfl, rfl, h1, h2, h3, h4, h5, hw⟩
theorem argsL_get {sg t : List Int} {q k : Nat} (h : k < arN sg t q) : (argsL sg t q).getD k 0 = (argP sg t k (q + 1) : Int) := places_get h
theorem argsL_arN {sg t : List Int} {q : Nat} : (argsL sg t q).length = arN sg t q := places_len _ _
theorem own_cell {w : World} {base : Nat} {A : Option Addr} {n c : Nat} {xs : List Int} (h : Own w base (.slice A n c) xs) {k : Nat} (hk : k < n) : ∃ g off, A = some ⟨g, off, none⟩ ∧ base ≤ g ∧ w.cell? ⟨g, off + k, none⟩ = some (.int .i64 (xs.getD k 0)) := by
  obtain ⟨b, off, e, _, hc⟩ := (Own.seg h).round hk
  subst e
  exact ⟨b, off, rfl, (own_lt h b rfl).1, hc⟩
theorem cell_kept {w w' : World} {r : Option Nat} {p : Addr} {v : Value} (hg : w.grownBy w' r) (hr : ∀ k, r = some k → p.block ≠ k) (hp : p.block < w.heap.size) (h : w.cell? p = some v) : w'.cell? p = some v := by
  exact hg.cell h (fun e => hr _ e.symm rfl)

def HeadPa (w : World) (A : Option Addr) (n c : Nat) (sg : List Int) (A' : Option Addr) (m : Nat) (t : List Int) (a : Nat) (pa : List Int) (g : Nat) (out p : Value) (wr : World) : Prop :=
  ∃ (q : Nat) (O : Option Addr) (on oc : Nat) (ys ab' pa' : List Int), p = .int .i64 q ∧ q + g = a ∧ out = .slice O on oc ∧ Own wr (w.heap.size + 1) (.slice O on oc) ys ∧ Trail sg t a q ab' pa' ∧ ys ++ pa' = pa ∧ Fr w wr A n c sg A' m t
def InPa (w : World) (A : Option Addr) (n c : Nat) (sg : List Int) (A' : Option Addr) (m : Nat) (t : List Int) (k0 B : Nat) (O : Option Addr) (on oc : Nat) (ys : List Int) (A2 : Option Addr) (n2 c2 : Nat) (L : List Int) (g : Nat) (k : Value) (wr : World) : Prop :=
  ∃ j : Nat, k = .int .i64 j ∧ j + g = k0 ∧ Own wr (w.heap.size + 1) (.slice O on oc) ys ∧ (∀ b, blk O = some b → b < B) ∧ Own wr B (.slice A2 n2 c2) L ∧ Fr w wr A n c sg A' m t ∧ B ≤ wr.heap.size

end Go.Proofs.Ytkmhnkljigncmaa.pathSpec
end

section
/-
  CONTRACTS: spec.MoreGeneral, l4All, MatchedAll, EmbedsIn. Conditions: the slices read as lists ('Seg', 'Segs'), at most 1048576 numbers. By an AI agent.
-/
namespace Go.Proofs.Ytkmhnkljigncmaa.matchList
open Go.RowKit Go.Proofs.Ytkmhnkljigncmaa.base Go.Proofs.Ytkmhnkljigncmaa.ints Go.Proofs.Ytkmhnkljigncmaa.sig Go.Proofs.Ytkmhnkljigncmaa.term Go.Proofs.Ytkmhnkljigncmaa.termOk Go.Proofs.Ytkmhnkljigncmaa.endAt Go.Proofs.Ytkmhnkljigncmaa.inside Go.Proofs.Ytkmhnkljigncmaa.marks Go.Proofs.Ytkmhnkljigncmaa.app Go.Proofs.Ytkmhnkljigncmaa.sym Go.Proofs.Ytkmhnkljigncmaa.sub Go.Proofs.Ytkmhnkljigncmaa.segs Go.Proofs.Ytkmhnkljigncmaa.segsHelp Go.Proofs.Ytkmhnkljigncmaa.termFacts Go.Proofs.Ytkmhnkljigncmaa.termMath Go.Proofs.Ytkmhnkljigncmaa.posMath Go.Proofs.Ytkmhnkljigncmaa.pathSpec Go.Proofs.Ytkmhnkljigncmaa.matchMath Go.Proofs.Ytkmhnkljigncmaa.matchSpec
set_option maxRecDepth 100000

theorem keep_alloc {w : World} {a : Addr} {v : Value} {o : Obj} (h : w.cell? a = some v) : (w.alloc o).cell? a = some v := (World.cell?_alloc_some w a o (by rw [h]; rfl)).trans h
theorem keep_set {w : World} {p a : Addr} {u v : Value} (hne : p.block ≠ a.block) (h : w.cell? a = some v) : (w.setCell p u).cell? a = some v := (World.cell?_setCell_far w p a u hne).trans h

/-- the places where the pattern stands, of the first k -/
def embN (sg p t : List Int) : Nat → List Int
  | 0 => []
  | k + 1 => embN sg p t k ++ (if instB sg p (subL sg t k) = true then [(k : Int)] else [])
theorem emb_len {sg p t : List Int} : ∀ k, (embN sg p t k).length ≤ k
  | 0 => by simp [embN]
  | k + 1 => by
    have := emb_len (sg := sg) (p := p) (t := t) k
    simp only [embN, List.length_append]
    split <;> simp <;> omega
def embI (sg p t : List Int) : List Int := if (termOkB sg p && termOkB sg t) = true then embN sg p t t.length else []
theorem emb_no {sg p t : List Int} (h : termOkB sg p = false ∨ termOkB sg t = false) : embI sg p t = [] := by
  unfold embI
  rw [if_neg]
  rcases h with h | h <;> rw [h] <;> simp
theorem emb_yes {sg p t : List Int} (h1 : termOkB sg p = true) (h2 : termOkB sg t = true) : embI sg p t = embN sg p t t.length := by unfold embI; rw [if_pos (by rw [h1, h2]; rfl)]

def HeadE (w : World) (A : Option Addr) (n c : Nat) (sg : List Int) (P : Option Addr) (pn : Nat) (p : List Int) (Q : Option Addr) (m : Nat) (t : List Int) (g : Nat) (out k : Value) (wr : World) : Prop :=
  ∃ (i : Nat) (O : Option Addr) (on oc : Nat), k = .int .i64 i ∧ i + g = m ∧ out = .slice O on oc ∧ Own wr (w.heap.size + 1) (.slice O on oc) (embN sg p t i) ∧ Fr w wr A n c sg Q m t ∧ Seg wr w.heap.size P pn p

def allB (sg : List Int) (ps : List (List Int)) : Bool := sigOkB sg && (decide (ps.length ≤ 12) && ps.all (termOkB sg))
theorem all_sig {sg : List Int} {ps : List (List Int)} (h : sigOkB sg = false) : allB sg ps = false := by unfold allB; rw [h]; rfl
theorem all_long {sg : List Int} {ps : List (List Int)} (h : 12 < ps.length) : allB sg ps = false := by unfold allB; rw [decide_eq_false (by omega)]; simp
theorem all_bad {sg : List Int} {ps : List (List Int)} {i : Nat} (hi : i < ps.length) (h : termOkB sg (ps.getD i []) = false) : allB sg ps = false := by
  unfold allB
  have : ps.all (termOkB sg) = false := by
    rw [List.all_eq_false]
    refine ⟨ps.getD i [], ?_, by rw [h]; simp⟩
    simp [List.getD, hi]
  rw [this]; simp
theorem all_good {sg : List Int} {ps : List (List Int)} (h1 : sigOkB sg = true) (h2 : ps.length ≤ 12) (h : ∀ i, i < ps.length → termOkB sg (ps.getD i []) = true) : allB sg ps = true := by
  unfold allB
  rw [h1, decide_eq_true h2]
  have : ps.all (termOkB sg) = true := by
    rw [List.all_eq_true]
    intro x hx
    obtain ⟨i, hi, rfl⟩ := List.getElem_of_mem hx
    have := h i hi
    simpa [List.getD, hi] using this
  rw [this]; rfl
theorem all_parts {sg : List Int} {ps : List (List Int)} (h : allB sg ps = true) : sigOkB sg = true ∧ ps.length ≤ 12 ∧ ∀ i, i < ps.length → termOkB sg (ps.getD i []) = true := by
  unfold allB at h
  simp only [Bool.and_eq_true, decide_eq_true_eq, List.all_eq_true] at h
  refine ⟨h.1, h.2.1, fun i hi => h.2.2 _ ?_⟩
  simp [List.getD, hi]

/-- what stands in the course of a call with a boxed signature and a list of lists -/
structure Fs (w wr : World) (A : Option Addr) (n c : Nat) (sg : List Int) (P : Option Addr) (pn : Nat) (ps : List (List Int)) : Prop where
  r : Row wr w.heap.size 26 #[.slice A n c]
  s : Seg wr w.heap.size A n sg
  s' : Segs wr w.heap.size P pn ps
  b : Below w.heap.size w wr
section
variable {w wr w' : World} {A : Option Addr} {n c : Nat} {sg : List Int} {P : Option Addr} {pn : Nat} {ps : List (List Int)}
theorem Fs.start (h : Seg w w.heap.size A n sg) (h' : Segs w w.heap.size P pn ps) : Fs w (w.alloc (.cells #[.slice A n c] 26)) A n c sg P pn ps :=
  have b : Below w.heap.size w (w.alloc (.cells #[.slice A n c] 26)) := (Below.refl _ _).alloc (Nat.le_refl _) _
  ⟨Row.new _ _ _, h.below b, h'.below b, b⟩
theorem Fs.next (f : Fs w wr A n c sg P pn ps) (hb : Below wr.heap.size wr w') : Fs w w' A n c sg P pn ps :=
  have b : Below w.heap.size wr w' := hb.mono (Nat.le_of_lt f.r.lt)
  ⟨f.r.next hb, f.s.below b, f.s'.below b, f.b.trans b⟩
theorem Fs.over (f : Fs w wr A n c sg P pn ps) (hb : Below (w.heap.size + 1) wr w') : Fs w w' A n c sg P pn ps :=
  have b : Below w.heap.size wr w' := hb.mono (Nat.le_succ _)
  ⟨f.r.below hb (Nat.lt_succ_self _), f.s.below b, f.s'.below b, f.b.trans b⟩
theorem Fs.alloc (f : Fs w wr A n c sg P pn ps) (o : Obj) : Fs w (wr.alloc o) A n c sg P pn ps := f.next ((Below.refl _ _).alloc (Nat.le_refl _) _)
theorem Fs.drew (f : Fs w wr A n c sg P pn ps) : Fs w wr.drew A n c sg P pn ps := f.over (Below.refl _ _).drew
theorem Fs.cell (f : Fs w wr A n c sg P pn ps) : wr.cell? ⟨w.heap.size, 0, none⟩ = some (.slice A n c) := f.r.cell 0
theorem Fs.s1 (f : Fs w wr A n c sg P pn ps) : Seg wr wr.heap.size A n sg := f.s.more (Nat.le_of_lt f.r.lt)
theorem Fs.size (f : Fs w wr A n c sg P pn ps) : w.heap.size < wr.heap.size := f.r.lt
end

set_option maxHeartbeats 1000000 in
theorem l4All (A P : Option Addr) (n c pn pc : Nat) (sg : List Int) (ps : List (List Int)) (w : World) (h : Seg w w.heap.size A n sg) (hp : Segs w w.heap.size P pn ps) (hn : n ≤ 1048576) (ht : tot ps ≤ 1048576) :
    Calls Try.prog 85 #[.agg #[.slice A n c], .slice P pn pc] w (Tells w (allB sg ps)) := by
  obtain ⟨W, hW⟩ : ∃ W, W = w.alloc (.cells #[.slice A n c] 26) := ⟨_, rfl⟩
  have f : Fs w W A n c sg P pn ps := by rw [hW]; exact Fs.start h hp
  have HW := Lib.hid hW
  have HL := Lib.hid hp.1
  have HE := Lib.hid (tot_each ht)
  have hpn : pn ≤ 1048576 := tot_len hp.1 ht
  have L := Lib.hid (specSigOk A n c sg W f.s1 hn)
  clear hW h hp ht
  cases hsig : sigOkB sg with
  | false =>
    have HS := Lib.hid hsig
    have HF := Lib.hid (all_sig (ps := ps) hsig)
    clear hsig
    go_enter Try.func85, Try.ntmps85
    go_wp2_with fail
    rw [← HW.out]
    refine L.out.mono ?_
    rintro e w1 ⟨he, bb⟩
    rw [HS.out] at he
    subst he
    have F := Lib.hid (show Tells w (allB sg ps) (.returned (.bool false)) w1 from ⟨by rw [HF.out], (f.next bb).b⟩)
    clear f L bb
    go_wp2
    go_ret
    exact F.out
  | true =>
    have HS := Lib.hid hsig
    clear hsig
    by_cases hlong : 12 < pn
    · have HF := Lib.hid (all_long (sg := sg) (ps := ps) (by rw [HL.out]; exact hlong))
      have h12 : (12 : Int) < (pn : Int) := by omega
      go_enter Try.func85, Try.ntmps85
      go_wp2_with fail
      rw [← HW.out]
      refine L.out.mono ?_
      rintro e w1 ⟨he, bb⟩
      rw [HS.out] at he
      subst he
      have F := Lib.hid (show Tells w (allB sg ps) (.returned (.bool false)) w1 from ⟨by rw [HF.out], (f.next bb).b⟩)
      clear f L bb
      go_wp2
      go_ret
      exact F.out
    · have h12 : ¬ (12 : Int) < (pn : Int) := by omega
      go_enter Try.func85, Try.ntmps85
      go_wp2_with fail
      rw [← HW.out]
      refine L.out.mono ?_
      rintro e w1 ⟨he, bb⟩
      rw [HS.out] at he
      subst he
      have HM0 := Lib.hid (f.next bb)
      clear f L bb
      go_wp2_with fail
      go_loopg [5] pn (fun g i wr => ∃ k : Nat, i = .int .i64 k ∧ k + g = pn ∧ (∀ j, j < k → termOkB sg (ps.getD j []) = true) ∧ Fs w wr A n c sg P pn ps)
      case atStart => exact ⟨0, rfl, by omega, fun j hj => absurd hj (Nat.not_lt_zero _), HM0.out⟩
      case round =>
        obtain ⟨k, rfl, hk, hall, f⟩ := hrel
        clear HM0
        have HK := Lib.hid hk
        have HA := Lib.hid hall
        clear hk hall
        by_cases hkp : k < pn
        · obtain ⟨b, off, D, dn, dc, rfl, hbb, hc, hsg, hcap⟩ := f.s'.spot hkp
          have hdn : dn ≤ 1048576 := by have := HE.out k; rw [hsg.1] at this; exact this
          have hgk := Lib.hid (show gk - 1 < gk ∧ k + 1 + (gk - 1) = pn by have := HK.out; omega)
          obtain ⟨bk, hbk⟩ : ∃ b, termOkB sg (ps.getD k []) = b := ⟨_, rfl⟩
          have HB := Lib.hid hbk
          have sd : Seg wr.drew wr.drew.heap.size D dn (ps.getD k []) := (hsg.more (Nat.le_of_lt f.size)).drew
          obtain ⟨ys, hys⟩ : ∃ ys, ps.getD k [] = ys := ⟨_, rfl⟩
          rw [hys] at sd HB
          have HYS := Lib.hid hys
          have z0 := f.size
          replace f := f.drew
          have cA := f.cell
          have cy : wr.drew.cell? ⟨b, off + k, none⟩ = some (.slice D dn dc) := hc
          clear hsg hcap hc hbk hys
          go_wp2_with fail
          go_region_held3 (fun w' => w'.cell? ⟨w.heap.size, 0, none⟩ = some (.slice A n c) ∧ w'.cell? ⟨b, off + k, none⟩ = some (.slice D dn dc))
            (first | exact ⟨by assumption, by assumption⟩ | go_keep)
            (first
              | (go_at_call 62; refine (specTermOk A D n c dn dc sg ys _ f.s1 sd hn hdn).mono ?_; rintro e w2 ⟨he, bb⟩; rw [HB.out] at he; subst he; have f2 := f.next bb; have cA2 := f2.cell; have cy2 : w2.cell? ⟨b, off + k, none⟩ = some (.slice D dn dc) := (bb.cell (p := ⟨b, off + k, none⟩) (Nat.lt_trans hbb z0)).trans cy))
          clear cA cA2 cy cy2 f sd bb
          cases bk with
          | false =>
            have F := Lib.hid (show Tells w (allB sg ps) (.returned (.bool false)) w2 from ⟨by rw [all_bad (i := k) (by rw [HL.out]; exact hkp) (by rw [HYS.out]; exact HB.out)], f2.b⟩)
            clear f2
            go_wp2
            go_ret
            exact F.out
          | true =>
            have HM := Lib.hid f2
            clear f2
            go_wp2
            go_roundg (gk - 1)
            case measure => exact hgk.out.1
            case rel => exact ⟨k + 1, by simp, hgk.out.2, fun j hj => by
              by_cases e : j = k
              · subst e; rw [HYS.out]; exact HB.out
              · exact HA.out j (by omega), HM.out⟩
        · have F := Lib.hid (show Tells w (allB sg ps) (.returned (.bool true)) wr from ⟨by rw [all_good HS.out (by rw [HL.out]; omega) (fun i hi => HA.out i (by rw [HL.out] at hi; omega))], f.b⟩)
          clear f
          go_wp2
          go_ret
          exact F.out
/-- the indexes of the patterns of which t is an instance, of the first k -/
def maN (sg : List Int) (ps : List (List Int)) (t : List Int) : Nat → List Int
  | 0 => []
  | k + 1 => maN sg ps t k ++ (if instB sg (ps.getD k []) t = true then [(k : Int)] else [])
theorem ma_len {sg : List Int} {ps : List (List Int)} {t : List Int} : ∀ k, (maN sg ps t k).length ≤ k
  | 0 => by simp [maN]
  | k + 1 => by
    have := ma_len (sg := sg) (ps := ps) (t := t) k
    simp only [maN, List.length_append]
    split <;> simp <;> omega
def maI (sg : List Int) (ps : List (List Int)) (t : List Int) : List Int := if (allB sg ps && termOkB sg t) = true then maN sg ps t ps.length else []
theorem ma_no {sg : List Int} {ps : List (List Int)} {t : List Int} (h : allB sg ps = false ∨ termOkB sg t = false) : maI sg ps t = [] := by
  unfold maI
  rw [if_neg]
  rcases h with h | h <;> rw [h] <;> simp
theorem ma_yes {sg : List Int} {ps : List (List Int)} {t : List Int} (h1 : allB sg ps = true) (h2 : termOkB sg t = true) : maI sg ps t = maN sg ps t ps.length := by unfold maI; rw [if_pos (by rw [h1, h2]; rfl)]

def HeadMa (w : World) (A : Option Addr) (n c : Nat) (sg : List Int) (P : Option Addr) (pn : Nat) (ps : List (List Int)) (Q : Option Addr) (m : Nat) (t : List Int) (g : Nat) (out k : Value) (wr : World) : Prop :=
  ∃ (i : Nat) (O : Option Addr) (on oc : Nat), k = .int .i64 i ∧ i + g = pn ∧ out = .slice O on oc ∧ Own wr (w.heap.size + 1) (.slice O on oc) (maN sg ps t i) ∧ Fs w wr A n c sg P pn ps ∧ Seg wr w.heap.size Q m t

end Go.Proofs.Ytkmhnkljigncmaa.matchList
end

section
/-
  CONTRACTS: spec.l1Has, l2Order, l2By, l2Renamed, Renamed; slices.Index. Conditions: the slices read as lists ('Seg'), at most 1048576 numbers. By an AI agent.
-/
namespace Go.Proofs.Ytkmhnkljigncmaa.rename
open Go.RowKit Go.Proofs.Ytkmhnkljigncmaa.base Go.Proofs.Ytkmhnkljigncmaa.ints Go.Proofs.Ytkmhnkljigncmaa.sig Go.Proofs.Ytkmhnkljigncmaa.term Go.Proofs.Ytkmhnkljigncmaa.termOk Go.Proofs.Ytkmhnkljigncmaa.marks Go.Proofs.Ytkmhnkljigncmaa.app Go.Proofs.Ytkmhnkljigncmaa.sym Go.Proofs.Ytkmhnkljigncmaa.segs Go.Proofs.Ytkmhnkljigncmaa.termFacts Go.Proofs.Ytkmhnkljigncmaa.varsMath Go.Proofs.Ytkmhnkljigncmaa.varsOf Go.Proofs.Ytkmhnkljigncmaa.renMath
set_option maxRecDepth 100000

theorem mem_of_get {t : List Int} {k : Nat} {x : Int} (hk : k < t.length) (hx : t.getD k 0 = x) : x ∈ t := by
  rw [← hx]
  simp [List.getD, hk]
theorem not_mem_of {t : List Int} {x : Int} (h : ∀ j, j < t.length → t.getD j 0 ≠ x) : x ∉ t := fun hx => by
  obtain ⟨j, hj, e⟩ := List.getElem_of_mem hx
  exact h j hj (by simp [List.getD, hj, e])

/-- the first k are other numbers -/
def HeadNo (n : Nat) (xs : List Int) (x : Int) (i : Value) : Prop := ∃ k : Nat, k ≤ n ∧ i = .int .i64 k ∧ ∀ j, j < k → xs.getD j 0 ≠ x
theorem headNo_step {n k : Nat} {xs : List Int} {x y : Int} (hk : k < n) (h : ∀ j, j < k → xs.getD j 0 ≠ x) (hy : Hid (xs.getD k 0 = y)) (hne : ¬ y = x) : HeadNo n xs x (.int .i64 ((k : Int) + 1)) :=
  ⟨k + 1, hk, by simp, fun j hj => by
    by_cases e : j = k
    · subst e; rw [hy.out]; exact hne
    · exact h j (by omega)⟩

set_option maxHeartbeats 1000000 in
theorem l1Has (A : Option Addr) (n c : Nat) (xs : List Int) (x : Int) (w : World) (h : Seg w w.heap.size A n xs) (hn : n ≤ 1048576) :
    Calls Try.prog 104 #[.slice A n c, .int .i64 x] w fun e w' => w = w' ∧ e = .returned (.bool (decide (x ∈ xs))) := by
  have HX := Lib.hid h.1
  go_enter Try.func104, Try.ntmps104
  go_wp2
  go_loop [5] (fun i => HeadNo n xs x i) (fun i => n - (intOf i).toNat)
  case atStart => exact ⟨0, Nat.zero_le _, rfl, fun j hj => absurd hj (Nat.not_lt_zero _)⟩
  case round =>
    obtain ⟨k, hk, rfl, hlow⟩ := hrel
    by_cases hlt : k < n
    · obtain ⟨b, off, y, rfl, -, hy, ey⟩ := h.spot hlt
      by_cases he : y = x
      · subst he
        have F := Lib.hid (show y ∈ xs from mem_of_get (by rw [HX.out]; exact hlt) ey.out)
        have e1 : (y == y) = true := by simp
        clear h ey hlow
        go_wp2
        go_ret
        exact ⟨rfl, by rw [decide_eq_true F.out]; rfl⟩
      · have S := Lib.hid (headNo_step hlt hlow ey he)
        have e1 : (y == x) = false := by simp [he]
        clear h ey hlow
        go_wp2
        go_round
        case rel => exact S.out
        case measure => simp [intOf]; omega
    · have F := Lib.hid (not_mem_of (t := xs) (x := x) (fun j hj => hlow j (by rw [HX.out] at hj; omega)))
      clear h hlow
      go_wp2
      go_ret
      exact ⟨rfl, by rw [decide_eq_false F.out]; rfl⟩

/-- what slices.Index answers -/
def indexI (xs : List Int) (x : Int) : Int := if x ∈ xs then (idx xs x : Int) else -1
set_option maxHeartbeats 1000000 in
theorem indexOf (A : Option Addr) (n c : Nat) (xs : List Int) (x : Int) (w : World) (h : Seg w w.heap.size A n xs) (hn : n ≤ 1048576) :
    Calls Try.prog 123 #[.slice A n c, .int .i64 x] w fun e w' => w = w' ∧ e = .returned (.int .i64 (indexI xs x)) := by
  have HX := Lib.hid h.1
  go_enter Try.func123, Try.ntmps123
  go_wp2
  go_loop [8] (fun i => HeadNo n xs x i) (fun i => n - (intOf i).toNat)
  case atStart => exact ⟨0, Nat.zero_le _, rfl, fun j hj => absurd hj (Nat.not_lt_zero _)⟩
  case round =>
    obtain ⟨k, hk, rfl, hlow⟩ := hrel
    by_cases hlt : k < n
    · obtain ⟨b, off, y, rfl, -, hy, ey⟩ := h.spot hlt
      by_cases he : y = x
      · subst he
        have F := Lib.hid (show indexI xs y = (k : Int) by
          have hkl : k < xs.length := by rw [HX.out]; exact hlt
          unfold indexI
          rw [if_pos (mem_of_get hkl ey.out), idx_first hkl hlow ey.out])
        have e1 : (y == y) = true := by simp
        clear h ey hlow
        go_wp2
        go_ret
        exact ⟨rfl, by rw [F.out]; rfl⟩
      · have S := Lib.hid (headNo_step hlt hlow ey he)
        have e1 : (x == y) = false := by simp; exact fun e => he e.symm
        clear h ey hlow
        go_wp2
        go_round
        case rel => exact S.out
        case measure => simp [intOf]; omega
    · have F := Lib.hid (show indexI xs x = -1 by unfold indexI; rw [if_neg (not_mem_of (fun j hj => hlow j (by rw [HX.out] at hj; omega)))])
      clear h hlow
      go_wp2
      go_ret
      exact ⟨rfl, by rw [F.out]; rfl⟩

/-- the head of l2Order's loop -/
def HeadOrd (w : World) (m : Nat) (t : List Int) (out i : Value) (wr : World) : Prop :=
  ∃ (k : Nat) (O : Option Addr) (on oc : Nat), k ≤ m ∧ i = .int .i64 k ∧ out = .slice O on oc ∧ Own wr w.heap.size (.slice O on oc) (orderL (t.take k)) ∧ Below w.heap.size w wr

set_option maxHeartbeats 2000000 in
theorem l2Order (A : Option Addr) (m c : Nat) (t : List Int) (w : World) (h : Seg w w.heap.size A m t) (hm : m ≤ 1048576) :
    Calls Try.prog 125 #[.slice A m c] w (AnsList w (orderL t)) := by
  have HL := Lib.hid h.1
  have S0 : HeadOrd w m t (.slice (some ⟨w.heap.size, 0, none⟩) 0 0) (.int .i64 0) (w.alloc (.cells #[] 2)) :=
    ⟨0, _, _, _, Nat.zero_le _, rfl, rfl, by simpa [orderL] using own_empty w w.heap.size (Nat.le_refl _), (Below.refl _ _).alloc (Nat.le_refl _) _⟩
  have HS0 := Lib.hid S0
  clear S0
  go_enter Try.func125, Try.ntmps125
  go_wp2_with fail
  go_loopw [3, 4] (fun out i wr => HeadOrd w m t out i wr) (fun _ i _ => m - (intOf i).toNat)
  case atStart => exact HS0.out
  case round =>
    obtain ⟨k, O, on, oc, hk, rfl, rfl, ho, hb⟩ := hrel
    clear HS0
    have hon : on ≤ m := by have h1 := Own.len ho; have h2 := order_len (t.take k); simp at h2; have h3 := HL.out; omega
    by_cases hlt : k < m
    · obtain ⟨b, off, x, rfl, hbb, hx, ex⟩ := h.spot hlt
      have hx1 : wr.cell? ⟨b, off + k, none⟩ = some (.int .i64 x) := (hb.cell (p := ⟨b, off + k, none⟩) hbb).trans hx
      have E := Lib.hid (order_take (t := t) (k := k) (by rw [HL.out]; exact hlt) ex.out)
      have hsz := hb.size
      clear hx h ex
      by_cases hneg : x < 0
      · have L := Lib.hid (l1Has O on oc _ x wr (Own.seg ho) (by omega))
        by_cases hin : x ∈ orderL (t.take k)
        · have R := Lib.hid (show extV (orderL (t.take k)) x = orderL (t.take k) by unfold extV ext; rw [if_pos hneg, if_pos hin])
          rw [decide_eq_true hin] at L
          have S : HeadOrd w m t (.slice O on oc) (.int .i64 ((k : Int) + 1)) wr := ⟨k + 1, O, on, oc, hlt, by simp, rfl, by rw [E.out, R.out]; exact ho, hb⟩
          replace S := Lib.hid S
          clear ho hb hin R E
          go_wp2_with fail
          refine L.out.mono ?_
          rintro e w' ⟨rfl, rfl⟩
          clear L
          go_wp2
          go_roundw
          case rel => exact S.out
          case measure => simp [intOf]; omega
        · have R := Lib.hid (show extV (orderL (t.take k)) x = orderL (t.take k) ++ [x] by unfold extV ext; rw [if_pos hneg, if_neg hin])
          rw [decide_eq_false hin] at L
          clear hin
          go_wp2_with fail
          refine L.out.mono ?_
          rintro e w' ⟨rfl, rfl⟩
          clear L
          go_wp2_with (at_builtin; refine app1 rfl _ _ rfl w.heap.size O on oc (orderL (t.take k)) rfl (Own.alloc ho _) wr.heap.size 1 x rfl ((Row.new _ _ _).cell 0) (by omega) (by simp; omega) ?_; intro O' oc' w2 ho2 b2)
          have S : HeadOrd w m t (.slice O' (on + 1) oc') (.int .i64 ((k : Int) + 1)) w2 := ⟨k + 1, O', on + 1, oc', hlt, by simp, rfl, by rw [E.out, R.out]; exact ho2, (hb.alloc hsz _).trans b2⟩
          replace S := Lib.hid S
          clear ho2 b2 ho hb R E
          go_wp2
          go_roundw
          case rel => exact S.out
          case measure => simp [intOf]; omega
      · have R := Lib.hid (show extV (orderL (t.take k)) x = orderL (t.take k) by unfold extV; rw [if_neg hneg])
        have S : HeadOrd w m t (.slice O on oc) (.int .i64 ((k : Int) + 1)) wr := ⟨k + 1, O, on, oc, hlt, by simp, rfl, by rw [E.out, R.out]; exact ho, hb⟩
        replace S := Lib.hid S
        have d1 : decide (x < 0) = false := by simp; omega
        clear ho hb R E
        go_wp2
        go_roundw
        case rel => exact S.out
        case measure => simp [intOf]; omega
    · have F : AnsList w (orderL t) (.returned (.slice O on oc)) wr := by
        rw [List.take_of_length_le (by rw [HL.out]; omega)] at ho
        exact ⟨O, on, oc, rfl, ho, hb⟩
      have HF := Lib.hid F
      clear F ho hb h
      go_wp2
      go_ret
      exact HF.out

/-- a number, when the first q places of the order have been looked at -/
def upTo (o : List Int) (x : Int) (q : Nat) : Int := if idx o x < q then -1 - (idx o x : Int) else x
/-- the head of the inner loop -/
def HeadIn (wr : World) (pn : Nat) (o : List Int) (x : Int) (n k : Value) (wi : World) : Prop := ∃ q d : Nat, q ≤ pn ∧ k = .int .i64 q ∧ n = .int .i64 (upTo o x q) ∧ wi = wr.drewN d
theorem upTo_yes {o : List Int} (hd : o.Nodup) {x : Int} {q : Nat} (hq : q < o.length) (h : o.getD q 0 = x) : upTo o x (q + 1) = -1 - (q : Int) := by
  unfold upTo
  rw [idx_nodup hd hq h, if_pos (by omega)]
theorem upTo_no {o : List Int} {x y : Int} {q : Nat} (hq : q < o.length) (h : o.getD q 0 = y) (hne : ¬ y = x) : upTo o x (q + 1) = upTo o x q := by
  unfold upTo
  have h1 : idx o x ≠ q := fun e => by
    by_cases hx : x ∈ o
    · have := idx_get hx
      rw [e, h] at this
      exact hne this
    · have := idx_not hx
      omega
  by_cases h2 : idx o x < q
  · rw [if_pos h2, if_pos (by omega)]
  · rw [if_neg h2, if_neg (by omega)]
/-- the head of the outer loop -/
def HeadBy (w : World) (m : Nat) (t o : List Int) (out i : Value) (wr : World) : Prop :=
  ∃ (k : Nat) (O : Option Addr) (on oc : Nat), k ≤ m ∧ i = .int .i64 k ∧ out = .slice O on oc ∧ Own wr w.heap.size (.slice O on oc) ((t.take k).map (ren o)) ∧ Below w.heap.size w wr

set_option maxHeartbeats 4000000 in
theorem l2By (P A : Option Addr) (pn pc m c : Nat) (o t : List Int) (w : World) (hp : Seg w w.heap.size P pn o) (h : Seg w w.heap.size A m t) (hpn : pn ≤ 1048576) (hm : m ≤ 1048576) (hd : o.Nodup) (ho : ∀ x ∈ t, x < 0 → x ∈ o) :
    Calls Try.prog 124 #[.slice P pn pc, .slice A m c] w (AnsList w (t.map (ren o))) := by
  have HL := Lib.hid h.1
  have HP := Lib.hid hp.1
  have HO := Lib.hid ho
  have HD := Lib.hid hd
  have S0 : HeadBy w m t o (.slice (some ⟨w.heap.size, 0, none⟩) 0 0) (.int .i64 0) (w.alloc (.cells #[] 2)) :=
    ⟨0, _, _, _, Nat.zero_le _, rfl, rfl, by simpa using own_empty w w.heap.size (Nat.le_refl _), (Below.refl _ _).alloc (Nat.le_refl _) _⟩
  have HS0 := Lib.hid S0
  clear S0 ho hd
  go_enter Try.func124, Try.ntmps124
  go_wp2_with fail
  go_loopw [5, 6] (fun out i wr => HeadBy w m t o out i wr) (fun _ i _ => m - (intOf i).toNat)
  case atStart => exact HS0.out
  case round =>
    obtain ⟨k, O, on, oc, hk, rfl, rfl, hown, hb⟩ := hrel
    clear HS0
    have hon : on ≤ m := by have h1 := Own.len hown; simp at h1; omega
    obtain ⟨wo, rfl⟩ : ∃ wo : World, wo = wr := ⟨_, rfl⟩
    by_cases hlt : k < m
    · obtain ⟨b, off, x, rfl, hbb, hx, ex⟩ := h.spot hlt
      have hx1 : wo.cell? ⟨b, off + k, none⟩ = some (.int .i64 x) := (hb.cell (p := ⟨b, off + k, none⟩) hbb).trans hx
      have hmem := mem_of_get (by rw [HL.out]; exact hlt) ex.out
      have E := Lib.hid (show (t.take (k + 1)).map (ren o) = (t.take k).map (ren o) ++ [ren o x] by rw [take_snoc (by rw [HL.out]; exact hlt) ex.out, List.map_append]; rfl)
      have hsz := hb.size
      have hpo := hp.below hb
      clear hx h ex
      by_cases hneg : x < 0
      · have hin := HO.out x hmem hneg
        have I0 : HeadIn wo pn o x (.int .i64 x) (.int .i64 0) wo := ⟨0, 0, Nat.zero_le _, rfl, by simp [upTo], rfl⟩
        have HI0 := Lib.hid I0
        have R := Lib.hid (show upTo o x pn = ren o x by unfold upTo ren; rw [if_pos hneg, if_pos (by rw [← HP.out]; exact idx_lt hin)])
        have REST := Lib.hid (fun (d : Nat) (O' : Option Addr) (oc' : Nat) (w2 : World) (ho2 : Own w2 w.heap.size (.slice O' (on + 1) oc') ((t.take k).map (ren o) ++ [ren o x])) (b2 : Below w.heap.size ((wo.drewN d).alloc (.cells #[.int .i64 (ren o x)] 2)) w2) =>
          (show HeadBy w m t o (.slice O' (on + 1) oc') (.int .i64 ((k : Int) + 1)) w2 from ⟨k + 1, O', on + 1, oc', hlt, by simp, rfl, by rw [E.out]; exact ho2, ((below_drewN hb d).alloc hsz _).trans b2⟩))
        clear I0 hin hmem hb
        go_wp2_with fail
        go_loopw [7, 8] (fun n q wi => HeadIn wo pn o x n q wi) (fun _ q _ => pn - (intOf q).toNat)
        case atStart => exact HI0.out
        case round =>
          obtain ⟨q, d, hq, rfl, rfl, hw⟩ := hrel
          clear HI0
          have hxr : wr.cell? ⟨b, off + k, none⟩ = some (.int .i64 x) := by rw [hw]; exact hx1
          have hpr : Seg wr w.heap.size P pn o := by rw [hw]; exact hpo
          have HW := Lib.hid hw
          clear hw
          by_cases hq2 : q < pn
          · obtain ⟨b2, off2, y, rfl, -, hy, ey⟩ := hpr.spot hq2
            by_cases he : y = x
            · have U := Lib.hid (upTo_yes HD.out (by rw [HP.out]; exact hq2) (ey.out.trans he))
              have S : ∀ nq : Nat, HeadIn wo pn o x (.int .i64 (-1 - (q : Int))) (.int .i64 ((q : Int) + 1)) (wr.drewN nq) := fun nq => ⟨q + 1, d + nq, hq2, by simp, by rw [U.out], by rw [HW.out, World.drewN_drewN]⟩
              replace S := Lib.hid S
              have e1 : (y == x) = true := by simp [he]
              clear hpr ey U hpo hp hx1 hown
              generalize upTo o x q = z at *
              go_wp2_with fail
              go_quiet (fail)
              go_wp2
              go_roundw
              case rel => exact S.out _
              case measure => simp [intOf]; omega
            · have U := Lib.hid (upTo_no (x := x) (by rw [HP.out]; exact hq2) ey.out he)
              have S : ∀ nq : Nat, HeadIn wo pn o x (.int .i64 (upTo o x q)) (.int .i64 ((q : Int) + 1)) (wr.drewN nq) := fun nq => ⟨q + 1, d + nq, hq2, by simp, by rw [U.out], by rw [HW.out, World.drewN_drewN]⟩
              replace S := Lib.hid S
              have e1 : (y == x) = false := by simp [he]
              clear hpr ey U hpo hp hx1 hown
              generalize upTo o x q = z at *
              go_wp2_with fail
              go_quiet (fail)
              go_wp2
              go_roundw
              case rel => exact S.out _
              case measure => simp [intOf]; omega
          · have hqp : q = pn := by omega
            subst hqp
            have hown2 : Own wr w.heap.size (.slice O on oc) ((t.take k).map (ren o)) := by rw [HW.out]; exact hown
            have hszr : w.heap.size ≤ wr.heap.size := by rw [HW.out]; exact hsz
            rw [R.out]
            clear hpr hpo hp hx1 hown
            generalize hz : ren o x = z at *
            go_wp2_with (at_builtin; refine app1 rfl _ _ rfl w.heap.size O on oc ((t.take k).map (ren o)) rfl (Own.alloc hown2 _) wr.heap.size 1 z rfl ((Row.new _ _ _).cell 0) (by omega) (by simp; omega) ?_; intro O' oc' w2 ho2 b2)
            have S := Lib.hid (REST.out d O' oc' w2 ho2 (by rw [← HW.out]; exact b2))
            clear ho2 b2 hown2 REST
            go_wp2
            go_roundw
            case rel => exact S.out
            case measure => simp [intOf]; omega
      · have RH := Lib.hid (show ren o x = x by unfold ren; rw [if_neg hneg])
        have d1 : decide (x < 0) = false := by simp; omega
        have REST := Lib.hid (fun (O' : Option Addr) (oc' : Nat) (w2 : World) (ho2 : Own w2 w.heap.size (.slice O' (on + 1) oc') ((t.take k).map (ren o) ++ [x])) (b2 : Below w.heap.size (wo.alloc (.cells #[.int .i64 x] 2)) w2) =>
          (show HeadBy w m t o (.slice O' (on + 1) oc') (.int .i64 ((k : Int) + 1)) w2 from ⟨k + 1, O', on + 1, oc', hlt, by simp, rfl, by rw [E.out, RH.out]; exact ho2, (hb.alloc hsz _).trans b2⟩))
        clear hmem hpo hb
        by_cases hp0 : 0 < pn
        all_goals
          go_wp2_with fail
          go_loopw [7, 8] (fun n q wi => n = .int .i64 x ∧ q = .int .i64 0 ∧ wi = wo) (fun _ _ _ => 0)
          case atStart => exact ⟨rfl, rfl, rfl⟩
          case round =>
            obtain ⟨rfl, rfl, hw⟩ := hrel
            subst hw
            go_wp2_with (at_builtin; refine app1 rfl _ _ rfl w.heap.size O on oc ((t.take k).map (ren o)) rfl (Own.alloc hown _) wr.heap.size 1 x rfl ((Row.new _ _ _).cell 0) (by omega) (by simp; omega) ?_; intro O' oc' w2 ho2 b2)
            have S := Lib.hid (REST.out O' oc' w2 ho2 b2)
            clear ho2 b2 hown REST
            go_wp2
            go_roundw
            case rel => exact S.out
            case measure => simp [intOf]; omega
    · have F : AnsList w (t.map (ren o)) (.returned (.slice O on oc)) wo := by
        rw [List.take_of_length_le (by rw [HL.out]; omega)] at hown
        exact ⟨O, on, oc, rfl, hown, hb⟩
      have HF := Lib.hid F
      clear F hown hb h hp
      go_wp2
      go_ret
      exact HF.out

set_option maxHeartbeats 1000000 in
theorem l2Renamed (A : Option Addr) (m c : Nat) (t : List Int) (w : World) (h : Seg w w.heap.size A m t) (hm : m ≤ 1048576) :
    Calls Try.prog 86 #[.slice A m c] w (AnsList w (renL t)) := by
  have L := Lib.hid (l2Order A m c t w h hm)
  have HL := Lib.hid h.1
  go_enter Try.func86, Try.ntmps86
  go_wp2_with fail
  refine L.out.mono ?_
  rintro e w1 ⟨P, pn, pc, rfl, o1, bb⟩
  have hpn : pn ≤ 1048576 := by rw [Own.len o1]; have := order_len t; have := HL.out; omega
  have L2 := Lib.hid (l2By P A pn pc m c (orderL t) t w1 (Own.seg o1) (h.next bb) hpn hm (order_nodup t) (fun x hx h0 => order_mem.2 ⟨hx, h0⟩))
  clear L o1 h
  go_wp2_with fail
  refine L2.out.mono ?_
  rintro e w2 ⟨Q, qn, qc, rfl, o2, b2⟩
  have F : AnsList w (renL t) (.returned (.slice Q qn qc)) w2 := ⟨Q, qn, qc, rfl, Own.lower o2 bb.size, next_trans bb b2⟩
  have HF := Lib.hid F
  clear F o2 b2 bb L2
  go_wp2
  go_ret
  exact HF.out

end Go.Proofs.Ytkmhnkljigncmaa.rename
end

section
/-
  CONTRACTS: impl.Renamed, its closure (which keeps a list of what it has seen in a variable of its caller), fill over that closure. Conditions: the slices read as lists ('Seg'), at most 1048576 numbers. By an AI agent.
-/
namespace Go.Proofs.Ytkmhnkljigncmaa.renImpl
open Go.RowKit Go.Proofs.Ytkmhnkljigncmaa.base Go.Proofs.Ytkmhnkljigncmaa.ints Go.Proofs.Ytkmhnkljigncmaa.sig Go.Proofs.Ytkmhnkljigncmaa.cursor Go.Proofs.Ytkmhnkljigncmaa.term Go.Proofs.Ytkmhnkljigncmaa.termOk Go.Proofs.Ytkmhnkljigncmaa.marks Go.Proofs.Ytkmhnkljigncmaa.app Go.Proofs.Ytkmhnkljigncmaa.appAt Go.Proofs.Ytkmhnkljigncmaa.sym Go.Proofs.Ytkmhnkljigncmaa.segs Go.Proofs.Ytkmhnkljigncmaa.termFacts Go.Proofs.Ytkmhnkljigncmaa.varsMath Go.Proofs.Ytkmhnkljigncmaa.fillMath Go.Proofs.Ytkmhnkljigncmaa.look Go.Proofs.Ytkmhnkljigncmaa.renMath Go.Proofs.Ytkmhnkljigncmaa.rename
set_option maxRecDepth 100000

/-- a number's variable -/
def vn (n : Int) : Int := -1 - n
theorem vn_inj : ∀ a b : Int, vn a = vn b → a = b := fun a b h => by unfold vn at h; omega

/-- only block p, row r and what is new have turned -/
structure Side (p : Nat) (r : Option Nat) (a b : World) : Prop where
  os : b.os = a.os
  tape : b.tape = a.tape
  output : b.output = a.output
  size : a.heap.size ≤ b.heap.size
  block : ∀ k, k < a.heap.size → k ≠ p → some k ≠ r → b.heap[k]? = a.heap[k]?
section
variable {p : Nat} {r : Option Nat} {a b c : World}
theorem Side.of_below (h : Below a.heap.size a b) : Side p r a b := ⟨h.os, h.tape, h.output, h.size, fun k hk _ _ => h.block k hk⟩
theorem Side.of_grown (h : a.grownBy b r) : Side p r a b := ⟨h.os, h.tape, h.output, h.size, fun k hk _ hr => h.block k hk hr⟩
theorem Side.of_var (h : a.grownBy b (some p)) : Side p r a b := ⟨h.os, h.tape, h.output, h.size, fun k hk hp _ => h.block k hk (fun e => by injection e with e; exact hp e)⟩
theorem Side.trans (h : Side p r a b) (k : Side p r b c) : Side p r a c :=
  ⟨k.os.trans h.os, k.tape.trans h.tape, k.output.trans h.output, Nat.le_trans h.size k.size, fun i hi hp hr => (k.block i (Nat.lt_of_lt_of_le hi h.size) hp hr).trans (h.block i hi hp hr)⟩
theorem Side.below (h : Side p r a b) (hr : ∀ k, r = some k → p ≤ k) (hp : p ≤ a.heap.size) : Below p a b :=
  ⟨h.os, h.tape, h.output, h.size, fun k hk => h.block k (by omega) (by omega) (fun e => by have := hr k e.symm; omega)⟩
/-- a slice of int64 in another row stays -/
theorem Own.side {base n cc : Nat} {O : Option Addr} {xs : List Int} {cs : Array Value} (h : Own a base (.slice O n cc) xs) (hs : Side p r a b) (hv : Row a p 24 cs) (hne : blk O = none ∨ blk O ≠ r) : Own b base (.slice O n cc) xs := by
  obtain ⟨q1, q2⟩ := h
  refine ⟨q1, ?_⟩
  rcases q2 with q2 | ⟨g, cap, cur, e, hg, hh, rest⟩
  · exact .inl q2
  · refine .inr ⟨g, cap, cur, e, hg, ?_, rest⟩
    have hlt : g < a.heap.size := (Array.getElem?_eq_some_iff.1 hh).1
    have hb : blk O = some g := by rw [← blk_own O n cc, e]; rfl
    have hgp : g ≠ p := Row.ne_ (t := 2) (t' := 24) hh hv (by decide)
    exact (hs.block g hlt hgp (by rw [hb] at hne; rcases hne with h | h; cases h; exact h)).trans hh
end

theorem own_ne {w : World} {base B n c : Nat} {S : Option Addr} {xs : List Int} {cs : Array Value} (h : Own w base (.slice S n c) xs) (hr : Row w B 24 cs) : blk S ≠ some B := by
  have hl := Own.len h
  rcases own_form (n := n) (vs := xs.map (Value.int .i64)) (by rw [hl]; rw [hl] at h; exact h) with ⟨rfl, _⟩ | ⟨g, cur, rfl, _, hrow, _⟩
  · intro e; cases e
  · intro e
    have e2 : g = B := Option.some.inj e
    exact Row.ne_ hr hrow (by decide) e2.symm
theorem one_seg (w : World) (y : Int) : Seg (w.alloc (.cells #[.int .i64 y] 2)) (w.alloc (.cells #[.int .i64 y] 2)).heap.size (some ⟨w.heap.size, 0, none⟩) 1 [y] :=
  (Row.new w 2 #[.int .i64 y]).seg rfl (by simp) (fun j hj => by
    have e : j = 0 := by omega
    subst e
    rfl)

/-- what the closure leaves -/
def AnsRen (W : World) (B : Nat) (S : Option Addr) (o : List Int) (x : Int) (e : Ending) (w' : World) : Prop :=
  ∃ A c S' sn' sc', e = .returned (.slice A 1 c) ∧ Seg w' w'.heap.size A 1 [-1 - (idx (ext o x) x : Int)] ∧ (A = none → c = 0) ∧ Row w' B 24 #[.slice S' sn' sc'] ∧
    Own w' (B + 1) (.slice S' sn' sc') ((ext o x).map vn) ∧ (blk S' = blk S ∨ ∃ k, blk S' = some k ∧ W.heap.size ≤ k) ∧ Side B (blk S) W w'

set_option maxHeartbeats 4000000 in
theorem ren1 (B : Nat) (S : Option Addr) (sn sc : Nat) (o : List Int) (x : Int) (W : World) (hr : Row W B 24 #[.slice S sn sc]) (ho : Own W (B + 1) (.slice S sn sc) (o.map vn)) (hx0 : -24 ≤ x) (hx1 : x < 0) (hsn : sn ≤ 60) :
    Calls Try.prog 122 #[.int .i64 (-1 - x), .pointer (some ⟨B, 0, none⟩)] W (AnsRen W B S o x) := by
  have hl := Own.len ho
  simp only [List.length_map] at hl
  have hlt := hr.lt
  have cB : W.cell? ⟨B, 0, none⟩ = some (.slice S sn sc) := hr.cell 0
  have fB : W.frozen? ⟨B, 0, none⟩ = false := hr.free 0
  have LI := Lib.hid (indexOf S sn sc (o.map vn) (-1 - x) W (Own.seg ho) (by omega))
  by_cases hin : x ∈ o
  · have hi : idx o x < o.length := idx_lt hin
    obtain ⟨q, hq⟩ : ∃ q, idx o x = q := ⟨_, rfl⟩
    have EI := Lib.hid (show indexI (o.map vn) (-1 - x) = (q : Int) by
      unfold indexI
      rw [show (-1 - x : Int) = vn x from rfl, if_pos ((mem_map_inj vn_inj).2 hin), idx_map vn_inj, hq])
    have EX := Lib.hid (show ext o x = o by unfold ext; rw [if_pos hin])
    have LV := Lib.hid (varTerm (q : Int) W (by omega) (by omega))
    have HQ := Lib.hid hq
    have hq60 : q ≤ 60 := by omega
    have HR := Lib.hid hr
    have HO := Lib.hid ho
    clear hin hi hq hl hr ho
    go_enter Try.func122, Try.ntmps122
    go_wp2_with fail
    refine LI.out.mono ?_
    rintro e w' ⟨rfl, he⟩
    rw [EI.out] at he
    subst he
    clear LI
    go_wp2_with fail
    refine LV.out.mono ?_
    rintro e w1 ⟨A, n, c, rfl, oq, bb⟩
    have hn1 := Own.len oq
    simp only [List.length_cons, List.length_nil] at hn1
    subst hn1
    have F : AnsRen W B S o x (.returned (.slice A 1 c)) w1 :=
      ⟨A, c, S, sn, sc, rfl, by rw [EX.out, HQ.out]; exact Own.seg oq, (own_cap oq).2.2, HR.out.next bb, by rw [EX.out]; exact HO.out.next bb, .inl rfl, Side.of_below bb⟩
    have HF := Lib.hid F
    clear F oq bb LV cB fB
    go_wp2
    go_ret
    exact HF.out
  · have EI := Lib.hid (show indexI (o.map vn) (-1 - x) = -1 by
      unfold indexI
      rw [show (-1 - x : Int) = vn x from rfl, if_neg (fun h => hin ((mem_map_inj vn_inj).1 h))])
    have EX := Lib.hid (show (ext o x).map vn = o.map vn ++ [-1 - x] by unfold ext; rw [if_neg hin, List.map_append]; rfl)
    have EQ := Lib.hid (show idx (ext o x) x = sn by unfold ext; rw [if_neg hin, idx_app_new hin, hl])
    have hne := own_ne ho hr
    have hr1 := hr.alloc (.cells #[.int .i64 (-1 - x)] 2)
    have ho1 := Own.alloc ho (.cells #[.int .i64 (-1 - x)] 2)
    have HNE := Lib.hid hne
    have HN := Lib.hid hl
    clear hin hl hr ho hne
    go_enter Try.func122, Try.ntmps122
    go_wp2_with fail
    refine LI.out.mono ?_
    rintro e w' ⟨rfl, he⟩
    rw [EI.out] at he
    subst he
    clear LI
    go_wp2_with (first
      | (at_builtin; refine appAllAt rfl _ _ rfl (B + 1) S sn sc (o.map vn) rfl ho1 (some ⟨W.heap.size, 0, none⟩) 1 1 (W.heap.size + 1) [-1 - x] rfl (by simpa using one_seg W (-1 - x)) (by omega) (by omega) (by omega) (by simp; omega) ?_; intro S' sc' w2 ho2 hg hat; have r2 := Row.away hr1 hg HNE.out; have cB2 : w2.cell? ⟨B, 0, none⟩ = some (.slice S sn sc) := r2.cell 0; have fB2 : w2.frozen? ⟨B, 0, none⟩ = false := r2.free 0)
      | (go_at_call 59; refine (varTerm (sn : Int) _ (by omega) (by omega)).mono ?_; rintro e w3 ⟨A, n, c, rfl, oq, bb⟩))
    have hn1 := Own.len oq
    simp only [List.length_cons, List.length_nil] at hn1
    subst hn1
    have r3 := r2.put 0 (.slice S' (sn + 1) sc')
    have hg3 : w2.grownBy (w2.setCell ⟨B, 0, none⟩ (.slice S' (sn + 1) sc')) (some B) := grown_put (World.grownBy.refl _ _) _ _
    have o3 := Own.far ho2 hg3 (fun k hk => by injection hk; omega)
    have sd : Side B (blk S) W w3 := (((Side.of_below ((Below.refl _ _).alloc (Nat.le_refl _) _)).trans (Side.of_grown hg)).trans (Side.of_var hg3)).trans (Side.of_below bb)
    have F : AnsRen W B S o x (.returned (.slice A 1 c)) w3 := by
      refine ⟨A, c, S', sn + 1, sc', rfl, by rw [EQ.out]; exact Own.seg oq, (own_cap oq).2.2, r3.next bb, by rw [EX.out]; exact o3.next bb, ?_, sd⟩
      rcases hat with h | h
      · exact .inl h
      · exact .inr ⟨_, h, by simp⟩
    have HF := Lib.hid F
    clear F oq bb r3 hg3 o3 sd hat hg ho2 r2 cB2 fB2 cB fB hr1 ho1
    go_wp2
    go_ret
    exact HF.out

/-- the head of fill's loop over this closure -/
def HeadRF (w : World) (B m : Nat) (t : List Int) (out i : Value) (wr : World) : Prop :=
  ∃ (k : Nat) (O : Option Addr) (on oc : Nat) (S : Option Addr) (sn sc : Nat), k ≤ m ∧ i = .int .i64 k ∧ out = .slice O on oc ∧ Own wr (B + 1) (.slice O on oc) (renL (t.take k)) ∧ Row wr B 24 #[.slice S sn sc] ∧
    Own wr (B + 1) (.slice S sn sc) ((orderL (t.take k)).map vn) ∧ (blk O = none ∨ blk O ≠ blk S) ∧ Below B w wr ∧ w.heap.size ≤ wr.heap.size
theorem ne_flip {a b : Option Nat} (h : a = none ∨ a ≠ b) : b = none ∨ b ≠ a := by
  cases b with
  | none => exact .inl rfl
  | some k =>
    right
    rintro rfl
    rcases h with h | h
    · cases h
    · exact h rfl
theorem blk_lt {w : World} {base : Nat} {A : Option Addr} {n c : Nat} {xs : List Int} (h : Own w base (.slice A n c) xs) : ∀ k, blk A = some k → base ≤ k ∧ k < w.heap.size := fun k hk => World.ownsRow.lt h k (by rw [blk_own]; exact hk)
theorem ne_new {w : World} {base : Nat} {S : Option Addr} {n c : Nat} {xs : List Int} {a : Option Nat} (h : Own w base (.slice S n c) xs) (q : Nat) (hq : w.heap.size ≤ q) (ha : a = some q) : a = none ∨ a ≠ blk S := by
  right
  rintro rfl
  have := (blk_lt h q ha).2
  omega

set_option maxHeartbeats 4000000 in
theorem fillRen (B : Nat) (A : Option Addr) (m c : Nat) (t : List Int) (w : World) (hr : Row w B 24 #[.slice none 0 0]) (h : Seg w B A m t) (hm : m ≤ 60) (hv : ∀ x ∈ t, -24 ≤ x) :
    Calls Try.prog 73 #[.func (.func 122) #[] #[.pointer (some ⟨B, 0, none⟩)], .slice A m c] w fun e w' => ∃ O n c, e = .returned (.slice O n c) ∧ Own w' (B + 1) (.slice O n c) (renL t) ∧ Below B w w' := by
  have HL := Lib.hid h.1
  have HV := Lib.hid hv
  have S0 : HeadRF w B m t (.slice none 0 0) (.int .i64 0) w := ⟨0, _, _, _, none, 0, 0, Nat.zero_le _, rfl, rfl, by simpa [renL] using Own.nil w (B + 1), hr, by simpa [orderL] using Own.nil w (B + 1), .inl rfl, Below.refl _ _, Nat.le_refl _⟩
  have HS0 := Lib.hid S0
  clear S0 hv hr
  go_enter Try.func73, Try.ntmps73
  go_wp2
  go_loopw [5, 10] (fun out i wr => HeadRF w B m t out i wr) (fun _ i _ => m - (intOf i).toNat)
  case atStart => exact HS0.out
  case round =>
    obtain ⟨k, O, on, oc, S, sn, sc, hk, rfl, rfl, ho, hr, hs, hne, hb, hz⟩ := hrel
    clear HS0
    have hon : on ≤ 60 := by rw [Own.len ho, ren_len]; simp; omega
    have hsn : sn ≤ 60 := by have h1 := Own.len hs; have h2 := order_len (t.take k); simp at h1 h2; omega
    have hBlt := hr.lt
    by_cases hlt : k < m
    · obtain ⟨b, off, x, rfl, hbb, hx, ex⟩ := h.spot hlt
      have hx1 : wr.cell? ⟨b, off + k, none⟩ = some (.int .i64 x) := (hb.cell (p := ⟨b, off + k, none⟩) hbb).trans hx
      have hmem := mem_of_get (by rw [HL.out]; exact hlt) ex.out
      have hx24 : -24 ≤ x := HV.out x hmem
      have E := Lib.hid (ren_take (t := t) (k := k) (by rw [HL.out]; exact hlt) ex.out)
      have EO := Lib.hid (order_take (t := t) (k := k) (by rw [HL.out]; exact hlt) ex.out)
      clear hmem hx h ex
      by_cases hpos : 0 ≤ x
      · have R := Lib.hid (show ren (extV (orderL (t.take k)) x) x = x by unfold ren; rw [if_neg (by omega)])
        have R2 := Lib.hid (show extV (orderL (t.take k)) x = orderL (t.take k) by unfold extV; rw [if_neg (by omega)])
        have ho1 := Own.alloc ho (.cells #[.int .i64 x] 2)
        have hs1 := Own.alloc hs (.cells #[.int .i64 x] 2)
        have hr1 := hr.alloc (.cells #[.int .i64 x] 2)
        go_wp2_with (at_builtin; refine appAllAt rfl _ _ rfl (B + 1) O on oc (renL (t.take k)) rfl ho1 (some ⟨wr.heap.size, 0, none⟩) 1 1 (wr.heap.size + 1) [x] rfl (by simpa using one_seg wr x) (by omega) (by omega) (by omega) (by simp; omega) ?_; intro O' oc' w2 ho2 hg hat)
        have S1 : HeadRF w B m t (.slice O' (on + 1) oc') (.int .i64 ((k : Int) + 1)) w2 := by
          refine ⟨k + 1, O', on + 1, oc', S, sn, sc, hlt, by simp, rfl, by rw [E.out, R.out]; exact ho2, Row.away hr1 hg (own_ne ho1 hr1), by rw [EO.out, R2.out]; exact Own.kept hs1 hg (ne_flip hne), ?_, ?_, ?_⟩
          · rcases hat with h | h
            · rw [h]; exact hne
            · exact ne_new hs1 _ (Nat.le_refl _) h
          · exact (hb.alloc (by omega) _).grown hg (by simp; omega) (fun q hq => by have := (blk_lt ho1 q hq).1; omega)
          · have := hg.size; simp at this; omega
        have S := Lib.hid S1
        clear S1 ho2 hg hat ho1 hs1 hr1 ho hs hr hne hb R R2 E EO
        go_wp2
        go_roundw
        case rel => exact S.out
        case measure => simp [intOf]; omega
      · have hneg : x < 0 := by omega
        have R := Lib.hid (show ren (extV (orderL (t.take k)) x) x = -1 - (idx (ext (orderL (t.take k)) x) x : Int) by unfold ren extV; rw [if_pos hneg, if_pos hneg])
        have R2 := Lib.hid (show extV (orderL (t.take k)) x = ext (orderL (t.take k)) x by unfold extV; rw [if_pos hneg])
        have L := Lib.hid (ren1 B S sn sc _ x wr hr hs hx24 hneg hsn)
        go_wp2_with (first
          | (go_at_call 122; refine L.out.mono ?_; rintro e w1 ⟨A1, c1, S1, sn1, sc1, rfl, s1, hc1, r1, os1, hat1, sd⟩; have ho1 := Own.side ho sd hr hne; have hz1 := sd.size; have hne1 : blk O = none ∨ blk O ≠ blk S1 := (by rcases hat1 with h | ⟨q, h, hq⟩; (rw [h]; exact hne); (rw [h]; exact (by cases e : blk O with | none => exact .inl rfl | some z => exact .inr (fun e2 => by injection e2 with e2; have := (blk_lt ho z e).2; omega)))))
          | (at_builtin; refine appAllAt rfl _ _ rfl (B + 1) O on oc (renL (t.take k)) rfl ho1 A1 1 c1 w1.heap.size _ rfl s1 (by omega) (by omega) (by omega) (by omega) ?_; intro O' oc' w2 ho2 hg hat))
        have SS : HeadRF w B m t (.slice O' (on + 1) oc') (.int .i64 ((k : Int) + 1)) w2 := by
          refine ⟨k + 1, O', on + 1, oc', S1, sn1, sc1, hlt, by simp, rfl, by rw [E.out, R.out]; exact ho2, Row.away r1 hg (own_ne ho1 r1), by rw [EO.out, R2.out]; exact Own.kept os1 hg (ne_flip hne1), ?_, ?_, ?_⟩
          · rcases hat with h | h
            · rw [h]; exact hne1
            · exact ne_new os1 _ (Nat.le_refl _) h
          · exact (hb.trans (sd.below (fun q hq => by have := (blk_lt hs q hq).1; omega) (by omega))).grown hg (by omega) (fun q hq => by have := (blk_lt ho1 q hq).1; omega)
          · have := hg.size; omega
        have HSS := Lib.hid SS
        clear SS ho2 hg hat ho1 s1 r1 os1 hat1 sd hne1 ho hs hr hne hb R R2 E EO L
        go_wp2
        go_roundw
        case rel => exact HSS.out
        case measure => simp [intOf]; omega
    · rw [List.take_of_length_le (by rw [HL.out]; omega)] at ho
      have HO := Lib.hid ho
      have HB := Lib.hid hb
      clear ho hs hr hne hb h
      go_wp2
      go_ret
      exact ⟨O, on, oc, rfl, HO.out, HB.out⟩

set_option maxHeartbeats 4000000 in
theorem implRenamed (A A' : Option Addr) (n c m c' : Nat) (sg t : List Int) (w : World) (h : Seg w w.heap.size A n sg) (h' : Seg w w.heap.size A' m t) (hn : n ≤ 1048576) (hm : m ≤ 1048576) :
    Calls Try.prog 84 #[.agg #[.slice A n c], .slice A' m c'] w (AnsList w (renI sg t)) := by
  obtain ⟨W, hW⟩ : ∃ W, W = w.alloc (.cells #[.slice A n c] 26) := ⟨_, rfl⟩
  have bel : Below w.heap.size w W := by rw [hW]; exact (Below.refl _ _).alloc (Nat.le_refl _) _
  have s := (h.below bel).more bel.size
  have s' := (h'.below bel).more bel.size
  have HW := Lib.hid hW
  have HL := Lib.hid h'.1
  have L := Lib.hid (implTermOk A A' n c m c' sg t W s s' hn hm)
  clear hW h h' s
  cases hok : termOkB sg t with
  | false =>
    have HS := Lib.hid hok
    clear hok s'
    go_enter Try.func84, Try.ntmps84
    go_wp2_with fail
    rw [← HW.out]
    refine L.out.mono ?_
    rintro e w1 ⟨he, bb⟩
    rw [HS.out] at he
    subst he
    have F : AnsList w (renI sg t) (.returned (.slice none 0 0)) w1 := ⟨_, _, _, rfl, by unfold renI; rw [if_neg (by rw [HS.out]; simp)]; exact Own.nil _ _, next_trans bel bb⟩
    have HF := Lib.hid F
    clear F bb bel
    go_wp2
    go_ret
    exact HF.out
  | true =>
    have HS := Lib.hid hok
    have HV := Lib.hid (fun x hx => (term_mem (x := x) hok hx).1)
    have H60 : m ≤ 60 := by rw [← HL.out]; exact (term_len hok).2
    have hmf : ∀ (fn : Fn) (first cap : Array Value) (w : World), (Instr.makeFunc fn first cap).run Try.prog w = .ok (.func fn first cap) w := fun _ _ _ _ => rfl
    clear hok
    go_enter Try.func84, Try.ntmps84
    go_wp2_with fail
    rw [← HW.out]
    refine L.out.mono ?_
    rintro e w1 ⟨he, bb⟩
    rw [HS.out] at he
    subst he
    replace bel := next_trans bel bb
    have s1 := (s'.next bb)
    have s2 := s1.alloc (Nat.le_refl _) (.cells #[.slice none 0 0] 24)
    have hz := bel.size
    have L2 := Lib.hid (fillRen w1.heap.size A' m c' t _ (Row.new w1 24 #[.slice none 0 0]) s2 H60 HV.out)
    clear bb L s' s1 s2
    go_wp2_with fail
    refine L2.out.mono ?_
    rintro e w2 ⟨O, on, oc, rfl, ho, bb⟩
    have F : AnsList w (renI sg t) (.returned (.slice O on oc)) w2 := ⟨O, on, oc, rfl, by unfold renI; rw [if_pos HS.out]; exact Own.lower ho (by omega), (bel.alloc hz _).trans (bb.mono hz)⟩
    have HF := Lib.hid F
    clear F ho bb bel L2 hmf
    go_wp2
    go_ret
    exact HF.out
end Go.Proofs.Ytkmhnkljigncmaa.renImpl
end

section
/-
  (the regions' walks by wip/tools/reg.py) CONTRACTS: spec.VariantIn, impl.VariantIn. Conditions: the slices read as lists ('Seg'), at most 1048576 numbers. By an AI agent.
-/
namespace Go.Proofs.Ytkmhnkljigncmaa.variant
open Go.RowKit Go.Proofs.Ytkmhnkljigncmaa.base Go.Proofs.Ytkmhnkljigncmaa.ints Go.Proofs.Ytkmhnkljigncmaa.sig Go.Proofs.Ytkmhnkljigncmaa.same Go.Proofs.Ytkmhnkljigncmaa.term Go.Proofs.Ytkmhnkljigncmaa.termOk Go.Proofs.Ytkmhnkljigncmaa.marks Go.Proofs.Ytkmhnkljigncmaa.sym Go.Proofs.Ytkmhnkljigncmaa.termFacts Go.Proofs.Ytkmhnkljigncmaa.varsOf Go.Proofs.Ytkmhnkljigncmaa.renMath Go.Proofs.Ytkmhnkljigncmaa.rename Go.Proofs.Ytkmhnkljigncmaa.renImpl
set_option maxRecDepth 100000

/-- what VariantIn answers -/
def variantB (sg a b : List Int) : Bool := termOkB sg a && (termOkB sg b && decide (renL a = renL b))
theorem variant_a {sg a b : List Int} (h : termOkB sg a = false) : variantB sg a b = false := by unfold variantB; rw [h, Bool.false_and]
theorem variant_b {sg a b : List Int} (h : termOkB sg b = false) : variantB sg a b = false := by unfold variantB; rw [h, Bool.false_and, Bool.and_false]
theorem variant_ab {sg a b : List Int} (h : termOkB sg a = true) (h' : termOkB sg b = true) : variantB sg a b = decide (renL a = renL b) := by unfold variantB; rw [h, h', Bool.true_and, Bool.true_and]

end Go.Proofs.Ytkmhnkljigncmaa.variant
end

section
/-
  CONTRACTS: spec.MostGeneral. Conditions: the slices read as lists ('Seg', 'Segs'), at most 1048576 numbers. (The regions' walks by wip/tools/reg.py.) By an AI agent.
-/
namespace Go.Proofs.Ytkmhnkljigncmaa.matchMost
open Go.RowKit Go.Proofs.Ytkmhnkljigncmaa.base Go.Proofs.Ytkmhnkljigncmaa.ints Go.Proofs.Ytkmhnkljigncmaa.sig Go.Proofs.Ytkmhnkljigncmaa.term Go.Proofs.Ytkmhnkljigncmaa.termOk Go.Proofs.Ytkmhnkljigncmaa.endAt Go.Proofs.Ytkmhnkljigncmaa.inside Go.Proofs.Ytkmhnkljigncmaa.marks Go.Proofs.Ytkmhnkljigncmaa.app Go.Proofs.Ytkmhnkljigncmaa.sym Go.Proofs.Ytkmhnkljigncmaa.segs Go.Proofs.Ytkmhnkljigncmaa.segsHelp Go.Proofs.Ytkmhnkljigncmaa.termFacts Go.Proofs.Ytkmhnkljigncmaa.renMath Go.Proofs.Ytkmhnkljigncmaa.varsOf Go.Proofs.Ytkmhnkljigncmaa.variant Go.Proofs.Ytkmhnkljigncmaa.pathSpec Go.Proofs.Ytkmhnkljigncmaa.matchMath Go.Proofs.Ytkmhnkljigncmaa.matchSpec Go.Proofs.Ytkmhnkljigncmaa.matchList
set_option maxRecDepth 100000

/-- what speaks against i at k -/
def hitB (sg : List Int) (ps : List (List Int)) (i k : Nat) : Bool := moreB sg (ps.getD k []) (ps.getD i []) || (decide (k < i) && variantB sg (ps.getD k []) (ps.getD i []))
def bestK (sg : List Int) (ps : List (List Int)) (i : Nat) : Nat → Bool
  | 0 => true
  | k + 1 => bestK sg ps i k && !hitB sg ps i k
theorem bestK_all {sg : List Int} {ps : List (List Int)} {i : Nat} : ∀ k, bestK sg ps i k = (List.range k).all fun j => !hitB sg ps i j
  | 0 => rfl
  | k + 1 => by
    rw [List.range_succ, List.all_append, ← bestK_all k]
    simp [bestK]
theorem bestK_best {sg : List Int} {ps : List (List Int)} {i : Nat} : bestK sg ps i ps.length = bestB sg ps i := by rw [bestK_all]; rfl
def mgN (sg : List Int) (ps : List (List Int)) : Nat → List Int
  | 0 => []
  | i + 1 => mgN sg ps i ++ (if bestB sg ps i = true then [(i : Int)] else [])
theorem mg_len {sg : List Int} {ps : List (List Int)} : ∀ k, (mgN sg ps k).length ≤ k
  | 0 => by simp [mgN]
  | k + 1 => by
    have := mg_len (sg := sg) (ps := ps) k
    simp only [mgN, List.length_append]
    split <;> simp <;> omega
def mgI (sg : List Int) (ps : List (List Int)) : List Int := if allB sg ps = true then mgN sg ps ps.length else []

def HeadMg (w : World) (A : Option Addr) (n c : Nat) (sg : List Int) (P : Option Addr) (pn : Nat) (ps : List (List Int)) (g : Nat) (out k : Value) (wr : World) : Prop :=
  ∃ (i : Nat) (O : Option Addr) (on oc : Nat), k = .int .i64 i ∧ i + g = pn ∧ out = .slice O on oc ∧ Own wr (w.heap.size + 1) (.slice O on oc) (mgN sg ps i) ∧ Fs w wr A n c sg P pn ps
def InMg (w : World) (A : Option Addr) (n c : Nat) (sg : List Int) (P : Option Addr) (pn : Nat) (ps : List (List Int)) (i : Nat) (O : Option Addr) (on oc : Nat) (g : Nat) (best k : Value) (wr : World) : Prop :=
  ∃ j : Nat, k = .int .i64 j ∧ j + g = pn ∧ best = .bool (bestK sg ps i j) ∧ Own wr (w.heap.size + 1) (.slice O on oc) (mgN sg ps i) ∧ Fs w wr A n c sg P pn ps

end Go.Proofs.Ytkmhnkljigncmaa.matchMost
end

section
/-
  CONTRACTS: impl.Matched, InstanceIn, MoreGeneral, termsOk. Conditions: the slices read as lists ('Seg', 'Segs'), at most 1048576 numbers. By an AI agent.
-/
namespace Go.Proofs.Ytkmhnkljigncmaa.matchImpl
open Go.RowKit Go.Proofs.Ytkmhnkljigncmaa.base Go.Proofs.Ytkmhnkljigncmaa.ints Go.Proofs.Ytkmhnkljigncmaa.sig Go.Proofs.Ytkmhnkljigncmaa.same Go.Proofs.Ytkmhnkljigncmaa.term Go.Proofs.Ytkmhnkljigncmaa.termOk Go.Proofs.Ytkmhnkljigncmaa.endAt Go.Proofs.Ytkmhnkljigncmaa.inside Go.Proofs.Ytkmhnkljigncmaa.marks Go.Proofs.Ytkmhnkljigncmaa.app Go.Proofs.Ytkmhnkljigncmaa.sym Go.Proofs.Ytkmhnkljigncmaa.sub Go.Proofs.Ytkmhnkljigncmaa.segs Go.Proofs.Ytkmhnkljigncmaa.segsHelp Go.Proofs.Ytkmhnkljigncmaa.kinds Go.Proofs.Ytkmhnkljigncmaa.termFacts Go.Proofs.Ytkmhnkljigncmaa.termMath Go.Proofs.Ytkmhnkljigncmaa.posMath Go.Proofs.Ytkmhnkljigncmaa.plainMath Go.Proofs.Ytkmhnkljigncmaa.plain Go.Proofs.Ytkmhnkljigncmaa.plainOf Go.Proofs.Ytkmhnkljigncmaa.gives Go.Proofs.Ytkmhnkljigncmaa.cursor Go.Proofs.Ytkmhnkljigncmaa.fillMath Go.Proofs.Ytkmhnkljigncmaa.matchMath Go.Proofs.Ytkmhnkljigncmaa.matchSpec Go.Proofs.Ytkmhnkljigncmaa.matchList Go.Proofs.Ytkmhnkljigncmaa.matchMost Go.Proofs.Ytkmhnkljigncmaa.whole Go.Proofs.Ytkmhnkljigncmaa.takeMath Go.Proofs.Ytkmhnkljigncmaa.take Go.Proofs.Ytkmhnkljigncmaa.extended
set_option maxRecDepth 100000

theorem plain_s0 : plainL (givesL s0) 24 = [] := by
  have h : ∀ i, 0 ≤ i → givesL s0 i = vt i := fun i _ => gives_var (by rw [s0_get]; rfl)
  rw [plain_24 (m := 0) (by omega) h]
  rfl
theorem res_get (R : Option (List (List Int))) : plainL (givesL (R.getD s0)) 24 = resL R := by
  cases R with
  | none => exact plain_s0
  | some s => rfl

set_option maxHeartbeats 1000000 in
theorem implMatched (A P Q : Option Addr) (n c pn pc m mc : Nat) (sg p t : List Int) (w : World) (h : Seg w w.heap.size A n sg) (hp : Seg w w.heap.size P pn p) (ht : Seg w w.heap.size Q m t) (hn : n ≤ 1048576) (hpn : pn ≤ 1048576) (hm : m ≤ 1048576) (hmc : m ≤ mc) (hmc2 : mc ≤ 9223372036854775807) :
    Calls Try.prog 82 #[.agg #[.slice A n c], .slice P pn pc, .slice Q m mc] w (AnsM w (resL (matchO sg p t)) (instB sg p t)) := by
  obtain ⟨W, hW⟩ : ∃ W, W = (w.alloc (.cells #[.slice A n c] 26)).alloc (.cells #[.slice none 0 0] 31) := ⟨_, rfl⟩
  have M : Mr w W A n c sg P pn p Q m t := by rw [hW]; exact Mr.start h hp ht
  have HW := Lib.hid hW
  have L := Lib.hid (implTermOk A P n c pn pc sg p W M.ss M.sp hn hpn)
  have c0 : W.cell? ⟨w.heap.size, 0, none⟩ = some (.slice A n c) := M.r0.cell 0
  have c00 : ((w.alloc (.cells #[.slice A n c] 26)).alloc (.cells #[.slice none 0 0] 31)).cell? ⟨w.heap.size, 0, none⟩ = some (.slice A n c) := by rw [← hW]; exact c0
  clear hW h hp ht
  cases hokp : termOkB sg p with
  | false =>
    have HS := Lib.hid hokp
    clear hokp
    go_enter Try.func82, Try.ntmps82
    go_wp2_with fail
    rw [← HW.out]
    refine L.out.mono ?_
    rintro e w1 ⟨he, bb⟩
    rw [HS.out] at he
    subst he
    replace M := M.next bb
    have cR : w1.cell? ⟨w.heap.size + 1, 0, none⟩ = some (.slice none 0 0) := M.r1.cell 0
    have fR : w1.frozen? ⟨w.heap.size + 1, 0, none⟩ = false := M.r1.free 0
    have F1 := Lib.hid (ansM_off (w := w) (t := t) (.inl HS.out) M.b)
    have F2 := Lib.hid (ansM_off (w := w) (t := t) (.inl HS.out) ((M.b).setCell (p := ⟨w.heap.size + 1, 0, none⟩) (show w.heap.size ≤ w.heap.size + 1 by omega) (.slice none 0 0)))
    clear M L bb c0 c00
    go_wp2
    first
      | exact bodyPost_ret (v := .tuple #[.agg #[.slice none 0 0], .bool false]) (by simp [results, Try.results82, go_sem, cR]) rfl F1.out
      | exact bodyPost_ret (v := .tuple #[.agg #[.slice none 0 0], .bool false]) (by simp [results, Try.results82, go_sem, cR]) rfl F2.out
  | true =>
    have HSP := Lib.hid hokp
    have hp60 : pn ≤ 60 := by have h1 := (termOk_parts hokp).2.1; rw [M.sp.1] at h1; exact h1
    clear hokp
    cases hokt : termOkB sg t with
    | false =>
      have HS := Lib.hid hokt
      clear hokt
      go_enter Try.func82, Try.ntmps82
      go_wp2_with fail
      rw [← HW.out]
      refine L.out.mono ?_
      rintro e w1 ⟨he, bb⟩
      rw [HSP.out] at he
      subst he
      replace M := M.next bb
      clear bb L c0 c00
      have c0 : w1.cell? ⟨w.heap.size, 0, none⟩ = some (.slice A n c) := M.r0.cell 0
      go_wp2_with fail
      refine (implTermOk A Q n c m mc sg t _ M.ss M.st hn hm).mono ?_
      rintro e w2 ⟨he, bb⟩
      rw [HS.out] at he
      subst he
      replace M := M.next bb
      have cR : w2.cell? ⟨w.heap.size + 1, 0, none⟩ = some (.slice none 0 0) := M.r1.cell 0
      have fR : w2.frozen? ⟨w.heap.size + 1, 0, none⟩ = false := M.r1.free 0
      have F1 := Lib.hid (ansM_off (w := w) (p := p) (.inr HS.out) M.b)
      have F2 := Lib.hid (ansM_off (w := w) (p := p) (.inr HS.out) ((M.b).setCell (p := ⟨w.heap.size + 1, 0, none⟩) (show w.heap.size ≤ w.heap.size + 1 by omega) (.slice none 0 0)))
      clear M bb c0
      go_wp2
      first
        | exact bodyPost_ret (v := .tuple #[.agg #[.slice none 0 0], .bool false]) (by simp [results, Try.results82, go_sem, cR]) rfl F1.out
        | exact bodyPost_ret (v := .tuple #[.agg #[.slice none 0 0], .bool false]) (by simp [results, Try.results82, go_sem, cR]) rfl F2.out
    | true =>
      have HST := Lib.hid hokt
      have hm60 : m ≤ 60 := by have h1 := (termOk_parts hokt).2.1; rw [M.st.1] at h1; exact h1
      have HMO := Lib.hid (match_yes HSP.out hokt)
      have HIO := Lib.hid (show instB sg p t = (mst sg t p 0 s0).isSome by unfold instB; rw [HMO.out])
      clear hokt
      go_enter Try.func82, Try.ntmps82
      go_wp2_with fail
      rw [← HW.out]
      refine L.out.mono ?_
      rintro e w1 ⟨he, bb⟩
      rw [HSP.out] at he
      subst he
      replace M := M.next bb
      clear bb L c0 c00
      have c0 : w1.cell? ⟨w.heap.size, 0, none⟩ = some (.slice A n c) := M.r0.cell 0
      go_wp2_with fail
      refine (implTermOk A Q n c m mc sg t _ M.ss M.st hn hm).mono ?_
      rintro e w2 ⟨he, bb⟩
      rw [HST.out] at he
      subst he
      replace M := M.next bb
      clear bb c0
      have c0 : w2.cell? ⟨w.heap.size, 0, none⟩ = some (.slice A n c) := M.r0.cell 0
      have LX : Calls Try.prog 120 #[.agg z24, .slice P pn pc, .agg #[.slice A n c, .slice Q m mc, .int .i64 0]] w2 (AnsExt w2 (mst sg t p 0 s0)) :=
        extended A P Q n c pn pc m mc sg p t 0 z24 s0 w2 M.ss M.sp M.st hn hp60 hm60 hmc hmc2 (by rw [← M.st.1]; exact (term_len HST.out).1) HSP.out HST.out (TabR.new _ _) (fun j => by rw [s0_get]; simp)
      obtain ⟨R, hR⟩ : ∃ R, mst sg t p 0 s0 = R := ⟨_, rfl⟩
      rw [hR] at LX
      have HR := Lib.hid hR
      have HLX := Lib.hid LX
      clear LX hR
      have zw := M.r1.lt
      go_wp2_with (first
        | (refine rowBuild rfl 114 rfl z24 built_b ?_)
        | (go_at_call 120; refine HLX.out.mono ?_; rintro e w3 ⟨cs, rfl, tab, hsz, bb⟩; have one := Lib.hid tab.one; have h24 := Lib.hid tab.1; have bb3 := bb)
        | (refine rowAlloc rfl 114 rfl z24 zero_b ?_)
        | (refine rowStore rfl 114 _ _ rfl w3.heap.size cs z24 114 rfl rfl (heap_alloc_new w3 _) (by rw [h24.out]; exact size_b) (by rw [h24.out]; rfl) one.out ?_; rw [World.setRow_alloc_new])
        | (refine wpList_load_row rfl 114 _ rfl w3.heap.size rfl 114 cs (0, 0) _ (heap_alloc_new w3 _) Try.underlying114 rfl (by rw [h24.out]; exact size_b) ?_))
      have M3 := M.next bb
      have B4 : Below w3.heap.size w3 (w3.alloc (.cells cs 114)) := (Below.refl _ _).alloc (Nat.le_refl _) _
      have tab4 : TabR (w3.alloc (.cells cs 114)) (w3.alloc (.cells cs 114)).heap.size cs (R.getD s0) := (tab.below (B4.mono bb.size)).more (by have := bb.size; simp; omega)
      have LP := Lib.hid (plainB cs (R.getD s0) _ tab4 hsz)
      have M4 := M3.next B4
      have HI2 := Lib.hid (show instB sg p t = R.isSome by rw [HIO.out, HR.out])
      have HM2 := Lib.hid (show resL (matchO sg p t) = resL R by rw [HMO.out, HR.out])
      rw [res_get] at LP
      clear M M3 tab4 tab hsz bb bb3 one h24 HLX B4 c0
      refine LP.out.mono ?_
      rintro e w5 ⟨D, dn, dc, rfl, od, bb⟩
      have M5 := M4.next bb
      have z4 := M4.b.size
      have z5 := M4.r1.lt
      have cR : w5.cell? ⟨w.heap.size + 1, 0, none⟩ = some (.slice none 0 0) := M5.r1.cell 0
      have fR : w5.frozen? ⟨w.heap.size + 1, 0, none⟩ = false := M5.r1.free 0
      obtain ⟨b, hb⟩ : ∃ b, R.isSome = b := ⟨_, rfl⟩
      rw [hb]
      have F : AnsM w (resL (matchO sg p t)) (instB sg p t) (.returned (.tuple #[.agg #[.slice D dn dc], .bool b])) (w5.setCell ⟨w.heap.size + 1, 0, none⟩ (.slice D dn dc)) := by
        rw [HI2.out, HM2.out, hb]
        have hbt : Btw (w.heap.size + 1) (w.heap.size + 2) w5 (w5.setCell ⟨w.heap.size + 1, 0, none⟩ (.slice D dn dc)) := Btw.of_grown (grown_put (World.grownBy.refl _ _) _ _) (fun k hk => by injection hk; omega)
        have o2 := od.btw hbt (.inr (by simp at z5 ⊢; omega))
        exact ⟨D, dn, dc, rfl, o2.wider (by simp at z4 ⊢; omega) (by simp), (M5.b).setCell (p := ⟨w.heap.size + 1, 0, none⟩) (show w.heap.size ≤ w.heap.size + 1 by omega) _⟩
      have HF := Lib.hid F
      clear F od bb M4 M5 HIO hb LP
      go_wp2
      exact bodyPost_ret (v := .tuple #[.agg #[.slice D dn dc], .bool b]) (by simp [results, Try.results82, go_sem, cR]) rfl HF.out

set_option maxHeartbeats 1000000 in
theorem implInstanceIn (A P Q : Option Addr) (n c pn pc m mc : Nat) (sg p t : List Int) (w : World) (h : Seg w w.heap.size A n sg) (hp : Seg w w.heap.size P pn p) (ht : Seg w w.heap.size Q m t) (hn : n ≤ 1048576) (hpn : pn ≤ 1048576) (hm : m ≤ 1048576) (hmc : m ≤ mc) (hmc2 : mc ≤ 9223372036854775807) :
    Calls Try.prog 30 #[.agg #[.slice A n c], .slice P pn pc, .slice Q m mc] w (Tells w (instB sg p t)) := by
  obtain ⟨W, hW⟩ : ∃ W, W = w.alloc (.cells #[.slice A n c] 26) := ⟨_, rfl⟩
  have bW : Below w.heap.size w W := by rw [hW]; exact (Below.refl _ _).alloc (Nat.le_refl _) _
  have HW := Lib.hid hW
  have L := Lib.hid (implMatched A P Q n c pn pc m mc sg p t W (h.next bW) (hp.next bW) (ht.next bW) hn hpn hm hmc hmc2)
  clear hW h hp ht
  generalize instB sg p t = b at *
  go_enter Try.func30, Try.ntmps30
  go_wp2_with fail
  rw [← HW.out]
  refine L.out.mono ?_
  rintro e w1 ⟨D, dn, dc, rfl, od, bb⟩
  have F := Lib.hid (fun o => (show Tells w b (.returned (.bool b)) (w1.alloc o) from ⟨rfl, (next_trans bW bb).alloc (next_trans bW bb).size _⟩))
  clear od bb L bW
  go_wp2
  go_ret
  exact F.out _
/-- so many are terms -/
def HeadTo (w : World) (A : Option Addr) (n c : Nat) (sg : List Int) (P : Option Addr) (pn : Nat) (ps : List (List Int)) (i : Value) (wr : World) : Prop :=
  ∃ k : Nat, i = .int .i64 k ∧ k ≤ pn ∧ (∀ j, j < k → termOkB sg (ps.getD j []) = true) ∧ Fs w wr A n c sg P pn ps
set_option maxHeartbeats 1000000 in
theorem implTermsOk (A P : Option Addr) (n c pn pc : Nat) (sg : List Int) (ps : List (List Int)) (w : World) (h : Seg w w.heap.size A n sg) (hp : Segs w w.heap.size P pn ps) (hn : n ≤ 1048576) (ht : tot ps ≤ 1048576) :
    Calls Try.prog 83 #[.agg #[.slice A n c], .slice P pn pc] w (Tells w (termsB sg ps)) := by
  obtain ⟨W, hW⟩ : ∃ W, W = w.alloc (.cells #[.slice A n c] 26) := ⟨_, rfl⟩
  have f : Fs w W A n c sg P pn ps := by rw [hW]; exact Fs.start h hp
  have HW := Lib.hid hW
  have HL := Lib.hid hp.1
  have HE := Lib.hid (tot_each ht)
  have hpn : pn ≤ 1048576 := tot_len hp.1 ht
  clear hW h hp ht
  by_cases hlong : 12 < pn
  · have F := Lib.hid (show Tells w (termsB sg ps) (.returned (.bool false)) W from ⟨by rw [terms_long (by rw [HL.out]; exact hlong)], f.b⟩)
    clear f
    go_enter Try.func83, Try.ntmps83
    go_wp2_with fail
    rw [← HW.out]
    go_ret
    exact F.out
  · have S0 : HeadTo w A n c sg P pn ps (.int .i64 0) W := ⟨0, rfl, Nat.zero_le _, fun j hj => absurd hj (Nat.not_lt_zero _), f⟩
    have HS0 := Lib.hid S0
    clear S0 f
    go_enter Try.func83, Try.ntmps83
    go_wp2_with fail
    rw [← HW.out]
    go_loopw [12] (fun i wr => HeadTo w A n c sg P pn ps i wr) (fun i _ => pn - (intOf i).toNat)
    case atStart => exact HS0.out
    case round =>
      obtain ⟨k, rfl, hk, hlow, f⟩ := hrel
      have HLOW := Lib.hid hlow
      clear hlow HS0
      by_cases hlt : k < pn
      · obtain ⟨b, off, D, dn, dc, rfl, hbb, hc, hsg, hcap⟩ := f.s'.spot hlt
        have hdn : dn ≤ 1048576 := by have := HE.out k; rw [hsg.1] at this; exact this
        have cA := f.cell
        have LT := Lib.hid (implTermOk A D n c dn dc sg (ps.getD k []) wr f.s1 (hsg.more (Nat.le_of_lt f.size)) hn hdn)
        clear hsg hcap
        cases hok : termOkB sg (ps.getD k []) with
        | false =>
          have HS := Lib.hid hok
          clear hok
          go_wp2_with fail
          refine LT.out.mono ?_
          rintro e w1 ⟨he, bb⟩
          rw [HS.out] at he
          subst he
          have F := Lib.hid (show Tells w (termsB sg ps) (.returned (.bool false)) w1 from ⟨by rw [terms_bad (by rw [HL.out]; exact hlt) HS.out], (f.next bb).b⟩)
          clear f bb cA LT hc
          go_wp2
          go_ret
          exact F.out
        | true =>
          have HS := Lib.hid hok
          clear hok
          go_wp2_with fail
          refine LT.out.mono ?_
          rintro e w1 ⟨he, bb⟩
          rw [HS.out] at he
          subst he
          have S : HeadTo w A n c sg (some ⟨b, off, none⟩) pn ps (.int .i64 ((k : Int) + 1)) w1 := ⟨k + 1, by simp, hlt, fun j hj => by
            by_cases e : j = k
            · rw [e]; exact HS.out
            · exact HLOW.out j (by omega), f.next bb⟩
          have HSS := Lib.hid S
          clear S f bb cA LT hc
          go_wp2
          go_roundw
          case rel => exact HSS.out
          case measure => simp [intOf]; omega
      · have F := Lib.hid (show Tells w (termsB sg ps) (.returned (.bool true)) wr from ⟨by rw [terms_good (by rw [HL.out]; omega) (fun i hi => HLOW.out i (by rw [HL.out] at hi; omega))], f.b⟩)
        clear f
        go_wp2
        go_ret
        exact F.out
end Go.Proofs.Ytkmhnkljigncmaa.matchImpl
end

section
/-
  CONTRACTS: spec.GeneralisedAll, impl.GeneralisedAll. Conditions: the slices read as lists ('Seg', 'Segs'), at most 1048576 numbers; what is told is given ('IsGA'). By an AI agent.
-/
namespace Go.Proofs.Ytkmhnkljigncmaa.genAll
open Go.RowKit Go.Proofs.Ytkmhnkljigncmaa.base Go.Proofs.Ytkmhnkljigncmaa.ints Go.Proofs.Ytkmhnkljigncmaa.sig Go.Proofs.Ytkmhnkljigncmaa.cursor Go.Proofs.Ytkmhnkljigncmaa.marks Go.Proofs.Ytkmhnkljigncmaa.app Go.Proofs.Ytkmhnkljigncmaa.sym Go.Proofs.Ytkmhnkljigncmaa.segs Go.Proofs.Ytkmhnkljigncmaa.segsHelp Go.Proofs.Ytkmhnkljigncmaa.kinds Go.Proofs.Ytkmhnkljigncmaa.term Go.Proofs.Ytkmhnkljigncmaa.termOk Go.Proofs.Ytkmhnkljigncmaa.termFacts Go.Proofs.Ytkmhnkljigncmaa.termMath Go.Proofs.Ytkmhnkljigncmaa.endAt Go.Proofs.Ytkmhnkljigncmaa.inside Go.Proofs.Ytkmhnkljigncmaa.look Go.Proofs.Ytkmhnkljigncmaa.renMath Go.Proofs.Ytkmhnkljigncmaa.renPure Go.Proofs.Ytkmhnkljigncmaa.rename Go.Proofs.Ytkmhnkljigncmaa.renImpl Go.Proofs.Ytkmhnkljigncmaa.matchMath Go.Proofs.Ytkmhnkljigncmaa.takeMath Go.Proofs.Ytkmhnkljigncmaa.matchSpec Go.Proofs.Ytkmhnkljigncmaa.matchList Go.Proofs.Ytkmhnkljigncmaa.matchImpl Go.Proofs.Ytkmhnkljigncmaa.unifMath Go.Proofs.Ytkmhnkljigncmaa.genMath Go.Proofs.Ytkmhnkljigncmaa.unifLaw Go.Proofs.Ytkmhnkljigncmaa.general Go.Proofs.Ytkmhnkljigncmaa.genImpl
set_option maxRecDepth 100000

/-- one after the other -/
def GA (sg : List Int) : List Int → List (List Int) → List Int → Prop
  | o, [], g => g = o
  | o, t :: r, g => ∃ o', IsG sg o t o' ∧ GA sg o' r g
/-- what is told of a list of lists -/
def IsGA (sg : List Int) (ts : List (List Int)) (g : List Int) : Prop :=
  (allB sg ts = true ∧ ∃ t r, ts = t :: r ∧ GA sg (renL t) r g) ∨ ((allB sg ts = false ∨ ts = []) ∧ g = [])
theorem ga_ex (sg : List Int) : ∀ (r : List (List Int)) (o : List Int), ∃ g, GA sg o r g
  | [], o => ⟨o, rfl⟩
  | t :: r, o => by
    obtain ⟨o', h⟩ := isG_ex sg o t
    obtain ⟨g, hg⟩ := ga_ex sg r o'
    exact ⟨g, o', h, hg⟩
theorem isGA_ex (sg : List Int) (ts : List (List Int)) : ∃ g, IsGA sg ts g := by
  cases h : allB sg ts with
  | false => exact ⟨[], .inr ⟨.inl h, rfl⟩⟩
  | true =>
    cases ts with
    | nil => exact ⟨[], .inr ⟨.inr rfl, rfl⟩⟩
    | cons t r =>
      obtain ⟨g, hg⟩ := ga_ex sg r (renL t)
      exact ⟨g, .inl ⟨h, t, r, rfl, hg⟩⟩
theorem isG_nil {sg t g : List Int} (h : IsG sg [] t g) : g = [] := isG_off h (.inl (by
  cases e : termOkB sg [] with
  | false => rfl
  | true => have := (term_len e).1; simp at this))
theorem ga_nil {sg g : List Int} : ∀ {r : List (List Int)}, GA sg [] r g → g = []
  | [], h => h
  | t :: r, h => by
    obtain ⟨o', h1, h2⟩ := h
    rw [isG_nil h1] at h2
    exact ga_nil h2
theorem isG_ok {sg a b g : List Int} (h : IsG sg a b g) : g = [] ∨ termOkB sg g = true := by
  by_cases e : g = []
  · exact .inl e
  · exact .inr (isG_facts h e).1
theorem isGA_off {sg : List Int} {ts : List (List Int)} {g : List Int} (h : IsGA sg ts g) (ho : allB sg ts = false ∨ ts.length = 0) : g = [] := by
  rcases h with ⟨h1, t, r, e, _⟩ | ⟨_, e⟩
  · rcases ho with ho | ho
    · rw [h1] at ho; cases ho
    · rw [e] at ho; simp at ho
  · exact e
theorem isGA_on {sg : List Int} {ts : List (List Int)} {g : List Int} (h : IsGA sg ts g) (h1 : allB sg ts = true) (h2 : 0 < ts.length) : GA sg (renL (ts.getD 0 [])) (ts.drop 1) g ∧ termOkB sg (ts.getD 0 []) = true := by
  rcases h with ⟨_, t, r, e, hg⟩ | ⟨ho, _⟩
  · subst e
    refine ⟨by simpa using hg, ?_⟩
    unfold allB at h1
    simp at h1
    simpa using h1.2.2.1
  · rcases ho with ho | ho
    · rw [h1] at ho; cases ho
    · rw [ho] at h2; simp at h2
theorem drop_more {ts : List (List Int)} {i : Nat} {t : List Int} (hi : i < ts.length) (ht : ts.getD i [] = t) : ts.drop i = t :: ts.drop (i + 1) := by
  rw [List.drop_eq_getElem_cons hi]
  rw [← ht]
  simp [List.getD, hi]
theorem ga_step {sg o g t : List Int} {ts : List (List Int)} {i : Nat} (h : GA sg o (ts.drop i) g) (hi : i < ts.length) (ht : ts.getD i [] = t) : ∃ o', IsG sg o t o' ∧ GA sg o' (ts.drop (i + 1)) g := by
  rw [drop_more hi ht] at h
  exact h
theorem ga_end {sg o g : List Int} {ts : List (List Int)} {i : Nat} (h : GA sg o (ts.drop i) g) (hi : ts.length ≤ i) : g = o := by
  rw [List.drop_eq_nil_of_le hi] at h
  exact h
theorem all_get {sg : List Int} {ts : List (List Int)} (h : allB sg ts = true) {i : Nat} (hi : i < ts.length) : termOkB sg (ts.getD i []) = true := by
  unfold allB at h
  rw [Bool.and_eq_true, Bool.and_eq_true] at h
  have := List.all_eq_true.1 h.2.2 ts[i] (List.getElem_mem hi)
  simpa [List.getD, hi] using this
theorem ga_len {sg g : List Int} : ∀ {r : List (List Int)} {o : List Int}, GA sg o r g → o.length ≤ 60 → g.length ≤ 60
  | [], o, h, hl => by rw [show g = o from h]; exact hl
  | t :: r, o, h, _ => by
    obtain ⟨o', h1, h2⟩ := h
    exact ga_len h2 (isG_len h1)
theorem isGA_len {sg : List Int} {ts : List (List Int)} {g : List Int} (h : IsGA sg ts g) : g.length ≤ 60 := by
  rcases h with ⟨h1, t, r, e, hg⟩ | ⟨_, e⟩
  · subst e
    have h0 := all_get h1 (i := 0) (by simp)
    have h0 : termOkB sg t = true := by simpa using h0
    exact ga_len hg (term_len (ren_ok h0)).2
  · rw [e]; simp

/-- the head of the loop -/
def HeadA (w : World) (A : Option Addr) (n c : Nat) (sg : List Int) (P : Option Addr) (pn : Nat) (ts : List (List Int)) (ys : List Int) (g : Nat) (r : Value) (wr : World) (i : Nat) : Prop :=
  ∃ (O : Option Addr) (on oc : Nat) (o : List Int), r = .slice O on oc ∧ i ≤ pn ∧ i + g = pn ∧ 1 ≤ i ∧ Own wr w.heap.size (.slice O on oc) o ∧ (o = [] ∨ termOkB sg o = true) ∧ GA sg o (ts.drop i) ys ∧ Fs w wr A n c sg P pn ts

set_option maxHeartbeats 4000000 in
theorem implGeneralisedAll (A P : Option Addr) (n c pn pc : Nat) (sg : List Int) (ts : List (List Int)) (w : World) (h : Seg w w.heap.size A n sg) (hp : Segs w w.heap.size P pn ts) (hn : n ≤ 1048576) (htot : tot ts ≤ 1048576) (hcp : pn ≤ pc) (hcp2 : pc ≤ 9223372036854775807) {ys : List Int} (hG : IsGA sg ts ys) :
    Calls Try.prog 31 #[.agg #[.slice A n c], .slice P pn pc] w (AnsList w ys) := by
  obtain ⟨W, hW⟩ : ∃ W, W = w.alloc (.cells #[.slice A n c] 26) := ⟨_, rfl⟩
  have f : Fs w W A n c sg P pn ts := by rw [hW]; exact Fs.start h hp
  have HW := Lib.hid hW
  have HL := Lib.hid hp.1
  have HE := Lib.hid (tot_each htot)
  have HTOT := Lib.hid htot
  have HG := Lib.hid hG
  have cA := f.cell
  have cA0 : (w.alloc (.cells #[.slice A n c] 26)).cell? ⟨w.heap.size, 0, none⟩ = some (.slice A n c) := by rw [← hW]; exact cA
  clear hW h hp htot hG
  by_cases h0 : pn = 0
  · subst h0
    obtain rfl := isGA_off HG.out (.inr HL.out)
    have F := Lib.hid (show AnsList w [] (.returned (.slice none 0 0)) W from ⟨none, 0, 0, rfl, Own.nil _ _, f.b⟩)
    clear f cA cA0 HG
    go_enter Try.func31, Try.ntmps31
    go_wp2_with fail
    rw [← HW.out]
    go_ret
    exact F.out
  · have hp0 : 0 < pn := by omega
    have d0 : ((pn : Int) == 0) = false := by simp; omega
    have LT := Lib.hid (implTermsOk A P n c pn pc sg ts W f.s1 (f.s'.more (Nat.le_of_lt f.size)) hn HTOT.out)
    cases hall : termsB sg ts with
    | false =>
      have HS := Lib.hid hall
      obtain rfl := isGA_off HG.out (.inl (by
        unfold allB
        rw [show (decide (ts.length ≤ 12) && ts.all (termOkB sg)) = false from hall, Bool.and_false]))
      clear hall
      go_enter Try.func31, Try.ntmps31
      go_wp2_with fail
      rw [← HW.out]
      refine LT.out.mono ?_
      rintro e w1 ⟨he, bb⟩
      rw [HS.out] at he
      subst he
      have F := Lib.hid (show AnsList w [] (.returned (.slice none 0 0)) w1 from ⟨none, 0, 0, rfl, Own.nil _ _, (f.next bb).b⟩)
      clear f bb LT cA cA0 HG
      go_wp2
      go_ret
      exact F.out
    | true =>
      have HS := Lib.hid hall
      have hp12 : pn ≤ 12 := by have h1 := (terms_parts hall).1; rw [HL.out] at h1; exact h1
      have h1st := (terms_parts hall).2 0 (by rw [HL.out]; exact hp0)
      have hAB : allB sg ts = true := by
        unfold allB
        rw [(termOk_parts h1st).1, show (decide (ts.length ≤ 12) && ts.all (termOkB sg)) = true from hall]
        rfl
      have HON := Lib.hid (isGA_on HG.out hAB (by rw [HL.out]; exact hp0))
      have HAB := Lib.hid hAB
      clear hall h1st hAB
      go_enter Try.func31, Try.ntmps31
      go_wp2_with fail
      rw [← HW.out]
      refine LT.out.mono ?_
      rintro e w1 ⟨he, bb⟩
      rw [HS.out] at he
      subst he
      replace f := f.next bb
      clear bb LT cA cA0
      obtain ⟨b, off, D, dn, dc, rfl, hbb, hc, hsg, hcap⟩ := f.s'.spot hp0
      have hdn : dn ≤ 1048576 := by have := HE.out 0; rw [hsg.1] at this; exact this
      have cA := f.cell
      have z0 := f.size
      have LR := Lib.hid (implRenamed A D n c dn dc sg (ts.getD 0 []) w1.drew f.drew.s1 (hsg.more (Nat.le_of_lt f.size)) hn hdn)
      have ER := Lib.hid (show renI sg (ts.getD 0 []) = renL (ts.getD 0 []) by unfold renI; rw [if_pos HON.out.2])
      rw [ER.out] at LR
      have HFD := Lib.hid f.drew
      clear hsg hcap f
      have hc0 : w1.cell? ⟨b, off, none⟩ = some (.slice D dn dc) := by simpa using hc
      clear hc
      have i0 : (0 : Int) < (pn : Int) := by omega
      go_wp2_with fail
      go_region_held3 (fun w' => w'.cell? ⟨w.heap.size, 0, none⟩ = some (.slice A n c) ∧ w'.cell? ⟨b, off, none⟩ = some (.slice D dn dc))
        (first | exact ⟨cA, hc0⟩ | exact ⟨y1, y2⟩)
        (first
          | (go_at_call 84; refine LR.out.mono ?_; rintro e w2 ⟨O, on, oc, rfl, ho, bb⟩; have f2 := HFD.out.next bb; have y1 := f2.cell; have y2 : w2.cell? ⟨b, off, none⟩ = some (.slice D dn dc) := (bb.cell (p := ⟨b, off, none⟩) (by show b < w1.heap.size; omega)).trans hc0))
      have HH := Lib.hid (show HeadA w A n c sg (some ⟨b, off, none⟩) pn ts ys (pn - 1) (.slice O on oc) w2 1 from ⟨O, on, oc, _, rfl, by omega, by omega, Nat.le_refl _, Own.lower ho HFD.out.b.size, .inr (ren_ok HON.out.2), HON.out.1, f2⟩)
      have HH2 := Lib.hid (show HeadA w A n c sg (some ⟨b, off, none⟩) pn ts ys (pn - 1) (.slice O on oc) w2 (0 + 1) from HH.out)
      by_cases hpc : pc = 1
      · have hp1 : pn = 1 := by omega
        clear f2 ho bb y1 y2 LR HON HG cA hc0 HFD
        go_wp2_with fail
        go_loopg [5, 25] (pn - 1) (fun g_ r k_ wr => ∃ i : Nat, k_ = .int .i64 (i : Int) ∧ HeadA w A n c sg (some ⟨b, off, none⟩) pn ts ys g_ r wr (i + 1))
        case atStart => exact ⟨0, rfl, HH2.out⟩
        case round =>
          obtain ⟨i, rfl, O, on, oc, o, rfl, hle, hgk, _, ho, hok, hga, f⟩ := hrel
          clear HH HH2
          have hys := ga_end hga (by rw [HL.out]; omega)
          have F := Lib.hid (show AnsList w ys (.returned (.slice O on oc)) wr from ⟨O, on, oc, rfl, by rw [hys]; exact ho, f.b⟩)
          have i2 : ¬ (i : Int) < ((pn - 1 : Nat) : Int) := by omega
          clear ho hok hga f hys hgk
          go_wp2
          go_ret
          exact F.out
      · clear f2 ho bb y1 y2 LR HON HG cA hc0 HFD
        go_wp2_with fail
        go_loopg [5, 25] (pn - 1) (fun g_ r k_ wr => ∃ i : Nat, k_ = .int .i64 (i : Int) ∧ HeadA w A n c sg (some ⟨b, off, none⟩) pn ts ys g_ r wr (i + 1))
        case atStart => exact ⟨0, rfl, HH2.out⟩
        case round =>
          obtain ⟨i, rfl, O, on, oc, o, rfl, hle, hgk, _, ho, hok, hga, f⟩ := hrel
          clear HH HH2
          by_cases hip : i < pn - 1
          · obtain ⟨b2, off2, D2, dn2, dc2, e, hbb2, hc2, hsg, hcap⟩ := f.s'.spot (show i + 1 < pn by omega)
            injection e with e
            injection e with e1 e2
            subst e1
            subst e2
            have hc1 : wr.cell? ⟨b, off + 1 + i, none⟩ = some (.slice D2 dn2 dc2) := by rw [show off + 1 + i = off + (i + 1) by omega]; exact hc2
            have hdn2 : dn2 ≤ 1048576 := by have := HE.out (i + 1); rw [hsg.1] at this; exact this
            have hon : on ≤ 1048576 := by
              rw [Own.len ho]
              rcases hok with hok | hok
              · rw [hok]; simp
              · have := (term_len hok).2; omega
            obtain ⟨o', hG', hga'⟩ := ga_step hga (show i + 1 < ts.length by rw [HL.out]; omega) rfl
            have ko := look.own_cap ho
            have LG := Lib.hid (implGeneralised A O D2 n c on oc dn2 dc2 sg o (ts.getD (i + 1) []) wr o' hG' f.s1 (Own.seg ho) (hsg.more (Nat.le_of_lt f.size)) hn hon hdn2 ⟨ko.1, ko.2.1⟩ ⟨hcap.1, hcap.2.1⟩)
            have cA := f.cell
            have i1 : (i : Int) < ((pn - 1 : Nat) : Int) := by omega
            have i0 : (0 : Int) ≤ (i : Int) := by omega
            have HF := Lib.hid f
            have HGA := Lib.hid hga'
            have HOK := Lib.hid (isG_ok hG')
            have hgk2 := Lib.hid (show gk - 1 < gk ∧ i + 1 + 1 + (gk - 1) = pn ∧ i + 1 + 1 ≤ pn by omega)
            clear hsg hcap hc2 ko hG' hga' hga hok ho f hgk
            go_wp2_with fail
            refine LG.out.mono ?_
            rintro e w3 ⟨O', on', oc', rfl, ho', bb⟩
            have f3 := HF.out.next bb
            have S : HeadA w A n c sg (some ⟨b, off, none⟩) pn ts ys (gk - 1) (.slice O' on' oc') w3 (i + 1 + 1) := ⟨O', on', oc', o', rfl, hgk2.out.2.2, hgk2.out.2.1, by omega, Own.lower ho' HF.out.b.size, HOK.out, HGA.out, f3⟩
            have HSS := Lib.hid S
            clear S ho' bb f3 LG cA hc1 HF HGA HOK
            go_wp2
            go_roundg (gk - 1)
            case measure => exact hgk2.out.1
            case rel => exact ⟨i + 1, by simp, HSS.out⟩
          · have hys := ga_end hga (by rw [HL.out]; omega)
            have F := Lib.hid (show AnsList w ys (.returned (.slice O on oc)) wr from ⟨O, on, oc, rfl, by rw [hys]; exact ho, f.b⟩)
            have i2 : ¬ (i : Int) < ((pn - 1 : Nat) : Int) := by omega
            clear ho hok hga f hys hgk
            go_wp2
            go_ret
            exact F.out


theorem isG_gs {sg a b o' : List Int} (h : IsG sg a b o') (ha : termOkB sg a = true) (hb : termOkB sg b = true) : ∃ G T', Gs sg [] 1 a b G T' ∧ o' = if T'.length ≤ 24 then G else [] := by
  rcases h with ⟨_, _, G, T', h, e⟩ | ⟨h, _⟩
  · exact ⟨G, T', h, e⟩
  · rcases h with h | h
    · rw [ha] at h; cases h
    · rw [hb] at h; cases h

set_option maxHeartbeats 4000000 in
theorem specGeneralisedAll (A P : Option Addr) (n c pn pc : Nat) (sg : List Int) (ts : List (List Int)) (w : World) (h : Seg w w.heap.size A n sg) (hp : Segs w w.heap.size P pn ts) (hn : n ≤ 1048576) (htot : tot ts ≤ 1048576) {ys : List Int} (hG : IsGA sg ts ys) :
    Calls Try.prog 32 #[.agg #[.slice A n c], .slice P pn pc] w (AnsList w ys) := by
  obtain ⟨W, hW⟩ : ∃ W, W = w.alloc (.cells #[.slice A n c] 26) := ⟨_, rfl⟩
  have f : Fs w W A n c sg P pn ts := by rw [hW]; exact Fs.start h hp
  have HW := Lib.hid hW
  have HL := Lib.hid hp.1
  have HE := Lib.hid (tot_each htot)
  have HTOT := Lib.hid htot
  have HG := Lib.hid hG
  have LT := Lib.hid (l4All A P n c pn pc sg ts W f.s1 (f.s'.more (Nat.le_of_lt f.size)) hn HTOT.out)
  clear hW h hp htot hG
  cases hall : allB sg ts with
  | false =>
    have HS := Lib.hid hall
    obtain rfl := isGA_off HG.out (.inl hall)
    clear hall
    go_enter Try.func32, Try.ntmps32
    go_wp2_with fail
    rw [← HW.out]
    refine LT.out.mono ?_
    rintro e w1 ⟨he, bb⟩
    rw [HS.out] at he
    subst he
    have B := (f.next bb).b
    have F := Lib.hid (show AnsList w [] (.returned (.slice (some ⟨w1.heap.size, 0, none⟩) 0 0)) (w1.alloc (.cells #[] 2)) from ⟨_, 0, 0, rfl, own_empty w1 _ B.size, B.alloc B.size _⟩)
    clear f bb LT HG B
    go_wp2
    go_ret
    exact F.out
  | true =>
    have HS := Lib.hid hall
    have HAB := Lib.hid hall
    have hp12 : pn ≤ 12 := by
      have h := hall
      unfold allB at h
      rw [Bool.and_eq_true, Bool.and_eq_true] at h
      have := of_decide_eq_true h.2.1
      rw [HL.out] at this
      exact this
    by_cases h0 : pn = 0
    · subst h0
      obtain rfl := isGA_off HG.out (.inr HL.out)
      clear hall
      go_enter Try.func32, Try.ntmps32
      go_wp2_with fail
      rw [← HW.out]
      refine LT.out.mono ?_
      rintro e w1 ⟨he, bb⟩
      rw [HS.out] at he
      subst he
      have B := (f.next bb).b
      have F := Lib.hid (show AnsList w [] (.returned (.slice (some ⟨w1.heap.size, 0, none⟩) 0 0)) (w1.alloc (.cells #[] 2)) from ⟨_, 0, 0, rfl, own_empty w1 _ B.size, B.alloc B.size _⟩)
      clear f bb LT HG B
      go_wp2
      go_ret
      exact F.out
    · have hp0 : 0 < pn := by omega
      have d0 : ((pn : Int) == 0) = false := by simp; omega
      have HON := Lib.hid (isGA_on HG.out hall (by rw [HL.out]; exact hp0))
      clear hall
      go_enter Try.func32, Try.ntmps32
      go_wp2_with fail
      rw [← HW.out]
      refine LT.out.mono ?_
      rintro e w1 ⟨he, bb⟩
      rw [HS.out] at he
      subst he
      replace f := f.next bb
      clear bb LT
      obtain ⟨b, off, D, dn, dc, rfl, hbb, hc, hsg, hcap⟩ := f.s'.spot hp0
      have hdn : dn ≤ 1048576 := by have := HE.out 0; rw [hsg.1] at this; exact this
      have LR := Lib.hid (l2Renamed D dn dc (ts.getD 0 []) w1 (hsg.more (Nat.le_of_lt f.size)) hdn)
      have HFD := Lib.hid f
      clear hsg hcap f
      have hc0 : w1.cell? ⟨b, off, none⟩ = some (.slice D dn dc) := by simpa using hc
      clear hc
      have i0 : (0 : Int) < (pn : Int) := by omega
      go_wp2_with fail
      refine LR.out.mono ?_
      rintro e w2 ⟨O, on, oc, rfl, ho, bb⟩
      have f2 := HFD.out.next bb
      have HH := Lib.hid (show HeadA w A n c sg (some ⟨b, off, none⟩) pn ts ys (pn - 1) (.slice O on oc) w2 1 from ⟨O, on, oc, _, rfl, by omega, by omega, Nat.le_refl _, Own.lower ho HFD.out.b.size, .inr (ren_ok HON.out.2), HON.out.1, f2⟩)
      clear f2 ho bb LR HON HG hc0 HFD
      go_wp2_with fail
      go_loopg [5, 6] (pn - 1) (fun g_ r k_ wr => ∃ i : Nat, k_ = .int .i64 (i : Int) ∧ HeadA w A n c sg (some ⟨b, off, none⟩) pn ts ys g_ r wr i)
      case atStart => exact ⟨1, rfl, HH.out⟩
      case round =>
        obtain ⟨i, rfl, O, on, oc, o, rfl, hle, hgk, hi1, ho, hok, hga, f⟩ := hrel
        clear HH
        have hon : on ≤ 1048576 := by
          rw [Own.len ho]
          rcases hok with hok | hok
          · rw [hok]; simp
          · have := (term_len hok).2; omega
        have i0' : (0 : Int) ≤ (i : Int) := by omega
        by_cases hip : i < pn
        · have i1 : (i : Int) < (pn : Int) := by omega
          by_cases hon0 : on = 0
          · subst hon0
            have ho0 : o = [] := List.eq_nil_of_length_eq_zero (Own.len ho).symm
            subst ho0
            have hys := ga_nil hga
            have F := Lib.hid (show AnsList w ys (.returned (.slice O 0 oc)) wr from ⟨O, 0, oc, rfl, by rw [hys]; exact ho, f.b⟩)
            clear ho hok hga f hys hgk
            go_wp2
            go_ret
            exact F.out
          · have hon1 : (0 : Int) < (on : Int) := by omega
            have hoke : termOkB sg o = true := by
              rcases hok with hok | hok
              · exact absurd (by rw [Own.len ho, hok]; rfl) hon0
              · exact hok
            obtain ⟨b2, off2, D2, dn2, dc2, e, hbb2, hc2, hsg, hcap⟩ := f.s'.spot hip
            injection e with e
            injection e with e1 e2
            subst e1
            subst e2
            have hdn2 : dn2 ≤ 1048576 := by have := HE.out i; rw [hsg.1] at this; exact this
            have hokt := all_get HAB.out (i := i) (by rw [HL.out]; exact hip)
            obtain ⟨o', hG', hga'⟩ := ga_step hga (show i < ts.length by rw [HL.out]; exact hip) rfl
            obtain ⟨GG, TT, hGs, ho'⟩ := isG_gs hG' hoke hokt
            have ko := look.own_cap ho
            have fd := f.drew
            have LG := Lib.hid (l5Least A O D2 n c on oc dn2 dc2 sg o (ts.getD i []) wr.drew fd.s1 (Own.seg ho) (hsg.more (Nat.le_of_lt f.size)) hn hon hdn2 ⟨ko.1, ko.2.1⟩ ⟨hcap.1, hcap.2.1⟩ (sig_arities (termOk_parts hoke).1).1 (term_parts hoke).2.2 (term_parts hokt).2.2 GG TT hGs)
            rw [← ho'] at LG
            have cA := f.cell
            have HF := Lib.hid fd
            have HGA := Lib.hid hga'
            have HOK := Lib.hid (isG_ok hG')
            have hgk2 := Lib.hid (show gk - 1 < gk ∧ i + 1 + (gk - 1) = pn ∧ i + 1 ≤ pn by omega)
            have zf := f.size
            clear hsg hcap ko hG' hga' hga hok ho f fd hgk hGs ho' hoke hokt
            go_wp2_with fail
            go_region_held3 (fun w' => w'.cell? ⟨w.heap.size, 0, none⟩ = some (.slice A n c) ∧ w'.cell? ⟨b, off + i, none⟩ = some (.slice D2 dn2 dc2))
              (first | exact ⟨cA, hc2⟩ | exact ⟨y1, y2⟩)
              (first
                | (go_at_call 79; refine LG.out.mono ?_; rintro e w3 ⟨O', on', oc', rfl, ho', bb⟩; have f3 := HF.out.next bb; have y1 := f3.cell; have y2 : w3.cell? ⟨b, off + i, none⟩ = some (.slice D2 dn2 dc2) := (bb.cell (p := ⟨b, off + i, none⟩) (by show b < wr.heap.size; omega)).trans hc2))
            have S : HeadA w A n c sg (some ⟨b, off, none⟩) pn ts ys (gk - 1) (.slice O' on' oc') w3 (i + 1) := ⟨O', on', oc', o', rfl, hgk2.out.2.2, hgk2.out.2.1, by omega, Own.lower ho' HF.out.b.size, HOK.out, HGA.out, f3⟩
            have HSS := Lib.hid S
            clear S ho' bb f3 LG cA hc2 HF HGA HOK y1 y2
            go_wp2
            go_roundg (gk - 1)
            case measure => exact hgk2.out.1
            case rel => exact ⟨i + 1, by simp, HSS.out⟩
        · have hys := ga_end hga (by rw [HL.out]; omega)
          have F := Lib.hid (show AnsList w ys (.returned (.slice O on oc)) wr from ⟨O, on, oc, rfl, by rw [hys]; exact ho, f.b⟩)
          have i2 : ¬ (i : Int) < (pn : Int) := by omega
          clear ho hok hga f hys hgk
          go_wp2
          go_ret
          exact F.out
theorem specGeneralisedAllX (A P : Option Addr) (n c pn pc : Nat) (sg : List Int) (ts : List (List Int)) (w : World) (h : Seg w w.heap.size A n sg) (hp : Segs w w.heap.size P pn ts) (hn : n ≤ 1048576) (htot : tot ts ≤ 1048576) (_ : pn ≤ pc) (_ : pc ≤ 9223372036854775807) {ys : List Int} (hG : IsGA sg ts ys) :
    Calls Try.prog 32 #[.agg #[.slice A n c], .slice P pn pc] w (AnsList w ys) := specGeneralisedAll A P n c pn pc sg ts w h hp hn htot hG
end Go.Proofs.Ytkmhnkljigncmaa.genAll
end

section
/-
  THE WALK of laws.FnExactGeneralisedAll: it returns true, whatever the arguments, and writes nothing that was there. Conditions: the slices read as lists. Written by a program of mine (gen_exact.py). By an AI agent.
-/
namespace Go.Proofs.Ytkmhnkljigncmaa.wGeneralisedAll
open Go.RowKit Go.Proofs.Ytkmhnkljigncmaa.base Go.Proofs.Ytkmhnkljigncmaa.ints Go.Proofs.Ytkmhnkljigncmaa.sig Go.Proofs.Ytkmhnkljigncmaa.cursor Go.Proofs.Ytkmhnkljigncmaa.marks Go.Proofs.Ytkmhnkljigncmaa.app Go.Proofs.Ytkmhnkljigncmaa.sym Go.Proofs.Ytkmhnkljigncmaa.appAt Go.Proofs.Ytkmhnkljigncmaa.segs Go.Proofs.Ytkmhnkljigncmaa.segsHelp Go.Proofs.Ytkmhnkljigncmaa.segsMark Go.Proofs.Ytkmhnkljigncmaa.kinds Go.Proofs.Ytkmhnkljigncmaa.kindsSS Go.Proofs.Ytkmhnkljigncmaa.unifLaw Go.Proofs.Ytkmhnkljigncmaa.general Go.Proofs.Ytkmhnkljigncmaa.genImpl Go.Proofs.Ytkmhnkljigncmaa.genAll
set_option maxRecDepth 100000

set_option maxHeartbeats 8000000 in
theorem law (a0 : Option Addr) (n0 c0 : Nat) (xs0 : List Int) (a1 : Option Addr) (n1 c1 : Nat) (xs1 : List (List Int)) (w : World) (s0 : Seg w w.heap.size a0 n0 xs0) (hN0 : n0 ≤ 9223372036854775807) (s1 : Segs w w.heap.size a1 n1 xs1) (hN1 : n1 ≤ 9223372036854775807) :
    Calls Try.prog 11 #[.agg #[.slice a0 n0 c0], .slice a1 n1 c1] w (Fine w) := by
  obtain ⟨gg, hG⟩ := isGA_ex xs0 xs1
  obtain ⟨W, hW⟩ : ∃ W, W = w.alloc (.cells #[.slice a0 n0 c0] 44) := ⟨_, rfl⟩
  have rA0 : Row W (w.heap.size) 44 #[.slice a0 n0 c0] := by rw [hW]; have := Row.new (w) 44 #[.slice a0 n0 c0]; simpa using this
  have bW : Below w.heap.size w W := by rw [hW]; exact (Below.refl w.heap.size w).alloc (by simp) (.cells #[.slice a0 n0 c0] 44)
  have zA0 := rA0.lt
  replace s0 := s0.next bW
  have Hl0 := Lib.hid s0.1
  replace s1 := s1.next bW
  have Hl1 := Lib.hid s1.1
  have HW := Lib.hid hW
  clear hW
  obtain ⟨t1, ht1⟩ : ∃ z, tot xs1 = z := ⟨_, rfl⟩
  have HT1 := Lib.hid ht1
  clear ht1
  go_enter Try.func11, Try.ntmps11
  go_wp2_with fail
  rw [← HW.out]
  clear HW
  have bel := Below.refl W.heap.size W
  have cA0 : W.cell? ⟨w.heap.size, 0, none⟩ = some (.slice a0 n0 c0) := (rA0.next bel).cell 0
  refine (szSig _ _ _ (1048576) _ hN0 (by omega) (by omega)).mono ?_
  rintro e w1 ⟨he, bb⟩
  replace bel := next_trans bel bb
  have zw1 := bb.size
  clear bb
  by_cases q0 : n0 ≤ 1048576
  case neg =>
    rw [if_pos (by omega)] at he
    subst he
    have F := Lib.hid (bW.trans (bel.mono bW.size))
    clear bel bW cA0
    go_wp2
    go_ret
    exact ⟨rfl, F.out⟩
  rw [if_neg (by omega)] at he
  subst he
  have h0 : n0 ≤ 1048576 := by omega
  clear cA0
  have cA0 : w1.cell? ⟨w.heap.size, 0, none⟩ = some (.slice a0 n0 c0) := (rA0.next bel).cell 0
  go_wp2_with fail
  refine (listsSz _ _ _ xs1 (1048576 - (n0 : Int)) _ (s1.next bel) hN1 (by omega) (by omega)).mono ?_
  rintro e w2 ⟨he, bb⟩
  rw [HT1.out] at he
  replace bel := next_trans bel bb
  have zw2 := bb.size
  clear bb
  by_cases q1 : n0 + t1 ≤ 1048576
  case neg =>
    rw [if_pos (by omega)] at he
    subst he
    have F := Lib.hid (bW.trans (bel.mono bW.size))
    clear bel bW cA0
    go_wp2
    go_ret
    exact ⟨rfl, F.out⟩
  rw [if_neg (by omega)] at he
  subst he
  have h1 : tot xs1 ≤ 1048576 := by rw [HT1.out]; omega
  replace h1 := Lib.hid h1
  have hn1 : n1 ≤ 1048576 := tot_len Hl1.out h1.out
  have hm1 : sumL xs1 n1 ≤ 1048576 := by have q := h1.out; unfold tot at q; rw [Hl1.out] at q; omega
  obtain ⟨z1, hz1⟩ : ∃ z, sumL xs1 n1 = z := ⟨_, rfl⟩
  rw [hz1] at hm1
  have HZ1 := Lib.hid hz1
  clear hz1
  clear cA0
  have cA0 : w2.cell? ⟨w.heap.size, 0, none⟩ = some (.slice a0 n0 c0) := (rA0.next bel).cell 0
  have hlen : (gg).length ≤ 1048576 := Nat.le_trans (isGA_len hG) (by omega)
  obtain ⟨ys, hys⟩ : ∃ ys, gg = ys := ⟨_, rfl⟩
  rw [hys] at hlen
  have HY := Lib.hid hys
  clear hys
  replace hlen := Lib.hid hlen
  go_wp2_with fail
  refine (sigTo _ _ _ xs0 _ (s0.next bel) h0).mono ?_
  rintro e w3 ⟨gp0, rfl, op0, yp0, bb⟩
  replace bel := next_trans bel bb
  have zw3 := bb.size
  clear bb
  clear cA0
  have cA0 : w3.cell? ⟨w.heap.size, 0, none⟩ = some (.slice a0 n0 c0) := (rA0.next bel).cell 0
  go_wp2_with fail
  refine (listsTo _ _ _ xs1 _ (s1.next bel) h1.out).mono ?_
  rintro e w4 ⟨gp1, rfl, op1, yp1, bb⟩
  replace op0 := op0.next bb
  replace bel := next_trans bel bb
  have zw4 := bb.size
  clear bb
  clear cA0
  have cA0 : w4.cell? ⟨w.heap.size, 0, none⟩ = some (.slice a0 n0 c0) := (rA0.next bel).cell 0
  go_wp2_with fail
  refine (specGeneralisedAllX _ _ _ _ _ _ xs0 xs1 _ op0.rd op1.rd h0 h1.out (Nat.le_refl _) (by omega) hG).mono ?_
  rintro e w5 ⟨A0, m0, d0, he, o0, bb⟩
  subst he
  replace op0 := op0.next bb
  replace op1 := op1.next bb
  replace bel := next_trans bel bb
  have zw5 := bb.size
  clear bb
  rw [HY.out] at o0
  have sw := Own.seg o0
  clear o0
  clear op0 op1
  clear cA0
  have cA0 : w5.cell? ⟨w.heap.size, 0, none⟩ = some (.slice a0 n0 c0) := (rA0.next bel).cell 0
  obtain ⟨Aw, mw, dw, eA, em, ed⟩ : ∃ A m d, A = A0 ∧ m = m0 ∧ d = d0 := ⟨_, _, _, rfl, rfl, rfl⟩
  subst eA em ed
  have belw := Below.refl w5.heap.size w5
  clear cA0
  have cA0 : w5.cell? ⟨w.heap.size, 0, none⟩ = some (.slice a0 n0 c0) := (rA0.next bel).cell 0
  go_wp2_with fail
  refine (sigTo _ _ _ xs0 _ (s0.next bel) h0).mono ?_
  rintro e w6 ⟨gx0, rfl, ox0, yx0, bb⟩
  replace bel := next_trans bel bb
  replace belw := next_trans belw bb
  have zw6 := bb.size
  clear bb
  clear cA0
  have cA0 : w6.cell? ⟨w.heap.size, 0, none⟩ = some (.slice a0 n0 c0) := (rA0.next bel).cell 0
  have dA0 : (w6.alloc (.cells #[.slice (some ⟨gx0, 0, none⟩) n0 n0] 26)).cell? ⟨w.heap.size, 0, none⟩ = some (.slice a0 n0 c0) := ((rA0.next bel).alloc _).cell 0
  go_wp2_with fail
  obtain ⟨w7, hw⟩ : ∃ W, W = w6.alloc (.cells #[.slice (some ⟨gx0, 0, none⟩) n0 n0] 26) := ⟨_, rfl⟩
  rw [← hw]
  have rx0 : Row w7 w6.heap.size 26 #[.slice (some ⟨gx0, 0, none⟩) n0 n0] := by rw [hw]; exact Row.new _ _ _
  have bb : Below w6.heap.size w6 w7 := by rw [hw]; exact (Below.refl _ _).alloc (Nat.le_refl _) _
  have yrx0 : w6.heap.size < w7.heap.size := by rw [hw]; simp
  clear hw
  replace ox0 := ox0.next bb
  replace bel := next_trans bel bb
  replace belw := next_trans belw bb
  have zw7 := bb.size
  clear bb
  clear dA0
  clear cA0
  have cA0 : w7.cell? ⟨w.heap.size, 0, none⟩ = some (.slice a0 n0 c0) := (rA0.next bel).cell 0
  have cx0 : w7.cell? ⟨w6.heap.size, 0, none⟩ = some (.slice (some ⟨gx0, 0, none⟩) n0 n0) := (rx0).cell 0
  refine (listsTo _ _ _ xs1 _ (s1.next bel) h1.out).mono ?_
  rintro e w8 ⟨gx1, rfl, ox1, yx1, bb⟩
  replace ox0 := ox0.next bb
  replace rx0 := rx0.next bb
  replace bel := next_trans bel bb
  replace belw := next_trans belw bb
  have zw8 := bb.size
  clear bb
  clear cA0 cx0
  have cA0 : w8.cell? ⟨w.heap.size, 0, none⟩ = some (.slice a0 n0 c0) := (rA0.next bel).cell 0
  have cx0 : w8.cell? ⟨w6.heap.size, 0, none⟩ = some (.slice (some ⟨gx0, 0, none⟩) n0 n0) := (rx0).cell 0
  go_wp2_with fail
  refine (implGeneralisedAll _ _ _ _ _ _ xs0 xs1 _ ox0.rd ox1.rd h0 h1.out (Nat.le_refl _) (by omega) hG).mono ?_
  rintro e w9 ⟨A0, m0, d0, he, o0, bb⟩
  subst he
  replace ox0 := ox0.next bb
  replace rx0 := rx0.next bb
  replace ox1 := ox1.next bb
  replace bel := next_trans bel bb
  replace belw := next_trans belw bb
  have zw9 := bb.size
  clear bb
  rw [HY.out] at o0
  have og := Ownd.of_own o0
  clear o0
  obtain ⟨Ag, mg, dg, eA, em, ed⟩ : ∃ A m d, A = A0 ∧ m = m0 ∧ d = d0 := ⟨_, _, _, rfl, rfl, rfl⟩
  subst eA em ed
  clear cA0 cx0
  have cA0 : w9.cell? ⟨w.heap.size, 0, none⟩ = some (.slice a0 n0 c0) := (rA0.next bel).cell 0
  have cx0 : w9.cell? ⟨w6.heap.size, 0, none⟩ = some (.slice (some ⟨gx0, 0, none⟩) n0 n0) := (rx0).cell 0
  have hlenn : mg ≤ 1048576 := by rw [← og.rd.1]; exact hlen.out
  go_wp2_with fail
  refine (intsEq _ _ _ _ _ _ ys _ og.rd (sw.next belw) hlenn).mono ?_
  rintro e w10 ⟨rfl, bb⟩
  replace ox0 := ox0.next bb
  replace rx0 := rx0.next bb
  replace ox1 := ox1.next bb
  replace og := og.next bb
  replace bel := next_trans bel bb
  replace belw := next_trans belw bb
  have zw10 := bb.size
  clear bb
  clear cA0 cx0
  have cA0 : w10.cell? ⟨w.heap.size, 0, none⟩ = some (.slice a0 n0 c0) := (rA0.next bel).cell 0
  have cx0 : w10.cell? ⟨w6.heap.size, 0, none⟩ = some (.slice (some ⟨gx0, 0, none⟩) n0 n0) := (rx0).cell 0
  go_wp2_with fail
  replace ox0 := ox0.drew
  replace rx0 := rx0.drew
  replace ox1 := ox1.drew
  replace og := og.drew
  replace bel := bel.drew
  replace belw := belw.drew
  have zdw10 := (drew_below w10).size
  go_region_held3 (fun w' => w'.cell? ⟨w6.heap.size, 0, none⟩ = some (.slice (some ⟨gx0, 0, none⟩) n0 n0) ∧ w'.cell? ⟨w.heap.size, 0, none⟩ = some (.slice a0 n0 c0))
    (go_keep)
    (first
      | (go_at_call 34; refine (sigTo _ _ _ xs0 _ (s0.next bel) h0).mono ?_; rintro e w11 ⟨gt0, rfl, ot, yt0, bb⟩; replace ox0 := ox0.next bb; replace rx0 := rx0.next bb; replace ox1 := ox1.next bb; replace og := og.next bb; replace bel := next_trans bel bb; replace belw := next_trans belw bb; have k0w11 : w11.cell? ⟨w.heap.size, 0, none⟩ = some (.slice a0 n0 c0) := (rA0.next bel).cell 0; have l0w11 : w11.cell? ⟨w6.heap.size, 0, none⟩ = some (.slice (some ⟨gx0, 0, none⟩) n0 n0) := rx0.cell 0; have zqw11 := bb.size; clear bb)
      | (go_at_call 37; refine (sigEq _ _ _ _ _ _ xs0 _ ox0.rd ot.rd h0).mono ?_; rintro e w12 ⟨rfl, bb⟩; replace ox0 := ox0.next bb; replace rx0 := rx0.next bb; replace ox1 := ox1.next bb; replace og := og.next bb; replace bel := next_trans bel bb; replace belw := next_trans belw bb; have k0w12 : w12.cell? ⟨w.heap.size, 0, none⟩ = some (.slice a0 n0 c0) := (rA0.next bel).cell 0; have l0w12 : w12.cell? ⟨w6.heap.size, 0, none⟩ = some (.slice (some ⟨gx0, 0, none⟩) n0 n0) := rx0.cell 0; have zqw12 := bb.size; clear bb ot))
  clear k0w11 l0w11 k0w12 l0w12
  clear cA0 cx0
  have cA0 : w12.cell? ⟨w.heap.size, 0, none⟩ = some (.slice a0 n0 c0) := (rA0.next bel).cell 0
  have cx0 : w12.cell? ⟨w6.heap.size, 0, none⟩ = some (.slice (some ⟨gx0, 0, none⟩) n0 n0) := (rx0).cell 0
  go_wp2_with fail
  refine (listsTo _ _ _ xs1 _ (s1.next bel) h1.out).mono ?_
  rintro e w13 ⟨gt1, rfl, ot1, yt1, bb⟩
  replace ox0 := ox0.next bb
  replace rx0 := rx0.next bb
  replace ox1 := ox1.next bb
  replace og := og.next bb
  replace bel := next_trans bel bb
  replace belw := next_trans belw bb
  have zw13 := bb.size
  clear bb
  clear cA0 cx0
  have cA0 : w13.cell? ⟨w.heap.size, 0, none⟩ = some (.slice a0 n0 c0) := (rA0.next bel).cell 0
  have cx0 : w13.cell? ⟨w6.heap.size, 0, none⟩ = some (.slice (some ⟨gx0, 0, none⟩) n0 n0) := (rx0).cell 0
  go_wp2_with fail
  refine (listsEq _ _ _ _ _ _ xs1 _ ox1.rd ot1.rd h1.out).mono ?_
  rintro e w14 ⟨rfl, bb⟩
  replace ox0 := ox0.next bb
  replace rx0 := rx0.next bb
  replace ox1 := ox1.next bb
  replace og := og.next bb
  replace ot1 := ot1.next bb
  replace bel := next_trans bel bb
  replace belw := next_trans belw bb
  have zw14 := bb.size
  clear bb
  clear ot1
  clear cA0 cx0
  have cA0 : w14.cell? ⟨w.heap.size, 0, none⟩ = some (.slice a0 n0 c0) := (rA0.next bel).cell 0
  have cx0 : w14.cell? ⟨w6.heap.size, 0, none⟩ = some (.slice (some ⟨gx0, 0, none⟩) n0 n0) := (rx0).cell 0
  go_wp2_with fail
  refine (sigMark (w5.heap.size) (w6.heap.size) _ _ _ xs0 (1) _ ox0 h0 (by omega) (by omega)).mono ?_
  rintro e w15 ⟨he, -, bt⟩
  subst he
  clear ox0
  replace rx0 := Row.btw rx0 bt (by omega)
  replace ox1 := ox1.btw bt (by omega)
  replace og := og.btw bt (by omega)
  replace bel := Below.btw bel bt (by omega) bel.size
  replace belw := Below.btw belw bt (by omega) belw.size
  have zw15 := bt.size
  clear bt
  clear cA0 cx0
  have cA0 : w15.cell? ⟨w.heap.size, 0, none⟩ = some (.slice a0 n0 c0) := (rA0.next bel).cell 0
  have cx0 : w15.cell? ⟨w6.heap.size, 0, none⟩ = some (.slice (some ⟨gx0, 0, none⟩) n0 n0) := (rx0).cell 0
  go_wp2_with fail
  refine (listsMark (w7.heap.size) (w8.heap.size) _ _ _ xs1 (1 + (n0 : Int)) _ ox1 (by omega) h1.out (by omega) (by omega)).mono ?_
  rintro e w16 ⟨he, -, bt⟩
  rw [HZ1.out] at he
  subst he
  clear ox1
  replace rx0 := Row.btw rx0 bt (by omega)
  replace og := og.btw bt (by omega)
  replace bel := Below.btw bel bt (by omega) bel.size
  replace belw := Below.btw belw bt (by omega) belw.size
  have zw16 := bt.size
  clear bt
  clear cA0 cx0
  have cA0 : w16.cell? ⟨w.heap.size, 0, none⟩ = some (.slice a0 n0 c0) := (rA0.next bel).cell 0
  have cx0 : w16.cell? ⟨w6.heap.size, 0, none⟩ = some (.slice (some ⟨gx0, 0, none⟩) n0 n0) := (rx0).cell 0
  clear rx0
  clear cA0 cx0
  have cA0 : w16.cell? ⟨w.heap.size, 0, none⟩ = some (.slice a0 n0 c0) := (rA0.next bel).cell 0
  go_wp2_with fail
  refine (intsEq _ _ _ _ _ _ ys _ og.rd (sw.next belw) hlenn).mono ?_
  rintro e w17 ⟨rfl, bb⟩
  replace og := og.next bb
  replace bel := next_trans bel bb
  replace belw := next_trans belw bb
  have zw17 := bb.size
  clear bb
  clear cA0
  have cA0 : w17.cell? ⟨w.heap.size, 0, none⟩ = some (.slice a0 n0 c0) := (rA0.next bel).cell 0
  go_wp2_with fail
  refine (intsMark (w8.heap.size) (w9.heap.size) _ _ _ ys 1 _ og hlenn (by omega) (by omega)).mono ?_
  rintro e w18 ⟨he, om, bt⟩
  subst he
  clear og
  replace bel := Below.btw bel bt (by omega) bel.size
  replace belw := Below.btw belw bt (by omega) belw.size
  have zw18 := bt.size
  clear bt
  clear cA0
  have cA0 : w18.cell? ⟨w.heap.size, 0, none⟩ = some (.slice a0 n0 c0) := (rA0.next bel).cell 0
  go_wp2_with fail
  refine (intsHeld _ _ _ 1 _ om.rd hlenn (by omega) (by omega)).mono ?_
  rintro e w19 ⟨rfl, bb⟩
  replace om := om.next bb
  replace bel := next_trans bel bb
  replace belw := next_trans belw bb
  have zw19 := bb.size
  clear bb
  clear cA0
  have cA0 : w19.cell? ⟨w.heap.size, 0, none⟩ = some (.slice a0 n0 c0) := (rA0.next bel).cell 0
  go_wp2_with fail
  refine (sigTo _ _ _ xs0 _ (s0.next bel) h0).mono ?_
  rintro e w20 ⟨gp0, rfl, op0, yp0, bb⟩
  replace om := om.next bb
  replace bel := next_trans bel bb
  replace belw := next_trans belw bb
  have zw20 := bb.size
  clear bb
  clear cA0
  have cA0 : w20.cell? ⟨w.heap.size, 0, none⟩ = some (.slice a0 n0 c0) := (rA0.next bel).cell 0
  go_wp2_with fail
  refine (listsTo _ _ _ xs1 _ (s1.next bel) h1.out).mono ?_
  rintro e w21 ⟨gp1, rfl, op1, yp1, bb⟩
  replace om := om.next bb
  replace op0 := op0.next bb
  replace bel := next_trans bel bb
  replace belw := next_trans belw bb
  have zw21 := bb.size
  clear bb
  clear cA0
  have cA0 : w21.cell? ⟨w.heap.size, 0, none⟩ = some (.slice a0 n0 c0) := (rA0.next bel).cell 0
  go_wp2_with fail
  refine (implGeneralisedAll _ _ _ _ _ _ xs0 xs1 _ op0.rd op1.rd h0 h1.out (Nat.le_refl _) (by omega) hG).mono ?_
  rintro e w22 ⟨A0, m0, d0, he, o0, bb⟩
  subst he
  replace om := om.next bb
  replace op0 := op0.next bb
  replace op1 := op1.next bb
  replace bel := next_trans bel bb
  replace belw := next_trans belw bb
  have zw22 := bb.size
  clear bb
  rw [HY.out] at o0
  have sh := Own.seg o0
  clear o0
  clear op0 op1
  clear cA0
  have cA0 : w22.cell? ⟨w.heap.size, 0, none⟩ = some (.slice a0 n0 c0) := (rA0.next bel).cell 0
  obtain ⟨Ah, mh, dh, eA, em, ed⟩ : ∃ A m d, A = A0 ∧ m = m0 ∧ d = d0 := ⟨_, _, _, rfl, rfl, rfl⟩
  subst eA em ed
  have belh := Below.refl w22.heap.size w22
  clear cA0
  have cA0 : w22.cell? ⟨w.heap.size, 0, none⟩ = some (.slice a0 n0 c0) := (rA0.next bel).cell 0
  go_wp2_with fail
  refine (intsEq _ _ _ _ _ _ ys _ (sh.next belh) (sw.next belw) (by rw [← sh.1]; exact hlen.out)).mono ?_
  rintro e w23 ⟨rfl, bb⟩
  replace om := om.next bb
  replace bel := next_trans bel bb
  replace belw := next_trans belw bb
  replace belh := next_trans belh bb
  have zw23 := bb.size
  clear bb
  clear cA0
  have cA0 : w23.cell? ⟨w.heap.size, 0, none⟩ = some (.slice a0 n0 c0) := (rA0.next bel).cell 0
  go_wp2_with fail
  refine (intsHeld _ _ _ 1 _ om.rd hlenn (by omega) (by omega)).mono ?_
  rintro e w24 ⟨rfl, bb⟩
  replace om := om.next bb
  replace bel := next_trans bel bb
  replace belw := next_trans belw bb
  replace belh := next_trans belh bb
  have zw24 := bb.size
  clear bb
  clear cA0
  have cA0 : w24.cell? ⟨w.heap.size, 0, none⟩ = some (.slice a0 n0 c0) := (rA0.next bel).cell 0
  have F := Lib.hid (bW.trans (bel.mono bW.size))
  clear bel belw belh om bW cA0
  go_wp2
  go_ret
  exact ⟨rfl, F.out⟩
end Go.Proofs.Ytkmhnkljigncmaa.wGeneralisedAll
end
