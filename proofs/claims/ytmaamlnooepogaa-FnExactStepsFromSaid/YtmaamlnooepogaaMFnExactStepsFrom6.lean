/-
  MERGED: my texts Extended, HeldT, StepImpl, AnyR, RuleImpl, RuleImplB, StepImplB, StepImplC, StepsMath, Dice, DrawSig, one behind the other, as they are. By an AI agent.
-/
import Derived.Test.YtmaamlnooepogaaMFnExactStepsFrom5
import Derived.OrdersHeld
import Derived.Deep.RegionHeld
import Derived.Deep.WholeRow
import Derived.Shelf.Abstract
import Derived.Deep.AppendLies
import Derived.Deep.RegionLaw
section
/-
  CONTRACTS: impl's (bindings).extended, (bindings).plain. Conditions: the slices read as lists ('Seg', 'TabR'), pattern and term are valid, the place lies in the term. By an AI agent.
-/
namespace Go.Proofs.Ytmaamlnooepogaa.extended
open Go.RowKit Go.Proofs.Ytmaamlnooepogaa.base Go.Proofs.Ytmaamlnooepogaa.ints Go.Proofs.Ytmaamlnooepogaa.sig Go.Proofs.Ytmaamlnooepogaa.same Go.Proofs.Ytmaamlnooepogaa.term Go.Proofs.Ytmaamlnooepogaa.termOk Go.Proofs.Ytmaamlnooepogaa.endAt Go.Proofs.Ytmaamlnooepogaa.marks Go.Proofs.Ytmaamlnooepogaa.app Go.Proofs.Ytmaamlnooepogaa.sym Go.Proofs.Ytmaamlnooepogaa.sub Go.Proofs.Ytmaamlnooepogaa.segs Go.Proofs.Ytmaamlnooepogaa.termFacts Go.Proofs.Ytmaamlnooepogaa.termMath Go.Proofs.Ytmaamlnooepogaa.posMath Go.Proofs.Ytmaamlnooepogaa.cursor Go.Proofs.Ytmaamlnooepogaa.matchMath Go.Proofs.Ytmaamlnooepogaa.matchSpec Go.Proofs.Ytmaamlnooepogaa.whole Go.Proofs.Ytmaamlnooepogaa.takeMath Go.Proofs.Ytmaamlnooepogaa.take Go.Proofs.Ytmaamlnooepogaa.segsHelp Go.Proofs.Ytmaamlnooepogaa.kinds Go.Proofs.Ytmaamlnooepogaa.plainMath Go.Proofs.Ytmaamlnooepogaa.plain Go.Proofs.Ytmaamlnooepogaa.plainOf Go.Proofs.Ytmaamlnooepogaa.gives Go.Proofs.Ytmaamlnooepogaa.look Go.Proofs.Ytmaamlnooepogaa.fillMath
set_option maxRecDepth 100000

/-- what extended gives: the bindings by value, and whether there are any -/
def AnsExt (w : World) (R : Option (List (List Int))) (e : Ending) (w' : World) : Prop :=
  ∃ cs, e = .returned (.tuple #[.agg cs, .bool R.isSome]) ∧ TabR w' w.heap.size cs (R.getD s0) ∧ (∀ j, ((R.getD s0).getD j []).length ≤ 60) ∧ Below w.heap.size w w'
/-- the head of its loop -/
def HeadX (w : World) (A : Option Addr) (n c : Nat) (Q : Option Addr) (m mc : Nat) (sg t : List Int) (P : Option Addr) (pn : Nat) (p : List Int) (R : Option (List (List Int))) (i : Value) (wr : World) : Prop :=
  ∃ (j k : Nat) (s : List (List Int)), i = .int .i64 j ∧ j ≤ pn ∧ Tk wr w.heap.size A n c Q m mc sg t k s ∧ Row wr (w.heap.size + 1 + 1) 133 z24 ∧ Seg wr w.heap.size P pn p ∧ Below w.heap.size w wr ∧ Sync sg p t j k ∧ mst sg t (p.drop j) k s = R
theorem seg_btw {w w' : World} {lo hi : Nat} {A : Option Addr} {n : Nat} {xs : List Int} (h : Seg w lo A n xs) (hb : Btw lo hi w w') (hl : lo ≤ w.heap.size) : Seg w' lo A n xs :=
  h.keep fun p hp => World.cell?_of_block (hb.block p.block (by omega) (.inl hp))

set_option maxHeartbeats 1000000 in
theorem extended (A P Q : Option Addr) (n c pn pc m mc : Nat) (sg p t : List Int) (at_ : Nat) (cs : Array Value) (s : List (List Int)) (w : World) (h : Seg w w.heap.size A n sg) (hp : Seg w w.heap.size P pn p) (ht : Seg w w.heap.size Q m t)
    (hn : n ≤ 1048576) (hpn : pn ≤ 60) (hm : m ≤ 60) (hmc : m ≤ mc) (hmc2 : mc ≤ 9223372036854775807) (hat : at_ < m) (hokp : termOkB sg p = true) (hokt : termOkB sg t = true) (htab : TabR w w.heap.size cs s) (hs : ∀ j, (s.getD j []).length ≤ m) :
    Calls Try.prog 130 #[.agg cs, .slice P pn pc, .agg #[.slice A n c, .slice Q m mc, .int .i64 (at_ : Int)]] w (AnsExt w (mst sg t p at_ s)) := by
  obtain ⟨W, hW⟩ : ∃ W, W = ((w.alloc (.cells cs 133)).alloc (.cells #[.slice A n c, .slice Q m mc, .int .i64 (at_ : Int)] 127)).alloc (.cells z24 133) := ⟨_, rfl⟩
  have b0 : Below w.heap.size w W := by rw [hW]; exact (((Below.refl _ _).alloc (Nat.le_refl _) _).alloc (by simp) _).alloc (by simp; omega) _
  have r0 : Row W w.heap.size 133 cs := by rw [hW]; exact ((Row.new w _ _).alloc _).alloc _
  have r1 : Row W (w.heap.size + 1) 127 #[.slice A n c, .slice Q m mc, .int .i64 (at_ : Int)] := by
    rw [hW]
    have := (Row.new (w.alloc (.cells cs 133)) 127 #[.slice A n c, .slice Q m mc, .int .i64 (at_ : Int)]).alloc (.cells z24 133)
    simpa using this
  have r2 : Row W (w.heap.size + 1 + 1) 133 z24 := by
    rw [hW]
    have := Row.new ((w.alloc (.cells cs 133)).alloc (.cells #[.slice A n c, .slice Q m mc, .int .i64 (at_ : Int)] 127)) 133 z24
    simpa using this
  have HX : HeadX w A n c Q m mc sg t P pn p (mst sg t p at_ s) (.int .i64 0) W :=
    ⟨0, at_, s, rfl, Nat.zero_le _, ⟨r1, ⟨cs, r0, htab.below b0⟩, h.below b0, ht.below b0, Nat.le_of_lt hat, hn, by omega, (sig_arities (termOk_parts hokt).1).1, hs⟩, r2, hp.below b0, b0, Sync.start hokp hokt (by rw [ht.1]; exact hat), by rw [List.drop_zero]⟩
  have HH := Lib.hid HX
  have HW := Lib.hid hW
  have HT := Lib.hid hokt
  have HL := Lib.hid ht.1
  have HPL := Lib.hid hp.1
  have HPM : Hid (∀ i, i < pn → -24 ≤ p.getD i 0) := Lib.hid (fun i hi => (term_num hokp (by rw [hp.1]; exact hi)).1)
  generalize mst sg t p at_ s = R at *
  clear hW HX r0 r1 r2 b0 htab hs hokt hokp h hp ht
  go_enter Try.func130, Try.ntmps130
  go_wp2_with (first
    | (refine rowBox rfl 133 _ rfl cs rfl ?_)
    | (refine rowAlloc rfl 133 rfl z24 zero_b ?_))
  rw [← HW.out]
  go_loopw [12] (fun i wr => HeadX w A n c Q m mc sg t P pn p R i wr) (fun i _ => pn - (intOf i).toNat)
  case atStart => exact HH.out
  case round =>
    obtain ⟨j, k, s, rfl, hj, M, r2, sp, hb, hsy, hm1⟩ := hrel
    clear HH
    have HM1 := Lib.hid hm1
    have HSY := Lib.hid hsy
    clear hm1 hsy
    by_cases hlt : j < pn
    · obtain ⟨bp, op, x, rfl, hbp, hx, ex⟩ := sp.spot hlt
      have hx24 : -24 ≤ x := by rw [← ex.out]; exact HPM.out j hlt
      have hkm : k < m := by have := HSY.out.lt (by rw [HPL.out]; exact hlt); rw [HL.out] at this; exact this
      have HD := Lib.hid (show p.drop j = x :: p.drop (j + 1) by rw [drop_cons (by rw [HPL.out]; exact hlt), ex.out])
      have LT := Lib.hid (take w.heap.size A Q n c m mc sg t k s x wr M hkm hmc hmc2 hx24 HT.out)
      have gl := M.lt
      have HR := Lib.hid r2
      have HB := Lib.hid hb
      have HP := Lib.hid sp
      clear M r2 hb sp
      go_wp2_with fail
      refine LT.out.mono ?_
      rintro e w2 ⟨bb, ⟨k', s', rfl, M, hmv, hr⟩ | ⟨rfl, hr⟩⟩
      · have hsync : Sync sg p t (j + 1) k' := by
          rcases hmv with ⟨h0, h1, rfl⟩ | ⟨h0, rfl⟩
          · exact HSY.out.sym (by rw [HPL.out]; exact hlt) ex.out h1
          · exact HSY.out.var (by rw [HPL.out]; exact hlt) ex.out hx24 h0 HT.out
        have S : HeadX w A n c Q m mc sg t (some ⟨bp, op, none⟩) pn p R (.int .i64 ((j : Int) + 1)) w2 :=
          ⟨j + 1, k', s', by simp, hlt, M, segs.Row.btw HR.out bb (.inr (Nat.le_refl _)), seg_btw HP.out bb (by omega), Below.btw HB.out bb (Nat.le_refl _) (by omega), hsync, by rw [← hr, ← HD.out]; exact HM1.out⟩
        have HS := Lib.hid S
        clear S M hsync hmv hr bb HR HP HB LT ex HD hx
        go_wp2
        go_roundw
        case rel => exact HS.out
        case measure => simp [intOf]; omega
      · have hR : R = none := by rw [← HM1.out, HD.out]; exact hr _
        have r2 := segs.Row.btw HR.out bb (.inr (Nat.le_refl _))
        have b2 := Below.btw HB.out bb (Nat.le_refl _) (by omega)
        have hz := r2
        unfold Row at hz
        have r3 := Row.setRow r2 z24
        have F : AnsExt w R (.returned (.tuple #[.agg z24, .bool false])) (w2.setRow (w.heap.size + 1 + 1) z24) :=
          ⟨z24, by rw [hR]; rfl, by rw [hR]; exact TabR.new _ _, fun i => by rw [hR]; simp only [Option.getD_none]; rw [s0_get]; simp, Below.btw b2 (Btw.of_grown (lo := w.heap.size) (hi := w.heap.size + 1 + 1 + 1) (grown_setRow w2 (w.heap.size + 1 + 1) z24) (fun k e => by injection e; omega)) (Nat.le_refl _) b2.size⟩
        have HF := Lib.hid F
        have H3 := Lib.hid r3
        have HZ := Lib.hid hz
        clear F r3 r2 b2 hz hr bb HR HP HB LT ex HD hx hR
        go_wp2_with (first
          | (refine rowBuild rfl 133 rfl z24 built_b ?_)
          | (refine rowStore rfl 133 _ _ rfl (w.heap.size + 1 + 1) z24 z24 133 rfl rfl HZ.out (by rw [z24_size]; exact size_b) rfl z24_one ?_))
        (try simp only [Exit.inBlock, Exit.then])
        refine bodyPost_ret (v := .tuple #[.agg z24, .bool false]) ?_ rfl HF.out
        exact results_row_tmp Try.results130 _ (w.heap.size + 1 + 1) 133 z24 _ rfl H3.out Try.underlying133 rfl (by rw [z24_size]; exact size_b)
    · have hjp : j = pn := by omega
      have hR : R = some s := by rw [← HM1.out, hjp, List.drop_eq_nil_of_le (by rw [HPL.out]; exact Nat.le_refl _)]; rfl
      obtain ⟨cs', h1, h2⟩ := M.tab
      have hz1 := h1
      have hz2 := r2
      unfold Row at hz1 hz2
      have r3 := Row.setRow r2 cs'
      have hl := M.lt
      have F : AnsExt w R (.returned (.tuple #[.agg cs', .bool true])) (wr.setRow (w.heap.size + 1 + 1) cs') :=
        ⟨cs', by rw [hR]; rfl, by rw [hR]; exact h2.keep (keep_of (grown_setRow wr (w.heap.size + 1 + 1) cs') (by omega) (fun k e => by injection e; omega)), by rw [hR]; exact fun j => Nat.le_trans (M.hs j) hm,
          Below.btw hb (Btw.of_grown (lo := w.heap.size) (hi := w.heap.size + 1 + 1 + 1) (grown_setRow wr (w.heap.size + 1 + 1) cs') (fun k e => by injection e; omega)) (Nat.le_refl _) hb.size⟩
      have HF := Lib.hid F
      have H3 := Lib.hid r3
      have HZ1 := Lib.hid hz1
      have HZ2 := Lib.hid hz2
      have HSZ := Lib.hid h2.1
      have HON := Lib.hid h2.one
      clear F r3 r2 hz1 hz2 h1 h2 hR M sp hb hjp
      go_wp2_with (first
        | (refine wpList_load_row rfl 133 _ rfl w.heap.size rfl 133 cs' (0, 0) _ HZ1.out Try.underlying133 rfl (by rw [HSZ.out]; exact size_b) ?_)
        | (refine rowStore rfl 133 _ _ rfl (w.heap.size + 1 + 1) cs' z24 133 rfl rfl HZ2.out (by rw [HSZ.out]; exact size_b) (by rw [HSZ.out]; rfl) HON.out ?_))
      (try simp only [Exit.inBlock, Exit.then])
      refine bodyPost_ret (v := .tuple #[.agg cs', .bool true]) ?_ rfl HF.out
      exact results_row_tmp Try.results130 _ (w.heap.size + 1 + 1) 133 cs' _ rfl H3.out Try.underlying133 rfl (by rw [HSZ.out]; exact size_b)

end Go.Proofs.Ytmaamlnooepogaa.extended
end

section
/-
  A REGION THAT DRAWS ITS ORDER AND ENDS IN STORES TO CELLS THAT IT LOADS ('u.a, u.b = f(u.a), f(u.b)'): what is held of the world (S) is asked behind each operation but the late ones (the stores), and a load may be taken first where every late operation waits for it. Over any program. By an AI agent.
-/
namespace Go.Proofs.Ytmaamlnooepogaa.heldT
section
variable {P : Program} {md : Region.Mode} {ops : Array Oper} {Q : Exit → Act → World → Prop} {S : World → Prop} {late : Nat → Bool}

/-- whatever order is picked from here on; each operation that is not late keeps S -/
def AnyT (P : Program) (md : Region.Mode) (ops : Array Oper) (Q : Exit → Act → World → Prop) (S : World → Prop) (late : Nat → Bool) : Nat → Array Bool → Act → World → Prop
  | 0, listed, a, w => Region.ready md ops listed = [] ∧ Q .normal a w
  | fuel + 1, listed, a, w => (Region.ready md ops listed = [] → Q .normal a w) ∧
    ∀ i ∈ Region.ready md ops listed, wpOp P ops Q i (fun a' w' => (late i = false → S w → S w') ∧ AnyT P md ops Q S late fuel (listed.setIfInBounds i true) a' w') a w
theorem AnyT.any : ∀ (fuel : Nat) (listed : Array Bool) (a : Act) (w : World), AnyT P md ops Q S late fuel listed a w → wpAny P md ops Q fuel listed a w
  | 0, _, _, _, h => h
  | fuel + 1, _, _, _, h => ⟨h.1, fun i hi => wpOp_mono (fun a' w' h' => AnyT.any fuel _ a' w' h'.2) (h.2 i hi)⟩

/-- every late operation that has not come up waits for number i -/
def Waits (md : Region.Mode) (ops : Array Oper) (late : Nat → Bool) (listed : Array Bool) (i : Nat) : Prop :=
  ∀ j o, ops[j]? = some o → late j = true → listed.getD j true = false → ∃ e ∈ o.after, Region.binds md e = true ∧ e.on = i
def waitsB (md : Region.Mode) (ops : Array Oper) (late : Nat → Bool) (listed : Array Bool) (i : Nat) : Bool :=
  (List.range ops.size).all fun j => !late j || listed.getD j true || ((ops[j]?).map fun o => o.after.any fun e => Region.binds md e && e.on == i).getD false
theorem waits_of {listed : Array Bool} {i : Nat} (h : waitsB md ops late listed i = true) : Waits md ops late listed i := by
  intro j o ho hl hu
  have hj : j < ops.size := by
    rcases Nat.lt_or_ge j ops.size with h' | h'
    · exact h'
    · rw [Array.getElem?_eq_none h'] at ho; cases ho
  have := List.all_eq_true.1 h j (List.mem_range.2 hj)
  rw [hl, hu, ho] at this
  simp only [Bool.not_true, Bool.false_or, Option.map_some, Option.getD_some, Array.any_eq_true', Bool.and_eq_true, beq_iff_eq] at this
  exact this
theorem AnyT.first {i : Nat} {oi : Oper} {v : Value} (hi : ops[i]? = some oi) (hsel : ∀ (j : Nat) (o : Oper) cs b, ops[j]? = some o → o.op ≠ .select cs b) (hQ : ∀ c a w, Q (.panic c) (a.put oi.dst v) w → Q (.panic c) a w) :
    ∀ (fuel : Nat) (listed : Array Bool) (a : Act) (w : World),
      (∀ j oj, ops[j]? = some oj → j ≠ i → listed.getD j true = false → (∀ e ∈ oj.after, Region.binds md e = true → e.on ≠ i) → oi.apart ops oj = true) → Waits md ops late listed i →
      i ∈ Region.ready md ops listed → YieldsIf P ops S oi v a → S w → AnyT P md ops Q S late fuel (listed.setIfInBounds i true) (a.put oi.dst v) w → AnyT P md ops Q S late (fuel + 1) listed a w := by
  intro fuel
  induction fuel with
  | zero =>
    intro listed a w _ _ hr hy hS H
    refine ⟨fun h => (by rw [h] at hr; cases hr), fun j hj => ?_⟩
    rcases Classical.em (j = i) with e | e
    · subst e; exact hy.wpOp hi hS ⟨fun _ h => h, H⟩
    · have := ready_mono hj e
      rw [H.1] at this
      cases this
  | succ fuel ih =>
    intro listed a w hfree hwait hr hy hS H
    refine ⟨fun h => (by rw [h] at hr; cases hr), fun j hj => ?_⟩
    rcases Classical.em (j = i) with e | hji
    · subst e; exact hy.wpOp hi hS ⟨fun _ h => h, H⟩
    have h1 := H.2 j (ready_mono hj hji)
    obtain ⟨hjun, oj, hoj, hall⟩ := mem_ready.1 hj
    have h0 := (mem_ready.1 hr).1
    have hnot : ∀ e ∈ oj.after, Region.binds md e = true → e.on ≠ i := fun e he hb heq => by
      have h1 := hall e he hb
      rw [heq] at h1
      rcases Nat.lt_or_ge i listed.size with h' | h'
      · simp [h'] at h0 h1; rw [h0] at h1; cases h1
      · simp [Array.getElem?_eq_none h'] at h1
    have hlj : late j = false := by
      cases e : late j with
      | false => rfl
      | true =>
        obtain ⟨x, hx, hb, ho⟩ := hwait j oj hoj e hjun
        exact absurd ho (hnot x hx hb)
    have far : ∀ {k : Nat}, j ≠ k → (listed.setIfInBounds j true).getD k true = false → listed.getD k true = false := fun hjk h => by rwa [getD_set_ne true hjk] at h
    have same : ∀ {k : Nat}, k = j → listed.getD k true = false := fun e => by rw [e]; exact hjun
    have un : ∀ (k : Nat), (listed.setIfInBounds j true).getD k true = false → listed.getD k true = false := fun k h => by
      rcases Classical.em (k = j) with e | e
      · exact same e
      · exact far (fun e' => e e'.symm) h
    have h2 := wpOp_putIf hoj (hfree j oj hoj hji hjun hnot) (fun cs b => hsel i oi cs b hi) (fun cs b => hsel j oj cs b hoj) hQ hy h1
    refine wpOp_mono (fun a' w' h3 => ⟨h3.2.1, ih (listed.setIfInBounds j true) a' w' (fun k ok hk hki hun hno => hfree k ok hk hki (un k hun) hno) (fun k o hk hl hu => hwait k o hk hl (un k hu)) (ready_mono hr (Ne.symm hji)) h3.1 (h3.2.1 hlj hS) ?_⟩) h2
    rw [Array.setIfInBounds_comm _ _ hji]
    exact h3.2.2
/-- take number i first: it yields v in every world that meets S, and every late one waits for it -/
theorem AnyT.take {i : Nat} {oi : Oper} {v : Value} {fuel : Nat} {listed : Array Bool} {a : Act} {w : World} (hi : ops[i]? = some oi) (hs : Region.noSelect ops = true) (hf : Region.free md ops listed i = true) (hw : waitsB md ops late listed i = true) (hr : (Region.ready md ops listed).contains i = true)
    (hQ : ∀ c a w, Q (.panic c) (a.put oi.dst v) w → Q (.panic c) a w) (hy : YieldsIf P ops S oi v a) (hS : S w) (h : AnyT P md ops Q S late fuel (listed.setIfInBounds i true) (a.put oi.dst v) w) : AnyT P md ops Q S late (fuel + 1) listed a w :=
  AnyT.first hi (Region.noSelect_spec hs) hQ fuel listed a w (Region.free_spec hi hf) (waits_of hw) (by simpa using hr) hy hS h
theorem AnyT.firstA {i : Nat} {oi : Oper} {v : Value} (hi : ops[i]? = some oi) (hsel : ∀ (j : Nat) (o : Oper) cs b, ops[j]? = some o → o.op ≠ .select cs b) (hQ : ∀ c a w, Q (.panic c) (a.put oi.dst v) w → Q (.panic c) a w) :
    ∀ (fuel : Nat) (listed : Array Bool) (a : Act) (w : World),
      (∀ j oj, ops[j]? = some oj → j ≠ i → listed.getD j true = false → (∀ e ∈ oj.after, Region.binds md e = true → e.on ≠ i) → oi.apart ops oj = true) →
      i ∈ Region.ready md ops listed → YieldsIf P ops (fun _ => True) oi v a → AnyT P md ops Q S late fuel (listed.setIfInBounds i true) (a.put oi.dst v) w → AnyT P md ops Q S late (fuel + 1) listed a w := by
  intro fuel
  induction fuel with
  | zero =>
    intro listed a w _ hr hy H
    refine ⟨fun h => (by rw [h] at hr; cases hr), fun j hj => ?_⟩
    rcases Classical.em (j = i) with e | e
    · subst e; exact hy.wpOp hi trivial ⟨fun _ h => h, H⟩
    · have := ready_mono hj e
      rw [H.1] at this
      cases this
  | succ fuel ih =>
    intro listed a w hfree hr hy H
    refine ⟨fun h => (by rw [h] at hr; cases hr), fun j hj => ?_⟩
    rcases Classical.em (j = i) with e | hji
    · subst e; exact hy.wpOp hi trivial ⟨fun _ h => h, H⟩
    have h1 := H.2 j (ready_mono hj hji)
    obtain ⟨hjun, oj, hoj, hall⟩ := mem_ready.1 hj
    have h0 := (mem_ready.1 hr).1
    have hnot : ∀ e ∈ oj.after, Region.binds md e = true → e.on ≠ i := fun e he hb heq => by
      have h1 := hall e he hb
      rw [heq] at h1
      rcases Nat.lt_or_ge i listed.size with h' | h'
      · simp [h'] at h0 h1; rw [h0] at h1; cases h1
      · simp [Array.getElem?_eq_none h'] at h1
    have un : ∀ (k : Nat), (listed.setIfInBounds j true).getD k true = false → listed.getD k true = false := fun k h => by
      rcases Classical.em (k = j) with e | e
      · rw [e]; exact hjun
      · rwa [getD_set_ne true (fun e' => e e'.symm)] at h
    have h2 := wpOp_putIf hoj (hfree j oj hoj hji hjun hnot) (fun cs b => hsel i oi cs b hi) (fun cs b => hsel j oj cs b hoj) hQ hy h1
    refine wpOp_mono (fun a' w' h3 => ⟨h3.2.1, ih (listed.setIfInBounds j true) a' w' (fun k ok hk hki hun hno => hfree k ok hk hki (un k hun) hno) (ready_mono hr (Ne.symm hji)) h3.1 ?_⟩) h2
    rw [Array.setIfInBounds_comm _ _ hji]
    exact h3.2.2
/-- take number i first: it yields v in whatever world -/
theorem AnyT.takeA {i : Nat} {oi : Oper} {v : Value} {fuel : Nat} {listed : Array Bool} {a : Act} {w : World} (hi : ops[i]? = some oi) (hs : Region.noSelect ops = true) (hf : Region.free md ops listed i = true) (hr : (Region.ready md ops listed).contains i = true)
    (hQ : ∀ c a w, Q (.panic c) (a.put oi.dst v) w → Q (.panic c) a w) (hy : YieldsIf P ops (fun _ => True) oi v a) (h : AnyT P md ops Q S late fuel (listed.setIfInBounds i true) (a.put oi.dst v) w) : AnyT P md ops Q S late (fuel + 1) listed a w :=
  AnyT.firstA hi (Region.noSelect_spec hs) hQ fuel listed a w (Region.free_spec hi hf) (by simpa using hr) hy h
/-- number i alone may come up: the way back is hidden behind K' -/
theorem AnyT.call {i : Nat} {o : Oper} {fuel : Nat} {listed : Array Bool} {a : Act} {w : World} (hr : Region.ready md ops listed = [i]) (ho : ops[i]? = some o)
    (h : ∀ K' : Act → World → Prop, Shut (∀ a w', (late i = false → S w → S w') → ((late i = false → S w → S w') → AnyT P md ops Q S late fuel (listed.setIfInBounds i true) a w') → K' a w') → if Region.wanted o (yielded ops a.tmps) = true then Oper.wp P o a w K' Q else K' (a.put o.dst undef) w) : AnyT P md ops Q S late (fuel + 1) listed a w :=
  ⟨fun h0 => absurd (hr ▸ h0) (by simp), fun j hj => by
    rw [hr, List.mem_singleton] at hj
    subst hj
    exact wpOp_step ho (fun K' hK => h K' (fun a w' hS hW => hK a w' ⟨hS, hW hS⟩))⟩
theorem AnyT.done {listed : Array Bool} {a : Act} {w : World} (hr : Region.ready md ops listed = []) (h : Q .normal a w) : ∀ fuel, AnyT P md ops Q S late fuel listed a w
  | 0 => ⟨hr, h⟩
  | _ + 1 => ⟨fun _ => h, by rw [hr]; simp⟩
theorem AnyT.start {id : Nat} {a : Act} {w : World} (late : Nat → Bool) (hm : P.follows .mixedOrders = true) (hS : S w.drew) (h : S w.drew → AnyT P .any ops Q S late ops.size (Array.replicate ops.size false) a w.drew) : (Code.region id ops true).wp P Q a w :=
  wp_region_any hm (AnyT.any _ _ _ _ (h hS))
end
end Go.Proofs.Ytmaamlnooepogaa.heldT
end

section
/-
  CONTRACTS: impl's system.matchAt. Conditions: the system and the term are valid and read as data ('Rd'), the place and the rule are there. Written by a program of mine (mkstepimpl.py). By an AI agent.
-/
namespace Go.Proofs.Ytmaamlnooepogaa.stepImpl
open Go.RowKit Go.Proofs.Ytmaamlnooepogaa.base Go.Proofs.Ytmaamlnooepogaa.ints Go.Proofs.Ytmaamlnooepogaa.sig Go.Proofs.Ytmaamlnooepogaa.term Go.Proofs.Ytmaamlnooepogaa.termOk Go.Proofs.Ytmaamlnooepogaa.endAt Go.Proofs.Ytmaamlnooepogaa.marks Go.Proofs.Ytmaamlnooepogaa.app Go.Proofs.Ytmaamlnooepogaa.sym Go.Proofs.Ytmaamlnooepogaa.sub Go.Proofs.Ytmaamlnooepogaa.segs Go.Proofs.Ytmaamlnooepogaa.segsHelp Go.Proofs.Ytmaamlnooepogaa.kinds Go.Proofs.Ytmaamlnooepogaa.termFacts Go.Proofs.Ytmaamlnooepogaa.termMath Go.Proofs.Ytmaamlnooepogaa.posMath Go.Proofs.Ytmaamlnooepogaa.plainMath Go.Proofs.Ytmaamlnooepogaa.gives Go.Proofs.Ytmaamlnooepogaa.fillMath Go.Proofs.Ytmaamlnooepogaa.matchMath Go.Proofs.Ytmaamlnooepogaa.matchSpec Go.Proofs.Ytmaamlnooepogaa.whole Go.Proofs.Ytmaamlnooepogaa.takeMath Go.Proofs.Ytmaamlnooepogaa.take Go.Proofs.Ytmaamlnooepogaa.extended Go.Proofs.Ytmaamlnooepogaa.varsOf Go.Proofs.Ytmaamlnooepogaa.shape Go.Proofs.Ytmaamlnooepogaa.kindsR Go.Proofs.Ytmaamlnooepogaa.ruleMath Go.Proofs.Ytmaamlnooepogaa.ruleSpec Go.Proofs.Ytmaamlnooepogaa.stepMath Go.Proofs.Ytmaamlnooepogaa.walkMath Go.Proofs.Ytmaamlnooepogaa.stepSpec Go.Proofs.Ytmaamlnooepogaa.heldT
set_option maxRecDepth 100000

/-- a whole row is written, at a step of a region that draws -/
theorem wp_rowStore {P : Program} {o : Oper} {a : Act} {w : World} {K : Act → World → Prop} {Q : Exit → Act → World → Prop} (ty : TypeId) (x y : Operand) (ho : o.op = .store ty x y) (g : Nat) (cells old : Array Value) (t : TypeId) (hx : a.eval x = .pointer (some ⟨g, 0, none⟩)) (hy : a.eval y = .agg cells)
    (hg : w.heap[g]? = some (.cells old t (0, 0))) (hi : (P.info? ty).map (·.size) = some cells.size) (hs : old.size = cells.size) (h1 : cells.all (·.oneCell') = true) (h : K (a.put o.dst undef) (w.setRow g cells)) : Oper.wp P o a w K Q := by
  unfold Oper.wp execOp
  simp only [ho, hx, hy, Instr.storeAt, Instr.sureAddr, Sem.run_bind, Sem.run_pure, Result.andThen_ok, run_storeVar_row w g t ty old cells hg hi hs h1]
  exact h

theorem run_build0 {P : Program} {o : Oper} {a : Act} {w : World} (t : TypeId) (ho : o.op = .build t #[]) (z : Array Value) (hz : P.built t [] = some z) : (execOp a.eval o).run P w = .ok (.value (.agg z)) w := by
  unfold execOp
  simp [ho, Sem.run_bind, run_build w t #[] z hz, Result.andThen_ok]
/-- a block without numbers holds no list -/
theorem seg_down {w : World} {g n : Nat} {A : Option Addr} {xs : List Int} {T : TypeId} {cs : Array Value} (h : Seg w (g + 1) A n xs) (hr : Row w g T cs) (hc : ∀ (i : Nat) (x : Int), cs[i]? ≠ some (Value.int .i64 x)) : Seg w g A n xs := by
  refine ⟨h.1, fun hn => ?_⟩
  obtain ⟨b, off, e, hb, hcell⟩ := h.2 hn
  refine ⟨b, off, e, ?_, hcell⟩
  by_cases hbg : b = g
  · exfalso
    subst hbg
    have := hcell 0 hn
    rw [hr.cell] at this
    exact hc _ _ this
  · omega
theorem tab_down {w : World} {g : Nat} {rs : Array Value} {s : List (List Int)} {T : TypeId} {cs : Array Value} (h : TabR w (g + 1) rs s) (hr : Row w g T cs) (hc : ∀ (i : Nat) (x : Int), cs[i]? ≠ some (Value.int .i64 x)) : TabR w g rs s := by
  refine ⟨h.1, h.2.1, fun j hj => ?_⟩
  obtain ⟨A, n, c, e, hs, hcap⟩ := h.2.2 j hj
  exact ⟨A, n, c, e, seg_down hs hr hc, hcap⟩
theorem z24_nums (i : Nat) (x : Int) : z24[i]? ≠ some (Value.int .i64 x) := by
  unfold z24
  rw [Array.getElem?_replicate]
  split
  · intro e; injection e with e; cases e
  · intro e; cases e
theorem two_nums {A V : Option Addr} {n c q cv : Nat} (i : Nat) (x : Int) : (#[.slice A n c, .slice V q cv] : Array Value)[i]? ≠ some (Value.int .i64 x) := by
  match i with
  | 0 => intro e; injection e with e; cases e
  | 1 => intro e; injection e with e; cases e
  | i + 2 => intro e; simp at e

set_option maxHeartbeats 4000000 in
theorem matchAt (a v u : Value) (d : Dat sSystem) (t : List Int) (x k : Nat) (w : World) (h : Rd w w.heap.size sSystem [a, v] d) (ht : Rd w w.heap.size sI [u] t) (hz : sz sSystem d ≤ 1048576) (hok : rightB d.1 d.2 t = true) (hx : x < t.length) (hk : k < d.2.length) :
    Calls Try.prog 101 #[.agg #[a, v], u, .int .i64 (x : Int), .int .i64 (k : Int)] w (AnsExt w (mst d.1 t (d.2.getD k ([], [])).1 x s0)) := by
  obtain ⟨T, m, c, rfl, hT, hcT⟩ := rd_ints.1 ht
  obtain ⟨oks, okt⟩ := right_parts hok
  have hm : m ≤ 60 := by have := (term_len okt).2; have := hT.1; omega
  obtain ⟨A, n, cs, V, q, cv, rfl, rfl, hs, hc, hcv, hq, hn, hq1, hrs, hsg, hE⟩ := rd_sys h hz
  rw [hq] at hk
  obtain ⟨b, off, l, rr, y, rfl, hb, ey, cl, cr, hry⟩ := rd_at hrs (Below.refl _ _) hq hk
  have hzy : sz sRule y ≤ 1048576 := by rw [← ey.out]; exact hE k hk
  have okr : ruleOkB d.1 y = true := by rw [← ey.out]; exact sys_rule oks (by rw [hq]; exact hk)
  obtain ⟨P, pn, pc, P', pn', pc', rfl, rfl, sP, kP, sP', kP', hpn, hpn'⟩ := rd_rule hry hzy
  rw [ey.out]
  obtain ⟨W, hW, rA, rB, bel⟩ := box2 w 76 133 #[.slice A n cs, .slice (some ⟨b, off, none⟩) q cv] z24
  have HW := Lib.hid hW
  have okl := (rule_parts okr).1
  have hpn60 : pn ≤ 60 := by have := (term_len okl).2; have := sP.1; omega
  have LX := Lib.hid (extended A P T n cs pn pc m c d.1 y.1 t x z24 s0 W.drew (hs.next bel.drew) (sP.next bel.drew) (hT.next bel.drew) hn hpn60 hm hcT.1 hcT.2.1 (by rw [← hT.1]; exact hx) okl okt (TabR.new _ _) (fun j => by rw [s0_get]; simp))
  obtain ⟨R, hR⟩ : ∃ R, mst d.1 t y.1 x s0 = R := ⟨_, rfl⟩
  rw [hR] at LX ⊢
  have zA : w.heap.size < W.heap.size := rA.lt
  have zB : b < W.heap.size := by omega
  have K0 : W.cell? ⟨w.heap.size, 0, none⟩ = some (.slice A n cs) := rA.cell 0
  have K1 : W.cell? ⟨w.heap.size, 1, none⟩ = some (.slice (some ⟨b, off, none⟩) q cv) := rA.cell 1
  have K2 : W.cell? ⟨b, off + k * 2, none⟩ = some (.slice P pn pc) := (bel.cell (p := ⟨b, off + k * 2, none⟩) hb).trans cl
  have i0 : (0 : Int) ≤ (k : Int) := by omega
  have i1 : (k : Int) < (q : Int) := by omega
  have zW : W.heap.size = w.heap.size + 1 + 1 := by rw [hW]; simp
  have RA := Lib.hid rA
  have BEL := Lib.hid bel
  clear hW h hs hc hcv hq hrs hsg hE ht hT hcT oks okt okr okl sP kP sP' kP' hry hzy hx hok hz ey rA bel cl cr hR hpn hpn' hpn60 hq1
  go_enter Try.func101, Try.ntmps101
  go_upto_region 1 with (refine rowAlloc rfl 133 rfl z24 zero_b ?_)
  rw [← HW.out]
  refine AnyT.start (S := (fun w' => w'.cell? ⟨w.heap.size, 0, none⟩ = some (.slice A n cs) ∧ w'.cell? ⟨w.heap.size, 1, none⟩ = some (.slice (some ⟨b, off, none⟩) q cv) ∧ w'.cell? ⟨b, off + k * 2, none⟩ = some (.slice P pn pc))) (fun j => j == 15) (by kernel_rfl) ⟨K0, K1, K2⟩ (fun hHeld => ?_)
  refine AnyT.takeA (i := 0) (v := .agg z24) rfl (by kernel_rfl) (by kernel_rfl) (by kernel_rfl) (fun _ _ _ h => h) (Or.inl ⟨by rfl, fun w0 _ => run_build0 133 rfl z24 built_b⟩) ?_
  try simp only [Act.put, List.setIfInBounds_toArray, List.set_cons_zero, List.set_cons_succ, List.getElem_toArray, List.getElem_cons_zero, List.getElem_cons_succ]
  refine AnyT.takeA (i := 1) (v := ?_) rfl (by kernel_rfl) (by kernel_rfl) (by kernel_rfl) (fun _ _ _ h => h) (Or.inl ⟨by rfl, ?_⟩) ?_
  rotate_left 1
  · (intro w0 _; go_simp; try with_reducible rfl)
  try simp only [Act.put, List.setIfInBounds_toArray, List.set_cons_zero, List.set_cons_succ, List.getElem_toArray, List.getElem_cons_zero, List.getElem_cons_succ]
  refine AnyT.take (i := 2) (v := ?_) rfl (by kernel_rfl) (by kernel_rfl) (by kernel_rfl) (by kernel_rfl) (fun _ _ _ h => h) (Or.inl ⟨by rfl, ?_⟩) (by assumption) ?_
  rotate_left 1
  · (intro w0 hSw; (try dsimp only at hSw); go_simp; try with_reducible rfl)
  try simp only [Act.put, List.setIfInBounds_toArray, List.set_cons_zero, List.set_cons_succ, List.getElem_toArray, List.getElem_cons_zero, List.getElem_cons_succ]
  refine AnyT.takeA (i := 3) (v := ?_) rfl (by kernel_rfl) (by kernel_rfl) (by kernel_rfl) (fun _ _ _ h => h) (Or.inl ⟨by rfl, ?_⟩) ?_
  rotate_left 1
  · (intro w0 _; go_simp; try with_reducible rfl)
  try simp only [Act.put, List.setIfInBounds_toArray, List.set_cons_zero, List.set_cons_succ, List.getElem_toArray, List.getElem_cons_zero, List.getElem_cons_succ]
  refine AnyT.takeA (i := 4) (v := ?_) rfl (by kernel_rfl) (by kernel_rfl) (by kernel_rfl) (fun _ _ _ h => h) (Or.inl ⟨by rfl, ?_⟩) ?_
  rotate_left 1
  · (intro w0 _; go_simp; try with_reducible rfl)
  try simp only [Act.put, List.setIfInBounds_toArray, List.set_cons_zero, List.set_cons_succ, List.getElem_toArray, List.getElem_cons_zero, List.getElem_cons_succ]
  refine AnyT.takeA (i := 5) (v := ?_) rfl (by kernel_rfl) (by kernel_rfl) (by kernel_rfl) (fun _ _ _ h => h) (Or.inl ⟨by rfl, ?_⟩) ?_
  rotate_left 1
  · (intro w0 _; go_simp; try with_reducible rfl)
  try simp only [Act.put, List.setIfInBounds_toArray, List.set_cons_zero, List.set_cons_succ, List.getElem_toArray, List.getElem_cons_zero, List.getElem_cons_succ]
  refine AnyT.take (i := 6) (v := ?_) rfl (by kernel_rfl) (by kernel_rfl) (by kernel_rfl) (by kernel_rfl) (fun _ _ _ h => h) (Or.inl ⟨by rfl, ?_⟩) (by assumption) ?_
  rotate_left 1
  · (intro w0 hSw; (try dsimp only at hSw); go_simp; try with_reducible rfl)
  try simp only [Act.put, List.setIfInBounds_toArray, List.set_cons_zero, List.set_cons_succ, List.getElem_toArray, List.getElem_cons_zero, List.getElem_cons_succ]
  refine AnyT.takeA (i := 7) (v := ?_) rfl (by kernel_rfl) (by kernel_rfl) (by kernel_rfl) (fun _ _ _ h => h) (Or.inl ⟨by rfl, ?_⟩) ?_
  rotate_left 1
  · (intro w0 _; go_simp; try with_reducible rfl)
  try simp only [Act.put, List.setIfInBounds_toArray, List.set_cons_zero, List.set_cons_succ, List.getElem_toArray, List.getElem_cons_zero, List.getElem_cons_succ]
  refine AnyT.take (i := 8) (v := ?_) rfl (by kernel_rfl) (by kernel_rfl) (by kernel_rfl) (by kernel_rfl) (fun _ _ _ h => h) (Or.inl ⟨by rfl, ?_⟩) (by assumption) ?_
  rotate_left 1
  · (intro w0 hSw; (try dsimp only at hSw); go_simp; try with_reducible rfl)
  try simp only [Act.put, List.setIfInBounds_toArray, List.set_cons_zero, List.set_cons_succ, List.getElem_toArray, List.getElem_cons_zero, List.getElem_cons_succ]
  refine AnyT.takeA (i := 9) (v := ?_) rfl (by kernel_rfl) (by kernel_rfl) (by kernel_rfl) (fun _ _ _ h => h) (Or.inl ⟨by rfl, ?_⟩) ?_
  rotate_left 1
  · (intro w0 _; go_simp; try with_reducible rfl)
  try simp only [Act.put, List.setIfInBounds_toArray, List.set_cons_zero, List.set_cons_succ, List.getElem_toArray, List.getElem_cons_zero, List.getElem_cons_succ]
  refine AnyT.takeA (i := 10) (v := ?_) rfl (by kernel_rfl) (by kernel_rfl) (by kernel_rfl) (fun _ _ _ h => h) (Or.inl ⟨by rfl, ?_⟩) ?_
  rotate_left 1
  · (intro w0 _; go_simp; try with_reducible rfl)
  try simp only [Act.put, List.setIfInBounds_toArray, List.set_cons_zero, List.set_cons_succ, List.getElem_toArray, List.getElem_cons_zero, List.getElem_cons_succ]
  refine AnyT.takeA (i := 11) (v := ?_) rfl (by kernel_rfl) (by kernel_rfl) (by kernel_rfl) (fun _ _ _ h => h) (Or.inl ⟨by rfl, ?_⟩) ?_
  rotate_left 1
  · (intro w0 _; go_simp; try with_reducible rfl)
  try simp only [Act.put, List.setIfInBounds_toArray, List.set_cons_zero, List.set_cons_succ, List.getElem_toArray, List.getElem_cons_zero, List.getElem_cons_succ]
  refine AnyT.call (i := 12) (by kernel_rfl) rfl (fun K hK => ?_)
  try simp only [Act.put, List.setIfInBounds_toArray, List.set_cons_zero, List.set_cons_succ, List.getElem_toArray, List.getElem_cons_zero, List.getElem_cons_succ]
  rw [if_pos (by rfl)]
  go_simp
  (go_at_call 130; refine LX.out.mono ?_; rintro e w3 ⟨rs, rfl, tab, hsz, bb⟩; have K03 : w3.cell? ⟨w.heap.size, 0, none⟩ = some (.slice A n cs) := (bb.cell (p := ⟨w.heap.size, 0, none⟩) zA).trans K0; have K13 : w3.cell? ⟨w.heap.size, 1, none⟩ = some (.slice (some ⟨b, off, none⟩) q cv) := (bb.cell (p := ⟨w.heap.size, 1, none⟩) zA).trans K1; have K23 : w3.cell? ⟨b, off + k * 2, none⟩ = some (.slice P pn pc) := (bb.cell (p := ⟨b, off + k * 2, none⟩) zB).trans K2; have one := Lib.hid tab.one; have h24 := Lib.hid tab.1; have r3 := Lib.hid (Row.next (Row.drew rB) bb); go_wp2_with fail)
  refine hK.out _ _ (fun _ _ => ?_) (fun hKeep => ?_)
  · exact ⟨K03, K13, K23⟩
  replace hHeld := hKeep (by rfl) hHeld
  clear hK K hKeep
  try simp only [Act.put, List.setIfInBounds_toArray, List.set_cons_zero, List.set_cons_succ, List.getElem_toArray, List.getElem_cons_zero, List.getElem_cons_succ]
  refine AnyT.takeA (i := 13) (v := ?_) rfl (by kernel_rfl) (by kernel_rfl) (by kernel_rfl) (fun _ _ _ h => h) (Or.inl ⟨by rfl, ?_⟩) ?_
  rotate_left 1
  · (intro w0 _; go_simp; try with_reducible rfl)
  try simp only [Act.put, List.setIfInBounds_toArray, List.set_cons_zero, List.set_cons_succ, List.getElem_toArray, List.getElem_cons_zero, List.getElem_cons_succ]
  refine AnyT.takeA (i := 14) (v := ?_) rfl (by kernel_rfl) (by kernel_rfl) (by kernel_rfl) (fun _ _ _ h => h) (Or.inl ⟨by rfl, ?_⟩) ?_
  rotate_left 1
  · (intro w0 _; go_simp; try with_reducible rfl)
  try simp only [Act.put, List.setIfInBounds_toArray, List.set_cons_zero, List.set_cons_succ, List.getElem_toArray, List.getElem_cons_zero, List.getElem_cons_succ]
  refine AnyT.call (i := 15) (by kernel_rfl) rfl (fun K hK => ?_)
  try simp only [Act.put, List.setIfInBounds_toArray, List.set_cons_zero, List.set_cons_succ, List.getElem_toArray, List.getElem_cons_zero, List.getElem_cons_succ]
  rw [if_pos (by rfl)]
  refine wp_rowStore 133 _ _ rfl (w.heap.size + 1) rs z24 133 rfl rfl r3.out (by rw [h24.out]; exact size_b) (by rw [h24.out]; rfl) one.out ?_
  refine hK.out _ _ (fun h => by cases h) (fun _ => ?_)
  clear hK K
  try simp only [Act.put, List.setIfInBounds_toArray, List.set_cons_zero, List.set_cons_succ, List.getElem_toArray, List.getElem_cons_zero, List.getElem_cons_succ]
  refine AnyT.takeA (i := 16) (v := ?_) rfl (by kernel_rfl) (by kernel_rfl) (by kernel_rfl) (fun _ _ _ h => h) (Or.inl ⟨by rfl, ?_⟩) ?_
  rotate_left 1
  · (intro w0 _; go_simp; try with_reducible rfl)
  try simp only [Act.put, List.setIfInBounds_toArray, List.set_cons_zero, List.set_cons_succ, List.getElem_toArray, List.getElem_cons_zero, List.getElem_cons_succ]
  refine AnyT.done (by kernel_rfl) ?_ _
  have r1 := r3.out
  have r0 := RA.out.drew.next bb
  have bx : Below w.heap.size w w3 := BEL.out.drew.trans (bb.mono BEL.out.size)
  have tab2 : TabR w3 w.heap.size rs (R.getD s0) := tab_down (tab_down (by have := tab; rw [show W.drew.heap.size = W.heap.size from rfl, zW] at this; exact this) r1 z24_nums) r0 two_nums
  have F : AnsExt w R (.returned (.tuple #[.agg rs, .bool R.isSome])) (w3.setRow (w.heap.size + 1) rs) :=
    ⟨rs, rfl, tab2.keep (keep_of (grown_setRow w3 (w.heap.size + 1) rs) bx.size (fun k e => by injection e; omega)), hsz, Below.btw bx (Btw.of_grown (lo := w.heap.size) (hi := w.heap.size + 1 + 1) (grown_setRow w3 (w.heap.size + 1) rs) (fun k e => by injection e; omega)) (Nat.le_refl _) bx.size⟩
  have HF := Lib.hid F
  have H3 := Lib.hid (Row.setRow r1 rs)
  clear F r1 r0 bx tab2 tab bb
  go_wp2
  (try simp only [Exit.inBlock, Exit.then])
  refine bodyPost_ret (v := .tuple #[.agg rs, .bool R.isSome]) ?_ rfl HF.out
  exact results_row_tmp Try.results101 _ (w.heap.size + 1) 133 rs _ rfl H3.out Try.underlying133 rfl (by rw [h24.out]; exact size_b)
end Go.Proofs.Ytmaamlnooepogaa.stepImpl
end

section
/-
  CONTRACTS: slices.IndexFunc, slices.ContainsFunc over whatever test. Conditions: the slice reads as data ("Rd"), at most 1048576 elements. Written by a program of mine (mkany.py). By an AI agent.
-/
namespace Go.Proofs.Ytmaamlnooepogaa.anyR
open Go.RowKit Go.Proofs.Ytmaamlnooepogaa.base Go.Proofs.Ytmaamlnooepogaa.ints Go.Proofs.Ytmaamlnooepogaa.sig Go.Proofs.Ytmaamlnooepogaa.segs Go.Proofs.Ytmaamlnooepogaa.varsOf Go.Proofs.Ytmaamlnooepogaa.shape Go.Proofs.Ytmaamlnooepogaa.kindsR Go.Proofs.Ytmaamlnooepogaa.ruleMath
set_option maxRecDepth 100000

theorem any_of {α : Type} [Inhabited α] {f : α → Bool} {xs : List α} {k : Nat} {x z : α} (hk : k < xs.length) (ex : xs.getD k z = x) (h : f x = true) : xs.any f = true := by
  rw [List.any_eq_true]
  refine ⟨xs[k], List.getElem_mem hk, ?_⟩
  have : xs.getD k z = xs[k] := by simp [List.getD, hk]
  rw [← this, ex]; exact h
theorem none_of {α : Type} {f : α → Bool} {xs : List α} {z : α} (h : ∀ j, j < xs.length → f (xs.getD j z) = false) : xs.any f = false := by
  rw [List.any_eq_false]
  intro x hx
  obtain ⟨i, hi, rfl⟩ := List.getElem_of_mem hx
  have := h i hi
  simpa [List.getD, hi] using this
theorem mem_at {α : Type} {xs : List α} {k : Nat} {x z : α} (hk : k < xs.length) (ex : xs.getD k z = x) : x ∈ xs := by
  have : xs.getD k z = xs[k] := by simp [List.getD, hk]
  rw [← ex, this]; exact List.getElem_mem hk

/-- function g tests f on what lies in xs, as long as what lies in w lies -/
def TestsI (g : Nat) (fa lb : Array Value) (w : World) (xs : List Int) (f : Int → Bool) : Prop := ∀ (W : World) (x : Int), Below w.heap.size w W → x ∈ xs → Calls Try.prog g (fa ++ #[.int .i64 x] ++ lb) W (AnsB W (f x))
def AnsIxI (w : World) (f : Int → Bool) (xs : List Int) (e : Ending) (w' : World) : Prop := ∃ z : Int, e = .returned (.int .i64 z) ∧ -1 ≤ z ∧ z ≤ 1048576 ∧ decide (0 ≤ z) = xs.any f ∧ Below w.heap.size w w'
def HeadIxI (w : World) (n : Nat) (f : Int → Bool) (xs : List Int) (i : Value) (wr : World) : Prop := ∃ k : Nat, k ≤ n ∧ i = .int .i64 k ∧ (∀ j, j < k → f (xs.getD j 0) = false) ∧ Below w.heap.size w wr

set_option maxHeartbeats 2000000 in
theorem indexFuncI (g : Nat) (fa lb : Array Value) (eg : ∀ args w, (callFunc g args).run Try.prog w = .ok (.enter g args) w) (f : Int → Bool) (A : Option Addr) (n c : Nat) (xs : List Int) (w : World) (hT : TestsI g fa lb w xs f)
    (h : Rd w w.heap.size sI [.slice A n c] xs) (hl : xs.length = n) (hn : n ≤ 1048576) :
    Calls Try.prog 144 #[.slice A n c, .func (.func g) fa lb] w (AnsIxI w f xs) := by
  have HL := Lib.hid hl
  have HK := Lib.hid hT
  have HR := Lib.hid h
  have HH : Hid (HeadIxI w n f xs (.int .i64 0) w) := Lib.hid ⟨0, Nat.zero_le _, rfl, fun j hj => absurd hj (Nat.not_lt_zero _), Below.refl _ _⟩
  clear hT h hl
  go_enter Try.func144, Try.ntmps144
  go_wp2_with fail
  go_loopw [8] (fun i wr => HeadIxI w n f xs i wr) (fun i _ => n - (intOf i).toNat)
  case atStart => exact HH.out
  case round =>
    obtain ⟨k, hk, rfl, hlow, hb⟩ := hrel
    have HLOW := Lib.hid hlow
    clear hlow HH
    by_cases hlt : k < n
    · have hkD : k < xs.length := by rw [HL.out]; exact hlt
      obtain ⟨b, off, x, rfl, hbB, hx0, ex⟩ := HR.out.seg.spot hlt
      have hx : wr.cell? ⟨b, off + k, none⟩ = some (.int .i64 x) := (hb.cell (p := ⟨b, off + k, none⟩) hbB).trans hx0
      have hcall := HK.out wr x hb (mem_at hkD ex.out)
      obtain ⟨v, hv⟩ : ∃ v, f x = v := ⟨_, rfl⟩
      rw [hv] at hcall
      have HV := Lib.hid hv
      have HC := Lib.hid hcall
      have i0 : (0 : Int) ≤ (k : Int) := by omega
      have i1 : (k : Int) < (n : Int) := by omega
      clear hv hcall
      cases v with
      | true =>
        go_wp2_with (first
          | (go_at_fn g; refine HC.out.mono ?_; rintro e w1 ⟨rfl, bb⟩))
        have F : AnsIxI w f xs (.returned (.int .i64 (k : Int))) w1 := ⟨k, rfl, by omega, by omega, by rw [decide_eq_true (by omega)]; exact (any_of hkD ex.out HV.out).symm, next_trans hb bb⟩
        have HF := Lib.hid F
        clear F bb hb HC
        go_wp2
        go_ret
        exact HF.out
      | false =>
        go_wp2_with (first
          | (go_at_fn g; refine HC.out.mono ?_; rintro e w1 ⟨rfl, bb⟩))
        have S1 : HeadIxI w n f xs (.int .i64 ((k : Int) + 1)) w1 := ⟨k + 1, hlt, by simp, fun j hj => by
          by_cases e : j = k
          · rw [e, ex.out]; exact HV.out
          · exact HLOW.out j (by omega), next_trans hb bb⟩
        have HS1 := Lib.hid S1
        clear S1 bb hb HC
        go_wp2
        go_roundw
        case rel => exact HS1.out
        case measure => simp [intOf]; omega
    · have F : AnsIxI w f xs (.returned (.int .i64 (-1))) wr := ⟨-1, rfl, by omega, by omega, (none_of (fun j hj => HLOW.out j (by rw [HL.out] at hj; omega))).symm, hb⟩
      have HF := Lib.hid F
      clear F hb
      go_wp2
      go_ret
      exact HF.out
theorem containsFuncI (g : Nat) (fa lb : Array Value) (eg : ∀ args w, (callFunc g args).run Try.prog w = .ok (.enter g args) w) (f : Int → Bool) (A : Option Addr) (n c : Nat) (xs : List Int) (w : World) (hT : TestsI g fa lb w xs f)
    (h : Rd w w.heap.size sI [.slice A n c] xs) (hl : xs.length = n) (hn : n ≤ 1048576) :
    Calls Try.prog 126 #[.slice A n c, .func (.func g) fa lb] w (AnsB w (xs.any f)) := by
  have L := Lib.hid (indexFuncI g fa lb eg f A n c xs w hT h hl hn)
  clear h hl hT
  go_enter Try.func126, Try.ntmps126
  go_wp2_with fail
  refine L.out.mono ?_
  rintro e w' ⟨z, rfl, h1, h2, hz, bb⟩
  have HZ := Lib.hid hz
  have HB := Lib.hid bb
  clear hz L bb
  go_wp2
  go_ret
  exact ⟨by rw [← HZ.out]; rfl, HB.out⟩

/-- function g tests f on what lies in xs, as long as what lies in w lies -/
def TestsRule (g : Nat) (fa lb : Array Value) (w : World) (xs : List (Dat sRule)) (f : Dat sRule → Bool) : Prop := ∀ (W : World) (l r : Value) (x : Dat sRule), Below w.heap.size w W → x ∈ xs → Rd W W.heap.size sRule [l, r] x → Calls Try.prog g (fa ++ #[.agg #[l, r]] ++ lb) W (AnsB W (f x))
def AnsIxRule (w : World) (f : Dat sRule → Bool) (xs : List (Dat sRule)) (e : Ending) (w' : World) : Prop := ∃ z : Int, e = .returned (.int .i64 z) ∧ -1 ≤ z ∧ z ≤ 1048576 ∧ decide (0 ≤ z) = xs.any f ∧ Below w.heap.size w w'
def HeadIxRule (w : World) (n : Nat) (f : Dat sRule → Bool) (xs : List (Dat sRule)) (i : Value) (wr : World) : Prop := ∃ k : Nat, k ≤ n ∧ i = .int .i64 k ∧ (∀ j, j < k → f (xs.getD j (dft sRule)) = false) ∧ Below w.heap.size w wr

end Go.Proofs.Ytmaamlnooepogaa.anyR
end

section
/-
  CONTRACTS: slices.Contains at []int64, impl.RuleOk and its closure, impl.systemOf, system.some, system.defines and its closure. Conditions: the arguments read as data ('Rd'), at most 1048576 numbers. By an AI agent.
-/
namespace Go.Proofs.Ytmaamlnooepogaa.ruleImpl
open Go.RowKit Go.Proofs.Ytmaamlnooepogaa.base Go.Proofs.Ytmaamlnooepogaa.ints Go.Proofs.Ytmaamlnooepogaa.sig Go.Proofs.Ytmaamlnooepogaa.term Go.Proofs.Ytmaamlnooepogaa.termOk Go.Proofs.Ytmaamlnooepogaa.marks Go.Proofs.Ytmaamlnooepogaa.app Go.Proofs.Ytmaamlnooepogaa.sym Go.Proofs.Ytmaamlnooepogaa.segs Go.Proofs.Ytmaamlnooepogaa.termFacts Go.Proofs.Ytmaamlnooepogaa.varsMath Go.Proofs.Ytmaamlnooepogaa.varsOf Go.Proofs.Ytmaamlnooepogaa.rename Go.Proofs.Ytmaamlnooepogaa.same Go.Proofs.Ytmaamlnooepogaa.count Go.Proofs.Ytmaamlnooepogaa.linear Go.Proofs.Ytmaamlnooepogaa.shape Go.Proofs.Ytmaamlnooepogaa.kindsR Go.Proofs.Ytmaamlnooepogaa.ruleMath Go.Proofs.Ytmaamlnooepogaa.ruleSpec Go.Proofs.Ytmaamlnooepogaa.anyR
set_option maxRecDepth 100000

theorem containsI (A : Option Addr) (n c : Nat) (xs : List Int) (x : Int) (w : World) (h : Seg w w.heap.size A n xs) (hn : n ≤ 1048576) :
    Calls Try.prog 125 #[.slice A n c, .int .i64 x] w fun e w' => w = w' ∧ e = .returned (.bool (decide (x ∈ xs))) := by
  have L := Lib.hid (indexOf A n c xs x w h hn)
  clear h
  go_enter Try.func125, Try.ntmps125
  go_wp2_with fail
  refine L.out.mono ?_
  rintro e w' ⟨rfl, rfl⟩
  have E : decide (0 ≤ indexI xs x) = decide (x ∈ xs) := decide_eq_decide.2 (by unfold indexI; split <;> simp_all)
  have HE := Lib.hid E
  clear L E
  generalize indexI xs x = z at *
  go_wp2
  go_ret
  exact ⟨rfl, by rw [← HE.out]; rfl⟩

set_option maxHeartbeats 1000000 in
/-- the closure of RuleOk: a variable that L lacks -/
theorem ruleNew (g : Nat) (A1 : Option Addr) (n1 c1 : Nat) (r : Value) (t : List Int) (x : Int) (W : World) (hr : Row W g 100 #[.slice A1 n1 c1, r]) (h : Seg W W.heap.size A1 n1 t) (hn : n1 ≤ 1048576) :
    Calls Try.prog 124 #[.int .i64 x, .pointer (some ⟨g, 0, none⟩)] W (AnsB W (newB t x)) := by
  have L := Lib.hid (containsI A1 n1 c1 t x W h hn)
  have c0 : W.cell? ⟨g, 0, none⟩ = some (.slice A1 n1 c1) := hr.cell 0
  clear h hr
  by_cases hx : x < 0
  · have hd : decide (x < 0) = true := decide_eq_true hx
    have E : (!decide (x ∈ t)) = newB t x := by unfold newB; by_cases h : x ∈ t <;> simp [h, hx]
    have HE := Lib.hid E
    clear E
    go_enter Try.func124, Try.ntmps124
    go_wp2_with fail
    refine L.out.mono ?_
    rintro e w' ⟨rfl, rfl⟩
    have F : AnsB W (newB t x) (.returned (.bool (!decide (x ∈ t)))) W := ⟨by rw [HE.out], Below.refl _ _⟩
    have HF := Lib.hid F
    clear L F
    generalize decide (x ∈ t) = z at *
    go_wp2
    go_ret
    exact HF.out
  · have hd : decide (x < 0) = false := decide_eq_false hx
    have F : AnsB W (newB t x) (.returned (.bool false)) W := ⟨by unfold newB; rw [decide_eq_false (fun h => hx h.1)], Below.refl _ _⟩
    have HF := Lib.hid F
    clear F L
    go_enter Try.func124, Try.ntmps124
    go_wp2
    go_ret
    exact HF.out

theorem rule_all {sg : List Int} {d : Rl} (h1 : termOkB sg d.1 = true) (h2 : termOkB sg d.2 = true) (h0 : ¬ hd d.1 < 0) : ruleOkB sg d = !d.2.any (newB d.1) := by
  unfold ruleOkB; rw [h1, h2, decide_eq_false h0]; rfl

set_option maxHeartbeats 4000000 in
theorem implRuleOk (a l r : Value) (sg : List Int) (d : Dat sRule) (w : World) (h : Rd w w.heap.size sI [a] sg) (h' : Rd w w.heap.size sRule [l, r] d) (hz : sz sI sg ≤ 1048576) (hz' : sz sRule d ≤ 1048576) :
    Calls Try.prog 95 #[.agg #[a], .agg #[l, r]] w (AnsB w (ruleOkB sg d)) := by
  have g1 := (parts_Rule h').2
  obtain ⟨A, n, c, rfl, hs, hc⟩ := rd_ints.1 h
  have hn := len_ints hs.1 hz
  obtain ⟨A1, n1, c1, A2, n2, c2, rfl, rfl, s1, k1, s2, k2, hn1, hn2⟩ := rd_rule h' hz'
  obtain ⟨W, hW, rA, rR, bel⟩ := box2 w 26 100 #[.slice A n c] #[.slice A1 n1 c1, .slice A2 n2 c2]
  have HW := Lib.hid hW
  have HL1 := Lib.hid s1.1
  have HL2 := Lib.hid s2.1
  have L1 := Lib.hid (implTermOk A A1 n c n1 c1 sg d.1 W (hs.next bel) (s1.next bel) hn hn1)
  have L2 := Lib.hid (fun (w1 : World) (bb : Below w.heap.size w w1) => implTermOk A A2 n c n2 c2 sg d.2 w1 (hs.next bb) (s2.next bb) hn hn2)
  have LC := Lib.hid (fun (w1 : World) (bb : Below w.heap.size w w1) (hr : Row w1 (w.heap.size + 1) 100 #[.slice A1 n1 c1, .slice A2 n2 c2]) => containsFuncI 124 #[] #[.pointer (some ⟨w.heap.size + 1, 0, none⟩)] (fun _ _ => rfl) (newB d.1) A2 n2 c2 d.2 w1
    (fun W x hW _ => ruleNew (w.heap.size + 1) A1 n1 c1 (.slice A2 n2 c2) d.1 x W (hr.next hW) (s1.next (next_trans bb hW)) hn1) (g1.next bb) s2.1 hn2)
  clear hW h h' hz hz' hs hc k1 k2 g1
  cases ok1 : termOkB sg d.1 with
  | false =>
    have HS := Lib.hid ok1
    clear ok1 s1 s2
    go_enter Try.func95, Try.ntmps95
    go_wp2_with fail
    rw [← HW.out]
    refine L1.out.mono ?_
    rintro e w1 ⟨he, bb⟩
    rw [HS.out] at he
    subst he
    have F := Lib.hid (ansB (b := ruleOkB sg d) (a := false) (by rw [rule_noL HS.out]) (next_trans bel bb))
    clear bb bel rA rR
    go_wp2
    go_ret
    exact F.out
  | true =>
    have hp1 := (term_len ok1).1
    rw [s1.1] at hp1
    obtain ⟨b, off, x, rfl, hbB, hx, ex⟩ := s1.spot (k := 0) (by omega)
    have HS := Lib.hid ok1
    have EX := Lib.hid (show hd d.1 = x from ex.out)
    have i0 : (0 : Int) < (n1 : Int) := by omega
    clear ok1 ex
    go_enter Try.func95, Try.ntmps95
    go_wp2_with fail
    rw [← HW.out]
    refine L1.out.mono ?_
    rintro e w1 ⟨he, bb⟩
    rw [HS.out] at he
    subst he
    replace rA := rA.next bb
    replace rR := rR.next bb
    replace bel := next_trans bel bb
    have cA : w1.cell? ⟨w.heap.size, 0, none⟩ = some (.slice A n c) := rA.cell 0
    have cR : w1.cell? ⟨w.heap.size + 1, 1, none⟩ = some (.slice A2 n2 c2) := rR.cell 1
    clear bb L1
    go_wp2_with fail
    refine (L2.out w1 bel).mono ?_
    cases ok2 : termOkB sg d.2 with
    | false =>
      have HS2 := Lib.hid ok2
      clear ok2
      rintro e w2 ⟨he, bb⟩
      rw [HS2.out] at he
      subst he
      have F := Lib.hid (ansB (b := ruleOkB sg d) (a := false) (by rw [rule_noR HS2.out]) (next_trans bel bb))
      clear bb bel rA rR cA cR s1 s2
      go_wp2
      go_ret
      exact F.out
    | true =>
      have HS2 := Lib.hid ok2
      clear ok2
      rintro e w2 ⟨he, bb⟩
      rw [HS2.out] at he
      subst he
      replace rR := rR.next bb
      replace bel := next_trans bel bb
      have cR0 : w2.cell? ⟨w.heap.size + 1, 0, none⟩ = some (.slice (some ⟨b, off, none⟩) n1 c1) := rR.cell 0
      have cX : w2.cell? ⟨b, off, none⟩ = some (.int .i64 x) := by have := (bel.cell (p := ⟨b, off + 0, none⟩) hbB).trans hx; simpa using this
      clear bb rA cA cR L2
      by_cases hneg : x < 0
      · have F := Lib.hid (ansB (b := ruleOkB sg d) (a := false) (by rw [rule_var (by rw [EX.out]; exact hneg)]) bel)
        have hdx : decide (x < 0) = true := decide_eq_true hneg
        clear bel rR s1 s2 LC
        go_wp2
        go_ret
        exact F.out
      · have hdx : decide (x < 0) = false := decide_eq_false hneg
        have cR1 : w2.cell? ⟨w.heap.size + 1, 1, none⟩ = some (.slice A2 n2 c2) := rR.cell 1
        have LC2 := Lib.hid (LC.out w2 bel rR)
        have hmf : ∀ (fn : Fn) (first cap : Array Value) (w : World), (Instr.makeFunc fn first cap).run Try.prog w = .ok (.func fn first cap) w := fun _ _ _ _ => rfl
        have E := Lib.hid (rule_all HS.out HS2.out (by rw [EX.out]; exact hneg))
        clear LC s1 s2
        go_wp2_with fail
        refine LC2.out.mono ?_
        obtain ⟨z, hzz⟩ : ∃ z, d.2.any (newB d.1) = z := ⟨_, rfl⟩
        rw [hzz] at E
        rintro e w3 ⟨he, bb⟩
        rw [hzz] at he
        subst he
        have F := Lib.hid (ansB (b := ruleOkB sg d) (a := !z) E.out.symm (next_trans bel bb))
        clear bb bel rR cR0 cR1 cX LC2 E hzz
        go_wp2
        go_ret
        exact F.out
end Go.Proofs.Ytmaamlnooepogaa.ruleImpl
end

section
/-
  CONTRACTS: impl.systemOf, SystemOk, system.some, defines (and its closure), nests, collapses, Sig.repeats, Sig.duplicates (and its closure). Conditions: the arguments read as data ('Rd'), at most 1048576 numbers. By an AI agent.
-/
namespace Go.Proofs.Ytmaamlnooepogaa.ruleImpl
open Go.RowKit Go.Proofs.Ytmaamlnooepogaa.base Go.Proofs.Ytmaamlnooepogaa.ints Go.Proofs.Ytmaamlnooepogaa.sig Go.Proofs.Ytmaamlnooepogaa.term Go.Proofs.Ytmaamlnooepogaa.termOk Go.Proofs.Ytmaamlnooepogaa.marks Go.Proofs.Ytmaamlnooepogaa.app Go.Proofs.Ytmaamlnooepogaa.sym Go.Proofs.Ytmaamlnooepogaa.segs Go.Proofs.Ytmaamlnooepogaa.termFacts Go.Proofs.Ytmaamlnooepogaa.varsMath Go.Proofs.Ytmaamlnooepogaa.varsOf Go.Proofs.Ytmaamlnooepogaa.rename Go.Proofs.Ytmaamlnooepogaa.same Go.Proofs.Ytmaamlnooepogaa.count Go.Proofs.Ytmaamlnooepogaa.linear Go.Proofs.Ytmaamlnooepogaa.shape Go.Proofs.Ytmaamlnooepogaa.kindsR Go.Proofs.Ytmaamlnooepogaa.ruleMath Go.Proofs.Ytmaamlnooepogaa.ruleSpec Go.Proofs.Ytmaamlnooepogaa.anyR
set_option maxRecDepth 100000

/-- what systemOf answers -/
def sysV (a v : Value) (ok : Bool) : Value := if ok = true then .agg #[a, v] else .agg #[.slice none 0 0, .slice none 0 0]
def AnsSys (w : World) (a v : Value) (ok : Bool) (e : Ending) (w' : World) : Prop := e = .returned (.tuple #[sysV a v ok, .bool ok]) ∧ Below w.heap.size w w'
def HeadSO (w : World) (T T' : TypeId) (cs cs' : Array Value) (n : Nat) (f : Rl → Bool) (rs : List Rl) (i : Value) (wr : World) : Prop :=
  ∃ k : Nat, k ≤ n ∧ i = .int .i64 k ∧ (∀ j, j < k → f (rs.getD j ([], [])) = true) ∧ Row wr w.heap.size T cs ∧ Row wr (w.heap.size + 1) T' cs' ∧ Below w.heap.size w wr
theorem headSO_step {w wr : World} {T T' : TypeId} {cs cs' : Array Value} {n k : Nat} {f : Rl → Bool} {rs : List Rl} {x : Rl} (hk : k < n) (hlow : ∀ j, j < k → f (rs.getD j ([], [])) = true) (ex : Hid (rs.getD k ([], []) = x)) (h : f x = true) (hr : Row wr w.heap.size T cs) (hr' : Row wr (w.heap.size + 1) T' cs') (hb : Below w.heap.size w wr) : HeadSO w T T' cs cs' n f rs (.int .i64 ((k : Int) + 1)) wr :=
  ⟨k + 1, hk, by simp, fun j hj => by
    by_cases e : j = k
    · subst e; rw [ex.out]; exact h
    · exact hlow j (by omega), hr, hr', hb⟩

set_option maxHeartbeats 8000000 in
theorem systemOf (a v : Value) (d : Dat sSystem) (w : World) (h : Rd w w.heap.size sSystem [a, v] d) (hz : sz sSystem d ≤ 1048576) :
    Calls Try.prog 50 #[.agg #[a, v]] w (AnsSys w a v (sysOkB d.1 d.2)) := by
  have hzs := Lib.hid (sys_szs hz)
  obtain ⟨A, n, c, V, m, cv, rfl, rfl, hs, hc, hcv, hm, hn, hm1, hrs, hsg, hE⟩ := rd_sys h hz
  obtain ⟨W, hW, rA, rR, bel⟩ := box2 w 29 76 #[.slice A n c, .slice V m cv] #[.slice none 0 0, .slice none 0 0]
  have HW := Lib.hid hW
  have HM := Lib.hid hm
  have HE := Lib.hid hE
  have HR := Lib.hid hrs
  have L1 := Lib.hid (implSigOk A n c d.1 W (hs.next bel) hn)
  have LR := Lib.hid (fun (w1 : World) (l r : Value) (x : Dat sRule) (bb : Below w.heap.size w w1) (hx : Rd w1 w1.heap.size sRule [l, r] x) (hzx : sz sRule x ≤ 1048576) => implRuleOk (.slice A n c) l r d.1 x w1 (hsg.next bb) hx hzs.out.1 hzx)
  clear hW h hz hs hc hcv hm hE hrs hsg
  cases ok1 : sigOkB d.1 with
  | false =>
    have HS := Lib.hid ok1
    clear ok1
    go_enter Try.func50, Try.ntmps50
    go_wp2_with fail
    rw [← HW.out]
    refine L1.out.mono ?_
    rintro e w1 ⟨he, bb⟩
    rw [HS.out] at he
    subst he
    replace rR := rR.next bb
    replace bel := next_trans bel bb
    have y0 : w1.cell? ⟨w.heap.size + 1, 0, none⟩ = some (.slice none 0 0) := rR.cell 0
    have y1 : w1.cell? ⟨w.heap.size + 1, 1, none⟩ = some (.slice none 0 0) := rR.cell 1
    have f0 := rR.free 0
    have f1 := rR.free 1
    have r1 := rR.put 0 (.slice none 0 0)
    have y2 : (w1.setCell ⟨w.heap.size + 1, 0, none⟩ (.slice none 0 0)).cell? ⟨w.heap.size + 1, 1, none⟩ = some (.slice none 0 0) := r1.cell 1
    have f2 := r1.free 1
    have r2 := r1.put 1 (.slice none 0 0)
    have u0 : ((w1.setCell ⟨w.heap.size + 1, 0, none⟩ (.slice none 0 0)).setCell ⟨w.heap.size + 1, 1, none⟩ (.slice none 0 0)).cell? ⟨w.heap.size + 1, 0, none⟩ = some (.slice none 0 0) := r2.cell 0
    have u1 : ((w1.setCell ⟨w.heap.size + 1, 0, none⟩ (.slice none 0 0)).setCell ⟨w.heap.size + 1, 1, none⟩ (.slice none 0 0)).cell? ⟨w.heap.size + 1, 1, none⟩ = some (.slice none 0 0) := r2.cell 1
    have F : AnsSys w (.slice A n c) (.slice V m cv) (sysOkB d.1 d.2) (.returned (.tuple #[.agg #[.slice none 0 0, .slice none 0 0], .bool false])) ((w1.setCell ⟨w.heap.size + 1, 0, none⟩ (.slice none 0 0)).setCell ⟨w.heap.size + 1, 1, none⟩ (.slice none 0 0)) :=
      ⟨by rw [sys_sig HS.out]; rfl, (bel.setCell (by simp) _).setCell (by simp) _⟩
    have HF := Lib.hid F
    clear F bel rA rR bb r1 r2 LR
    go_wp2
    exact bodyPost_ret (v := .tuple #[.agg #[.slice none 0 0, .slice none 0 0], .bool false]) (by simp [results, Try.results50, go_sem, u0, u1]) rfl HF.out
  | true =>
    have HS := Lib.hid ok1
    clear ok1
    go_enter Try.func50, Try.ntmps50
    go_wp2_with fail
    rw [← HW.out]
    refine L1.out.mono ?_
    rintro e w1 ⟨he, bb⟩
    rw [HS.out] at he
    subst he
    replace rA := rA.next bb
    replace rR := rR.next bb
    replace bel := next_trans bel bb
    have cR : w1.cell? ⟨w.heap.size, 1, none⟩ = some (.slice V m cv) := rA.cell 1
    clear bb L1
    by_cases h12 : m ≤ 12
    · have H0 : Hid (HeadSO w 29 76 #[.slice A n c, .slice V m cv] #[.slice none 0 0, .slice none 0 0] m (ruleOkB d.1) d.2 (.int .i64 0) w1) := Lib.hid ⟨0, Nat.zero_le _, rfl, fun j hj => absurd hj (Nat.not_lt_zero _), rA, rR, bel⟩
      clear rA rR bel
      go_wp2_with fail
      go_loopw [20] (fun i wr => HeadSO w 29 76 #[.slice A n c, .slice V m cv] #[.slice none 0 0, .slice none 0 0] m (ruleOkB d.1) d.2 i wr) (fun i _ => m - (intOf i).toNat)
      case atStart => exact H0.out
      case round =>
        obtain ⟨k, hk, rfl, hlow, rr, rs, hb⟩ := hrel
        have HLOW := Lib.hid hlow
        clear hlow H0 cR
        have cA0 : wr.cell? ⟨w.heap.size, 0, none⟩ = some (.slice A n c) := rr.cell 0
        have cA1 : wr.cell? ⟨w.heap.size, 1, none⟩ = some (.slice V m cv) := rr.cell 1
        by_cases hlt : k < m
        · obtain ⟨b, off, l, r, x, rfl, hbB, ex, hc0, hc1, hx⟩ := rd_at HR.out hb HM.out hlt
          have hzx : sz sRule x ≤ 1048576 := by have := HE.out k hlt; rw [ex.out] at this; exact this
          obtain ⟨A1, n1, c1, A2, n2, c2, rfl, rfl, s1, k1, s2, k2, hn1, hn2⟩ := rd_rule hx hzx
          obtain ⟨w2, hw2⟩ : ∃ x, x = wr.alloc (.cells #[.slice A1 n1 c1, .slice A2 n2 c2] 100) := ⟨_, rfl⟩
          have bb : Below wr.heap.size wr w2 := by rw [hw2]; exact (Below.refl _ _).alloc (Nat.le_refl _) _
          have rx : Row w2 wr.heap.size 100 #[.slice A1 n1 c1, .slice A2 n2 c2] := by rw [hw2]; exact Row.new wr 100 #[.slice A1 n1 c1, .slice A2 n2 c2]
          have rr2 := rr.next bb
          have rs2 := rs.next bb
          have hb2 := next_trans hb bb
          have L := Lib.hid (LR.out w2 (.slice A1 n1 c1) (.slice A2 n2 c2) x hb2 ((hx.more hb.size).next bb) hzx)
          have x0 : w2.cell? ⟨wr.heap.size, 0, none⟩ = some (.slice A1 n1 c1) := rx.cell 0
          have x1 : w2.cell? ⟨wr.heap.size, 1, none⟩ = some (.slice A2 n2 c2) := rx.cell 1
          have x2 : w2.cell? ⟨w.heap.size, 0, none⟩ = some (.slice A n c) := rr2.cell 0
          have X0 := x0
          have X1 := x1
          have X2 := x2
          rw [hw2] at X0 X1 X2
          have HW2 := Lib.hid hw2
          have i0 : (0 : Int) ≤ (k : Int) := by omega
          have i1 : (k : Int) < (m : Int) := by omega
          clear hx hzx s1 s2 k1 k2 rr rs hb bb rx hw2
          go_wp2_with fail
          rw [← HW2.out]
          refine L.out.mono ?_
          cases ok : ruleOkB d.1 x with
          | false =>
            have HO := Lib.hid ok
            clear ok
            rintro e w3 ⟨he, bb⟩
            subst he
            have rR := rs2.next bb
            have bel := next_trans hb2 bb
            have y0 : w3.cell? ⟨w.heap.size + 1, 0, none⟩ = some (.slice none 0 0) := rR.cell 0
            have y1 : w3.cell? ⟨w.heap.size + 1, 1, none⟩ = some (.slice none 0 0) := rR.cell 1
            have f0 := rR.free 0
            have f1 := rR.free 1
            have r1 := rR.put 0 (.slice none 0 0)
            have y2 : (w3.setCell ⟨w.heap.size + 1, 0, none⟩ (.slice none 0 0)).cell? ⟨w.heap.size + 1, 1, none⟩ = some (.slice none 0 0) := r1.cell 1
            have f2 := r1.free 1
            have r2 := r1.put 1 (.slice none 0 0)
            have u0 : ((w3.setCell ⟨w.heap.size + 1, 0, none⟩ (.slice none 0 0)).setCell ⟨w.heap.size + 1, 1, none⟩ (.slice none 0 0)).cell? ⟨w.heap.size + 1, 0, none⟩ = some (.slice none 0 0) := r2.cell 0
            have u1 : ((w3.setCell ⟨w.heap.size + 1, 0, none⟩ (.slice none 0 0)).setCell ⟨w.heap.size + 1, 1, none⟩ (.slice none 0 0)).cell? ⟨w.heap.size + 1, 1, none⟩ = some (.slice none 0 0) := r2.cell 1
            have F : AnsSys w (.slice A n c) (.slice (some ⟨b, off, none⟩) m cv) (sysOkB d.1 d.2) (.returned (.tuple #[.agg #[.slice none 0 0, .slice none 0 0], .bool false])) ((w3.setCell ⟨w.heap.size + 1, 0, none⟩ (.slice none 0 0)).setCell ⟨w.heap.size + 1, 1, none⟩ (.slice none 0 0)) :=
              ⟨by rw [sys_bad (k := k) (by rw [HM.out]; exact hlt) (by rw [ex.out]; exact HO.out)]; rfl, (bel.setCell (by simp) _).setCell (by simp) _⟩
            have HF := Lib.hid F
            clear F bel rR bb r1 r2 LR rr2 rs2 hb2 x0 x1 x2 X0 X1 X2 cA0 cA1 hc0 hc1 L
            go_wp2
            exact bodyPost_ret (v := .tuple #[.agg #[.slice none 0 0, .slice none 0 0], .bool false]) (by simp [results, Try.results50, go_sem, u0, u1]) rfl HF.out
          | true =>
            have HO := Lib.hid ok
            clear ok
            rintro e w3 ⟨he, bb⟩
            subst he
            have F := Lib.hid (headSO_step (f := ruleOkB d.1) (w := w) hlt HLOW.out ex HO.out (rr2.next bb) (rs2.next bb) (next_trans hb2 bb))
            clear bb rr2 rs2 hb2 L x0 x1 x2 X0 X1 X2 cA0 cA1 hc0 hc1
            go_wp2
            go_roundw
            case rel => exact F.out
            case measure => simp [intOf]; omega
        · have OK := Lib.hid (show sysOkB d.1 d.2 = true from sys_good HS.out (by rw [HM.out]; exact h12) (fun j hj => HLOW.out j (by rw [HM.out] at hj; omega)))
          have y0 : wr.cell? ⟨w.heap.size + 1, 0, none⟩ = some (.slice none 0 0) := rs.cell 0
          have f0 := rs.free 0
          have r1 := rs.put 0 (.slice A n c)
          have y2 : (wr.setCell ⟨w.heap.size + 1, 0, none⟩ (.slice A n c)).cell? ⟨w.heap.size + 1, 1, none⟩ = some (.slice none 0 0) := r1.cell 1
          have f2 := r1.free 1
          have r2 := r1.put 1 (.slice V m cv)
          have u0 : ((wr.setCell ⟨w.heap.size + 1, 0, none⟩ (.slice A n c)).setCell ⟨w.heap.size + 1, 1, none⟩ (.slice V m cv)).cell? ⟨w.heap.size + 1, 0, none⟩ = some (.slice A n c) := r2.cell 0
          have u1 : ((wr.setCell ⟨w.heap.size + 1, 0, none⟩ (.slice A n c)).setCell ⟨w.heap.size + 1, 1, none⟩ (.slice V m cv)).cell? ⟨w.heap.size + 1, 1, none⟩ = some (.slice V m cv) := r2.cell 1
          have F : AnsSys w (.slice A n c) (.slice V m cv) (sysOkB d.1 d.2) (.returned (.tuple #[.agg #[.slice A n c, .slice V m cv], .bool true])) ((wr.setCell ⟨w.heap.size + 1, 0, none⟩ (.slice A n c)).setCell ⟨w.heap.size + 1, 1, none⟩ (.slice V m cv)) :=
            ⟨by rw [OK.out]; rfl, (hb.setCell (by simp) _).setCell (by simp) _⟩
          have HF := Lib.hid F
          clear F hb rr rs r1 r2 LR
          go_wp2
          exact bodyPost_ret (v := .tuple #[.agg #[.slice A n c, .slice V m cv], .bool true]) (by simp [results, Try.results50, go_sem, u0, u1]) rfl HF.out
    · have i1 : (12 : Int) < (m : Int) := by omega
      have y0 : w1.cell? ⟨w.heap.size + 1, 0, none⟩ = some (.slice none 0 0) := rR.cell 0
      have y1 : w1.cell? ⟨w.heap.size + 1, 1, none⟩ = some (.slice none 0 0) := rR.cell 1
      have f0 := rR.free 0
      have f1 := rR.free 1
      have r1 := rR.put 0 (.slice none 0 0)
      have y2 : (w1.setCell ⟨w.heap.size + 1, 0, none⟩ (.slice none 0 0)).cell? ⟨w.heap.size + 1, 1, none⟩ = some (.slice none 0 0) := r1.cell 1
      have f2 := r1.free 1
      have r2 := r1.put 1 (.slice none 0 0)
      have u0 : ((w1.setCell ⟨w.heap.size + 1, 0, none⟩ (.slice none 0 0)).setCell ⟨w.heap.size + 1, 1, none⟩ (.slice none 0 0)).cell? ⟨w.heap.size + 1, 0, none⟩ = some (.slice none 0 0) := r2.cell 0
      have u1 : ((w1.setCell ⟨w.heap.size + 1, 0, none⟩ (.slice none 0 0)).setCell ⟨w.heap.size + 1, 1, none⟩ (.slice none 0 0)).cell? ⟨w.heap.size + 1, 1, none⟩ = some (.slice none 0 0) := r2.cell 1
      have F : AnsSys w (.slice A n c) (.slice V m cv) (sysOkB d.1 d.2) (.returned (.tuple #[.agg #[.slice none 0 0, .slice none 0 0], .bool false])) ((w1.setCell ⟨w.heap.size + 1, 0, none⟩ (.slice none 0 0)).setCell ⟨w.heap.size + 1, 1, none⟩ (.slice none 0 0)) :=
        ⟨by rw [sys_long HM.out h12]; rfl, (bel.setCell (by simp) _).setCell (by simp) _⟩
      have HF := Lib.hid F
      clear F bel rA rR r1 r2 LR
      go_wp2
      exact bodyPost_ret (v := .tuple #[.agg #[.slice none 0 0, .slice none 0 0], .bool false]) (by simp [results, Try.results50, go_sem, u0, u1]) rfl HF.out

end Go.Proofs.Ytmaamlnooepogaa.ruleImpl
end

section
/-
  CONTRACTS: impl's bindings.look, system.hasRedex, reduced, stepAt, RedexAt, StepAt. Conditions: the system and the term read as data ('Rd'), at most 1048576 numbers; place and rule are int64. Written by a program of mine (mkstepimplb.py). By an AI agent.
-/
namespace Go.Proofs.Ytmaamlnooepogaa.stepImpl
open Go.RowKit Go.Proofs.Ytmaamlnooepogaa.base Go.Proofs.Ytmaamlnooepogaa.ints Go.Proofs.Ytmaamlnooepogaa.sig Go.Proofs.Ytmaamlnooepogaa.term Go.Proofs.Ytmaamlnooepogaa.termOk Go.Proofs.Ytmaamlnooepogaa.endAt Go.Proofs.Ytmaamlnooepogaa.inside Go.Proofs.Ytmaamlnooepogaa.marks Go.Proofs.Ytmaamlnooepogaa.app Go.Proofs.Ytmaamlnooepogaa.sym Go.Proofs.Ytmaamlnooepogaa.sub Go.Proofs.Ytmaamlnooepogaa.segs Go.Proofs.Ytmaamlnooepogaa.segsHelp Go.Proofs.Ytmaamlnooepogaa.kinds Go.Proofs.Ytmaamlnooepogaa.termFacts Go.Proofs.Ytmaamlnooepogaa.termMath Go.Proofs.Ytmaamlnooepogaa.posMath Go.Proofs.Ytmaamlnooepogaa.plainMath Go.Proofs.Ytmaamlnooepogaa.gives Go.Proofs.Ytmaamlnooepogaa.look Go.Proofs.Ytmaamlnooepogaa.fillMath Go.Proofs.Ytmaamlnooepogaa.matchMath Go.Proofs.Ytmaamlnooepogaa.matchSpec Go.Proofs.Ytmaamlnooepogaa.whole Go.Proofs.Ytmaamlnooepogaa.takeMath Go.Proofs.Ytmaamlnooepogaa.take Go.Proofs.Ytmaamlnooepogaa.extended Go.Proofs.Ytmaamlnooepogaa.varsOf Go.Proofs.Ytmaamlnooepogaa.shape Go.Proofs.Ytmaamlnooepogaa.kindsR Go.Proofs.Ytmaamlnooepogaa.ruleMath Go.Proofs.Ytmaamlnooepogaa.ruleSpec Go.Proofs.Ytmaamlnooepogaa.ruleImpl Go.Proofs.Ytmaamlnooepogaa.stepMath Go.Proofs.Ytmaamlnooepogaa.walkMath Go.Proofs.Ytmaamlnooepogaa.stepSpec Go.Proofs.Ytmaamlnooepogaa.heldT
set_option maxRecDepth 100000

/-! ### plain facts -/
theorem step_by {sg : List Int} {x : Rl} {t : List Int} {a : Nat} {L : Nat → List Int} (hx : ruleOkB sg x = true) (ht : termOkB sg t = true) (ha : a < t.length) (hL : Turns sg x.1 (subL sg t a) L) :
    stepO sg x t a = if (fillL L x.2).length ≤ 60 ∧ (putAt sg t (fillL L x.2) a).length ≤ 60 then some (putAt sg t (fillL L x.2) a) else none := by
  obtain ⟨h1, h2, h3, h4⟩ := rule_parts hx
  have hs := sub_ok ht ha
  obtain ⟨ss, hm, hg⟩ := turns_match h1 hs hL
  rw [match_yes h1 hs] at hm
  have g := gives_of h1 hs hm
  have e : fillL (givesL ss) x.2 = fillL L x.2 := fill_ext (fun y hy h0 => by
    have hy1 := h4 y hy h0
    show givesL ss (vr y) = L (vr y)
    rw [g.2 y hy1 h0]
    exact hg y hy1 h0)
  unfold stepO
  rw [hm]
  dsimp only
  rw [e]
/-- matched at a place: what the variables stand for -/
theorem at_turns {sg p t : List Int} {k : Nat} {s : List (List Int)} (h1 : termOkB sg p = true) (h2 : termOkB sg t = true) (h : mst sg t p k s0 = some s) : Turns sg p (subL sg t k) (givesL s) := by
  have hx : ∀ x ∈ p, -24 ≤ x := fun x hx => (term_mem h1 hx).1
  obtain ⟨⟨rest, e⟩, hv⟩ := mst_sound h2 h (by rfl) hx
  have hg : ∀ x ∈ p, x < 0 → givesL s (vr x) = s.getD (vr x) [] := fun x hx h0 => by
    have this : scan sg 1 (s.getD (vr x) []) = some (s.getD (vr x) []).length := hv x hx h0
    unfold givesL
    rw [if_neg ?_]
    intro e0
    have e1 : s.getD (vr x) [] = [] := List.length_eq_zero_iff.1 e0
    rw [e1] at this
    exact absurd this (by simp [scan])
  have ef : fillL (givesL s) p = fillL (fun i => s.getD i []) p := fill_ext fun x hx h0 => hg x hx h0
  refine ⟨?_, fun x hx h0 => by rw [hg x hx h0]; exact hv x hx h0⟩
  rw [ef]
  have a := scan_append (r := rest) (scan_fill (L := fun i => s.getD i []) (term_parts h1).2.2 hv)
  rw [← e] at a
  unfold subL
  rw [len1_eq a, e, List.take_left' rfl]
theorem reduce_by {sg : List Int} {x : Rl} {t : List Int} {a : Nat} {s : List (List Int)} (hx : ruleOkB sg x = true) (ht : termOkB sg t = true) (ha : a < t.length) (h : mst sg t x.1 a s0 = some s) :
    (stepO sg x t a).getD [] = put.putR sg t (fillL (givesL s) x.2) (a : Int) ∧ (stepO sg x t a).isSome = put.putB sg t (fillL (givesL s) x.2) (a : Int) := by
  obtain ⟨h1, h2, h3, h4⟩ := rule_parts hx
  obtain ⟨s1, s2, s3⟩ := term_parts ht
  have hT := at_turns h1 ht h
  have hth : thereB sg t (a : Int) = true := there_yes ht (by omega) (by omega)
  have hterm : termOkB sg (fillL (givesL s) x.2) = decide ((fillL (givesL s) x.2).length ≤ 60) := by
    by_cases hl : (fillL (givesL s) x.2).length ≤ 60
    · rw [decide_eq_true hl]
      exact term_mk s1 hl (scan_fill (term_parts h2).2.2 (fun y hy h0 => hT.2 y (h4 y hy h0) h0))
    · rw [decide_eq_false hl]
      cases e : termOkB sg (fillL (givesL s) x.2) with
      | false => rfl
      | true => exact absurd (term_len e).2 hl
  rw [step_by hx ht ha hT]
  unfold put.putR put.putB
  rw [hth, hterm, Bool.true_and, Int.toNat_natCast]
  unfold put.fitB
  have e1 : put.putI sg t (fillL (givesL s) x.2) a = putAt sg t (fillL (givesL s) x.2) a := rfl
  rw [e1]
  by_cases hl : (fillL (givesL s) x.2).length ≤ 60
  · by_cases hh : (putAt sg t (fillL (givesL s) x.2) a).length ≤ 60
    · rw [if_pos ⟨hl, hh⟩, decide_eq_true hl, decide_eq_true hh]; exact ⟨rfl, rfl⟩
    · rw [if_neg (fun h => hh h.2), decide_eq_true hl, decide_eq_false hh]; exact ⟨rfl, rfl⟩
  · rw [if_neg (fun h => hl h.1), decide_eq_false hl]; exact ⟨rfl, rfl⟩
theorem red_at {sg : List Int} {x : Rl} {t : List Int} {a : Nat} (hx : ruleOkB sg x = true) (ht : termOkB sg t = true) (ha : a < t.length) : (mst sg t x.1 a s0).isSome = redB sg x t a := by
  obtain ⟨h1, _⟩ := rule_parts hx
  rw [mst_at h1 ht ha]
  unfold redB instB
  rw [match_yes h1 (sub_ok ht ha)]

set_option maxHeartbeats 1000000 in
theorem lookB (cs : Array Value) (s : List (List Int)) (w : World) (htab : TabR w w.heap.size cs s) :
    Calls Try.prog 128 #[.agg cs] w fun e w' => ∃ g, e = .returned (.func (.func 150) #[] #[.pointer (some ⟨g, 0, none⟩)]) ∧ Row w' g 96 #[.slice (some ⟨w.heap.size, 0, none⟩) 24 24] ∧ Segs w' w'.heap.size (some ⟨w.heap.size, 0, none⟩) 24 s ∧ Below w.heap.size w w' ∧ w.heap.size ≤ g := by
  obtain ⟨W, hW⟩ : ∃ W, W = w.alloc (.cells cs 133) := ⟨_, rfl⟩
  have b0 : Below w.heap.size w W := by rw [hW]; exact (Below.refl _ _).alloc (Nat.le_refl _) _
  have r0 : Row W w.heap.size 133 cs := by rw [hW]; exact Row.new w _ _
  have s1 : Segs W W.heap.size (some ⟨w.heap.size, 0, none⟩) 24 s := (htab.below b0).segs r0 b0.size
  have HW := Lib.hid hW
  clear hW htab r0
  go_enter Try.func128, Try.ntmps128
  go_wp2_with (first
    | (refine rowBox rfl 133 _ rfl cs rfl ?_))
  rw [← HW.out]
  refine (lookupIn (some ⟨w.heap.size, 0, none⟩) 24 24 W).mono ?_
  rintro e w3 ⟨rfl, hw3⟩
  have b3 : Below W.heap.size W w3 := by rw [hw3]; exact (Below.refl _ _).alloc (Nat.le_refl _) _
  have r3 : Row w3 W.heap.size 96 #[.slice (some ⟨w.heap.size, 0, none⟩) 24 24] := by rw [hw3]; exact Row.new _ _ _
  have F := Lib.hid (show ∃ g, Ending.returned (.func (.func 150) #[] #[.pointer (some ⟨W.heap.size, 0, none⟩)]) = .returned (.func (.func 150) #[] #[.pointer (some ⟨g, 0, none⟩)]) ∧ Row w3 g 96 #[.slice (some ⟨w.heap.size, 0, none⟩) 24 24] ∧ Segs w3 w3.heap.size (some ⟨w.heap.size, 0, none⟩) 24 s ∧ Below w.heap.size w w3 ∧ w.heap.size ≤ g from ⟨_, rfl, r3, s1.next b3, next_trans b0 b3, b0.size⟩)
  clear hw3 b3 r3 s1 b0
  go_wp2
  go_ret
  exact F.out

/-- a whole row is loaded -/
theorem run_loadRow {P : Program} {o : Oper} {a : Act} {w : World} (ty : TypeId) (x : Operand) (ho : o.op = .load ty x) (g : Nat) (hx : a.eval x = .pointer (some ⟨g, 0, none⟩)) (t : TypeId) (cs : Array Value) (fz : Nat × Nat) (d : TypeDesc) (hg : w.heap[g]? = some (.cells cs t fz)) (hu : P.underlying ty = some d) (hd : (match d with | .struct _ | .array _ _ => true | _ => false) = true) (hi : (P.info? ty).map (·.size) = some cs.size) :
    (execOp a.eval o).run P w = .ok (.value (.agg cs)) w := by
  unfold execOp
  simp [ho, hx, Instr.loadAt, Instr.sureAddr, Sem.run_bind, Result.andThen_ok, run_loadVar_row w g t ty cs fz d hg hu hd hi]

set_option maxHeartbeats 4000000 in
theorem reduced (a v u : Value) (d : Dat sSystem) (t : List Int) (x k : Nat) (w : World) (h : Rd w w.heap.size sSystem [a, v] d) (ht : Rd w w.heap.size sI [u] t) (hz : sz sSystem d ≤ 1048576) (hok : rightB d.1 d.2 t = true) (hx : x < t.length) (hk : k < d.2.length) (hred : redB d.1 (d.2.getD k ([], [])) t x = true) :
    Calls Try.prog 99 #[.agg #[a, v], u, .int .i64 (x : Int), .int .i64 (k : Int)] w (AnsStep w (stepO d.1 (d.2.getD k ([], [])) t x)) := by
  obtain ⟨oks, okt⟩ := right_parts hok
  have h0 := h
  have ht0 := ht
  have hk0 := hk
  obtain ⟨T, m, c, rfl, hT, hcT⟩ := rd_ints.1 ht
  have hm : m ≤ 60 := by have := (term_len okt).2; have := hT.1; omega
  obtain ⟨A, n, cs, V, q, cv, rfl, rfl, hs, hc, hcv, hq, hn, hq1, hrs, hsg, hE⟩ := rd_sys h hz
  rw [hq] at hk
  obtain ⟨b, off, l, rr, y, rfl, hb, ey, cl, cr, hry⟩ := rd_at hrs (Below.refl _ _) hq hk
  have hzy : sz sRule y ≤ 1048576 := by rw [← ey.out]; exact hE k hk
  have okr : ruleOkB d.1 y = true := by rw [← ey.out]; exact sys_rule oks (by rw [hq]; exact hk)
  obtain ⟨P, pn, pc, P', pn', pc', rfl, rfl, sP, kP, sP', kP', hpn, hpn'⟩ := rd_rule hry hzy
  rw [ey.out] at hred ⊢
  obtain ⟨W, hW, rA, bel⟩ := box1 w 76 #[.slice A n cs, .slice (some ⟨b, off, none⟩) q cv]
  have HW := Lib.hid hW
  have okR := (rule_parts okr).2.1
  have hpn60 : pn' ≤ 60 := by have := (term_len okR).2; have := sP'.1; omega
  have LM := Lib.hid (matchAt _ _ _ d t x k W (h0.next bel) (ht0.next bel) hz hok hx hk0)
  rw [ey.out] at LM
  obtain ⟨s, hs0⟩ := Option.isSome_iff_exists.1 (show (mst d.1 t y.1 x s0).isSome = true by rw [red_at okr okt hx]; exact hred)
  rw [hs0] at LM
  have HRB := Lib.hid (reduce_by okr okt hx hs0)
  have zA0 : w.heap.size < W.heap.size := rA.lt
  have SS := Lib.hid (show Seg w w.heap.size A n d.1 ∧ Seg w w.heap.size T m t ∧ Seg w w.heap.size P' pn' y.2 ∧ m ≤ c ∧ c ≤ 9223372036854775807 from ⟨hs, hT, sP', hcT.1, hcT.2.1⟩)
  have HVS := Lib.hid (fun z (hz : z ∈ y.2) => (term_mem okR hz).1)
  have HFL := Lib.hid (fun (hM : ∀ i, (givesL s i).length ≤ 60) => (show (fillL (givesL s) y.2).length ≤ 1048576 by
    have h1 := fill_bound (L := givesL s) (t := y.2) (m := pn') (k := pn') (fun i => Nat.le_trans (hM i) (by omega)) sP'.1 hpn60
    rw [List.take_of_length_le (by rw [sP'.1]; exact Nat.le_refl _)] at h1
    omega))
  have K2w : w.cell? ⟨b, off + k * 2 + 1, none⟩ = some (.slice P' pn' pc') := cr
  have i0 : (0 : Int) ≤ (k : Int) := by omega
  have i1 : (k : Int) < (q : Int) := by omega
  have x1 : -9223372036854775808 ≤ (x : Int) := by omega
  have x2 : (x : Int) ≤ 9223372036854775807 := by have := hT.1; omega
  have BEL := Lib.hid bel
  have RA := Lib.hid rA
  clear hW h h0 ht ht0 hk0 hs hc hcv hq hrs hsg hE hT hcT oks okt okr okR sP kP sP' kP' hry hzy hx hok hz ey rA bel cl cr hs0 hpn hpn' hq1 hred
  go_enter Try.func99, Try.ntmps99
  go_wp2_with fail
  rw [← HW.out]
  refine LM.out.mono ?_
  rintro e w1 ⟨rs, rfl, tab, hsz, bb⟩
  have tab : TabR w1 W.heap.size rs s := tab
  have hsz : ∀ j, (s.getD j []).length ≤ 60 := hsz
  have h24 := Lib.hid tab.1
  have one := Lib.hid tab.one
  have HGV := Lib.hid (fun i => (show (givesL s i).length ≤ 60 by
    unfold givesL
    split
    · simp [vt]
    · exact hsz i))
  have TAB := Lib.hid tab
  have HB1 := Lib.hid bb
  clear LM tab hsz bb
  go_upto_region 2 with (first
    | (refine rowAlloc rfl 133 rfl z24 zero_b ?_)
    | (refine rowStore rfl 133 _ _ rfl w1.heap.size rs z24 133 rfl rfl (heap_alloc_new w1 _) (by rw [h24.out]; exact size_b) (by rw [h24.out]; rfl) one.out ?_; rw [World.setRow_alloc_new]))
  obtain ⟨w2, hw2⟩ : ∃ w2, w2 = w1.alloc (.cells rs 133) := ⟨_, rfl⟩
  rw [← hw2]
  have b12 : Below w1.heap.size w1 w2 := by rw [hw2]; exact (Below.refl _ _).alloc (Nat.le_refl _) _
  have b2 := next_trans HB1.out b12
  have zA : w.heap.size < w2.heap.size := Nat.lt_of_lt_of_le zA0 b2.size
  have zB : b < w2.heap.size := by omega
  have zC : w1.heap.size < w2.heap.size := by rw [hw2]; simp
  have rA2 := RA.out.next b2
  have bel2 := BEL.out.trans (b2.mono BEL.out.size)
  have K0 : w2.cell? ⟨w.heap.size, 0, none⟩ = some (.slice A n cs) := rA2.cell 0
  have K1 : w2.cell? ⟨w.heap.size, 1, none⟩ = some (.slice (some ⟨b, off, none⟩) q cv) := rA2.cell 1
  have K2 : w2.cell? ⟨b, off + k * 2 + 1, none⟩ = some (.slice P' pn' pc') := (bel2.cell (p := ⟨b, off + k * 2 + 1, none⟩) hb).trans K2w
  have K3 : w2.heap[w1.heap.size]? = some (.cells rs 133 (0, 0)) := by rw [hw2]; exact heap_alloc_new w1 _
  have LK := Lib.hid (lookB rs s w2.drew ((TAB.out.below (b12.mono HB1.out.size)).more (Nat.le_trans HB1.out.size b12.size)))
  have LFILL := Lib.hid (fun g (w3 : World) rg sg (bx : Below w2.drew.heap.size w2.drew w3) => fill 150 #[.pointer (some ⟨g, 0, none⟩)] (enters_of Try.func150 (by kernel_rfl) rfl) P' pn' pc' y.2 (givesL s) w3 (lookSubst g (some ⟨w2.heap.size, 0, none⟩) 24 24 s w3 rg sg (by omega)) (SS.out.2.2.1.next (bel2.drew.trans (bx.mono bel2.size))) hpn60 HVS.out (fun i => Nat.le_trans (HGV.out i) (by omega)))
  have LPUT := Lib.hid (fun O on oc (w4 : World) (bx : Below w2.drew.heap.size w2.drew w4) {lo : Nat} (oO : Own w4 lo (.slice O on oc) (fillL (givesL s) y.2)) => put.implPutAt A T O n cs m c on oc d.1 t (x : Int) (fillL (givesL s) y.2) w4 (SS.out.1.next (bel2.drew.trans (bx.mono bel2.size))) (SS.out.2.1.next (bel2.drew.trans (bx.mono bel2.size))) (Own.seg oO) hn (by omega) (by rw [Own.len oO]; exact HFL.out HGV.out) x1 x2 (own_cap oO) SS.out.2.2.2.1 SS.out.2.2.2.2)
  have BEL2 := Lib.hid bel2
  clear hw2 b12 b2 rA2 bel2 TAB BEL RA zA0
  refine AnyT.start (S := (fun w' => w'.cell? ⟨w.heap.size, 0, none⟩ = some (.slice A n cs) ∧ w'.cell? ⟨w.heap.size, 1, none⟩ = some (.slice (some ⟨b, off, none⟩) q cv) ∧ w'.cell? ⟨b, off + k * 2 + 1, none⟩ = some (.slice P' pn' pc') ∧ w'.heap[w1.heap.size]? = some (.cells rs 133 (0, 0)))) (fun _ => false) (by kernel_rfl) ⟨K0, K1, K2, K3⟩ (fun hHeld => ?_)
  refine AnyT.takeA (i := 0) (v := ?_) rfl (by kernel_rfl) (by kernel_rfl) (by kernel_rfl) (fun _ _ _ h => h) (Or.inl ⟨by rfl, ?_⟩) ?_
  rotate_left 1
  · (intro w0 _; go_simp; try with_reducible rfl)
  try simp only [Act.put, List.setIfInBounds_toArray, List.set_cons_zero, List.set_cons_succ, List.getElem_toArray, List.getElem_cons_zero, List.getElem_cons_succ]
  refine AnyT.take (i := 1) (v := ?_) rfl (by kernel_rfl) (by kernel_rfl) (by kernel_rfl) (by kernel_rfl) (fun _ _ _ h => h) (Or.inl ⟨by rfl, ?_⟩) (by assumption) ?_
  rotate_left 1
  · (intro w0 hSw; (try dsimp only at hSw); go_simp; try with_reducible rfl)
  try simp only [Act.put, List.setIfInBounds_toArray, List.set_cons_zero, List.set_cons_succ, List.getElem_toArray, List.getElem_cons_zero, List.getElem_cons_succ]
  refine AnyT.takeA (i := 2) (v := ?_) rfl (by kernel_rfl) (by kernel_rfl) (by kernel_rfl) (fun _ _ _ h => h) (Or.inl ⟨by rfl, ?_⟩) ?_
  rotate_left 1
  · (intro w0 _; go_simp; try with_reducible rfl)
  try simp only [Act.put, List.setIfInBounds_toArray, List.set_cons_zero, List.set_cons_succ, List.getElem_toArray, List.getElem_cons_zero, List.getElem_cons_succ]
  refine AnyT.takeA (i := 3) (v := ?_) rfl (by kernel_rfl) (by kernel_rfl) (by kernel_rfl) (fun _ _ _ h => h) (Or.inl ⟨by rfl, ?_⟩) ?_
  rotate_left 1
  · (intro w0 _; go_simp; try with_reducible rfl)
  try simp only [Act.put, List.setIfInBounds_toArray, List.set_cons_zero, List.set_cons_succ, List.getElem_toArray, List.getElem_cons_zero, List.getElem_cons_succ]
  refine AnyT.take (i := 4) (v := .agg rs) rfl (by kernel_rfl) (by kernel_rfl) (by kernel_rfl) (by kernel_rfl) (fun _ _ _ h => h) (Or.inl ⟨by rfl, ?_⟩) (by assumption) ?_
  · (intro w0 hSw; exact run_loadRow 133 _ rfl w1.heap.size rfl 133 rs (0, 0) _ hSw.2.2.2 Try.underlying133 rfl (by rw [h24.out]; exact size_b))
  try simp only [Act.put, List.setIfInBounds_toArray, List.set_cons_zero, List.set_cons_succ, List.getElem_toArray, List.getElem_cons_zero, List.getElem_cons_succ]
  refine AnyT.takeA (i := 6) (v := ?_) rfl (by kernel_rfl) (by kernel_rfl) (by kernel_rfl) (fun _ _ _ h => h) (Or.inl ⟨by rfl, ?_⟩) ?_
  rotate_left 1
  · (intro w0 _; go_simp; try with_reducible rfl)
  try simp only [Act.put, List.setIfInBounds_toArray, List.set_cons_zero, List.set_cons_succ, List.getElem_toArray, List.getElem_cons_zero, List.getElem_cons_succ]
  refine AnyT.take (i := 7) (v := ?_) rfl (by kernel_rfl) (by kernel_rfl) (by kernel_rfl) (by kernel_rfl) (fun _ _ _ h => h) (Or.inl ⟨by rfl, ?_⟩) (by assumption) ?_
  rotate_left 1
  · (intro w0 hSw; (try dsimp only at hSw); go_simp; try with_reducible rfl)
  try simp only [Act.put, List.setIfInBounds_toArray, List.set_cons_zero, List.set_cons_succ, List.getElem_toArray, List.getElem_cons_zero, List.getElem_cons_succ]
  refine AnyT.takeA (i := 8) (v := ?_) rfl (by kernel_rfl) (by kernel_rfl) (by kernel_rfl) (fun _ _ _ h => h) (Or.inl ⟨by rfl, ?_⟩) ?_
  rotate_left 1
  · (intro w0 _; go_simp; try with_reducible rfl)
  try simp only [Act.put, List.setIfInBounds_toArray, List.set_cons_zero, List.set_cons_succ, List.getElem_toArray, List.getElem_cons_zero, List.getElem_cons_succ]
  refine AnyT.takeA (i := 9) (v := ?_) rfl (by kernel_rfl) (by kernel_rfl) (by kernel_rfl) (fun _ _ _ h => h) (Or.inl ⟨by rfl, ?_⟩) ?_
  rotate_left 1
  · (intro w0 _; go_simp; try with_reducible rfl)
  try simp only [Act.put, List.setIfInBounds_toArray, List.set_cons_zero, List.set_cons_succ, List.getElem_toArray, List.getElem_cons_zero, List.getElem_cons_succ]
  refine AnyT.takeA (i := 10) (v := ?_) rfl (by kernel_rfl) (by kernel_rfl) (by kernel_rfl) (fun _ _ _ h => h) (Or.inl ⟨by rfl, ?_⟩) ?_
  rotate_left 1
  · (intro w0 _; go_simp; try with_reducible rfl)
  try simp only [Act.put, List.setIfInBounds_toArray, List.set_cons_zero, List.set_cons_succ, List.getElem_toArray, List.getElem_cons_zero, List.getElem_cons_succ]
  refine AnyT.take (i := 11) (v := ?_) rfl (by kernel_rfl) (by kernel_rfl) (by kernel_rfl) (by kernel_rfl) (fun _ _ _ h => h) (Or.inl ⟨by rfl, ?_⟩) (by assumption) ?_
  rotate_left 1
  · (intro w0 hSw; (try dsimp only at hSw); go_simp; try with_reducible rfl)
  try simp only [Act.put, List.setIfInBounds_toArray, List.set_cons_zero, List.set_cons_succ, List.getElem_toArray, List.getElem_cons_zero, List.getElem_cons_succ]
  refine AnyT.call (i := 5) (by kernel_rfl) rfl (fun K hK => ?_)
  try simp only [Act.put, List.setIfInBounds_toArray, List.set_cons_zero, List.set_cons_succ, List.getElem_toArray, List.getElem_cons_zero, List.getElem_cons_succ]
  rw [if_pos (by rfl)]
  go_simp
  (go_at_call 128; refine LK.out.mono ?_; rintro e w3 ⟨g, rfl, rg, sg, bx, zg⟩; have B1 := bx; have K01 : w3.cell? ⟨w.heap.size, 0, none⟩ = some (.slice A n cs) := (B1.cell (p := ⟨w.heap.size, 0, none⟩) zA).trans K0; have K11 : w3.cell? ⟨w.heap.size, 1, none⟩ = some (.slice (some ⟨b, off, none⟩) q cv) := (B1.cell (p := ⟨w.heap.size, 1, none⟩) zA).trans K1; have K21 : w3.cell? ⟨b, off + k * 2 + 1, none⟩ = some (.slice P' pn' pc') := (B1.cell (p := ⟨b, off + k * 2 + 1, none⟩) zB).trans K2; have K31 : w3.heap[w1.heap.size]? = some (.cells rs 133 (0, 0)) := (B1.block _ zC).trans K3; have LFI := Lib.hid (LFILL.out g w3 rg sg B1); go_wp2_with fail)
  refine hK.out _ _ (fun _ _ => ?_) (fun hKeep => ?_)
  · exact ⟨K01, K11, K21, K31⟩
  replace hHeld := hKeep (by first | rfl | trivial) hHeld
  clear hK K hKeep
  try simp only [Act.put, List.setIfInBounds_toArray, List.set_cons_zero, List.set_cons_succ, List.getElem_toArray, List.getElem_cons_zero, List.getElem_cons_succ]
  refine AnyT.call (i := 12) (by kernel_rfl) rfl (fun K hK => ?_)
  try simp only [Act.put, List.setIfInBounds_toArray, List.set_cons_zero, List.set_cons_succ, List.getElem_toArray, List.getElem_cons_zero, List.getElem_cons_succ]
  rw [if_pos (by rfl)]
  go_simp
  (go_at_call 129; refine LFI.out.mono ?_; rintro e w4 ⟨O, on, oc, rfl, oO, by4⟩; have B2 := next_trans B1 by4; have K02 : w4.cell? ⟨w.heap.size, 0, none⟩ = some (.slice A n cs) := (B2.cell (p := ⟨w.heap.size, 0, none⟩) zA).trans K0; have K12 : w4.cell? ⟨w.heap.size, 1, none⟩ = some (.slice (some ⟨b, off, none⟩) q cv) := (B2.cell (p := ⟨w.heap.size, 1, none⟩) zA).trans K1; have K22 : w4.cell? ⟨b, off + k * 2 + 1, none⟩ = some (.slice P' pn' pc') := (B2.cell (p := ⟨b, off + k * 2 + 1, none⟩) zB).trans K2; have K32 : w4.heap[w1.heap.size]? = some (.cells rs 133 (0, 0)) := (B2.block _ zC).trans K3; have LPU := Lib.hid (LPUT.out O on oc w4 B2 oO); go_wp2_with fail)
  refine hK.out _ _ (fun _ _ => ?_) (fun hKeep => ?_)
  · exact ⟨K02, K12, K22, K32⟩
  replace hHeld := hKeep (by first | rfl | trivial) hHeld
  clear hK K hKeep
  try simp only [Act.put, List.setIfInBounds_toArray, List.set_cons_zero, List.set_cons_succ, List.getElem_toArray, List.getElem_cons_zero, List.getElem_cons_succ]
  refine AnyT.call (i := 13) (by kernel_rfl) rfl (fun K hK => ?_)
  try simp only [Act.put, List.setIfInBounds_toArray, List.set_cons_zero, List.set_cons_succ, List.getElem_toArray, List.getElem_cons_zero, List.getElem_cons_succ]
  rw [if_pos (by rfl)]
  go_simp
  (go_at_call 89; refine LPU.out.mono ?_; rintro e w5 ⟨X, xn, xc, rfl, oX, by5⟩; have B3 := next_trans B2 by5; have K03 : w5.cell? ⟨w.heap.size, 0, none⟩ = some (.slice A n cs) := (B3.cell (p := ⟨w.heap.size, 0, none⟩) zA).trans K0; have K13 : w5.cell? ⟨w.heap.size, 1, none⟩ = some (.slice (some ⟨b, off, none⟩) q cv) := (B3.cell (p := ⟨w.heap.size, 1, none⟩) zA).trans K1; have K23 : w5.cell? ⟨b, off + k * 2 + 1, none⟩ = some (.slice P' pn' pc') := (B3.cell (p := ⟨b, off + k * 2 + 1, none⟩) zB).trans K2; have K33 : w5.heap[w1.heap.size]? = some (.cells rs 133 (0, 0)) := (B3.block _ zC).trans K3; go_wp2_with fail)
  refine hK.out _ _ (fun _ _ => ?_) (fun hKeep => ?_)
  · exact ⟨K03, K13, K23, K33⟩
  replace hHeld := hKeep (by first | rfl | trivial) hHeld
  clear hK K hKeep
  try simp only [Act.put, List.setIfInBounds_toArray, List.set_cons_zero, List.set_cons_succ, List.getElem_toArray, List.getElem_cons_zero, List.getElem_cons_succ]
  refine AnyT.takeA (i := 14) (v := ?_) rfl (by kernel_rfl) (by kernel_rfl) (by kernel_rfl) (fun _ _ _ h => h) (Or.inl ⟨by rfl, ?_⟩) ?_
  rotate_left 1
  · (intro w0 _; go_simp; try with_reducible rfl)
  try simp only [Act.put, List.setIfInBounds_toArray, List.set_cons_zero, List.set_cons_succ, List.getElem_toArray, List.getElem_cons_zero, List.getElem_cons_succ]
  refine AnyT.takeA (i := 15) (v := ?_) rfl (by kernel_rfl) (by kernel_rfl) (by kernel_rfl) (fun _ _ _ h => h) (Or.inl ⟨by rfl, ?_⟩) ?_
  rotate_left 1
  · (intro w0 _; go_simp; try with_reducible rfl)
  try simp only [Act.put, List.setIfInBounds_toArray, List.set_cons_zero, List.set_cons_succ, List.getElem_toArray, List.getElem_cons_zero, List.getElem_cons_succ]
  refine AnyT.takeA (i := 16) (v := ?_) rfl (by kernel_rfl) (by kernel_rfl) (by kernel_rfl) (fun _ _ _ h => h) (Or.inl ⟨by rfl, ?_⟩) ?_
  rotate_left 1
  · (intro w0 _; go_simp; try with_reducible rfl)
  try simp only [Act.put, List.setIfInBounds_toArray, List.set_cons_zero, List.set_cons_succ, List.getElem_toArray, List.getElem_cons_zero, List.getElem_cons_succ]
  refine AnyT.takeA (i := 17) (v := ?_) rfl (by kernel_rfl) (by kernel_rfl) (by kernel_rfl) (fun _ _ _ h => h) (Or.inl ⟨by rfl, ?_⟩) ?_
  rotate_left 1
  · (intro w0 _; go_simp; try with_reducible rfl)
  try simp only [Act.put, List.setIfInBounds_toArray, List.set_cons_zero, List.set_cons_succ, List.getElem_toArray, List.getElem_cons_zero, List.getElem_cons_succ]
  refine AnyT.done (by kernel_rfl) ?_ _
  have F : AnsStep w (stepO d.1 y t x) (.returned (.tuple #[.slice X xn xc, .bool (put.putB d.1 t (fillL (givesL s) y.2) (x : Int))])) w5 := ⟨X, xn, xc, by rw [HRB.out.2], by rw [HRB.out.1]; exact Own.lower oX (Nat.le_trans BEL2.out.size B2.size), BEL2.out.drew.trans (B3.mono BEL2.out.size)⟩
  have HF := Lib.hid F
  clear F oX by5 B1 B2 B3 LK LFILL LPUT LFI LPU oO by4
  generalize put.putB d.1 t (fillL (givesL s) y.2) (x : Int) = bz at *
  go_wp2
  go_ret2
  exact HF.out
end Go.Proofs.Ytmaamlnooepogaa.stepImpl
end

section
/-
  CONTRACTS: impl's system.hasRedex, stepAt, RedexAt, StepAt. Conditions: the system and the term read as data ('Rd'), at most 1048576 numbers; place and rule are int64. By an AI agent.
-/
namespace Go.Proofs.Ytmaamlnooepogaa.stepImpl
open Go.RowKit Go.Proofs.Ytmaamlnooepogaa.base Go.Proofs.Ytmaamlnooepogaa.ints Go.Proofs.Ytmaamlnooepogaa.sig Go.Proofs.Ytmaamlnooepogaa.term Go.Proofs.Ytmaamlnooepogaa.termOk Go.Proofs.Ytmaamlnooepogaa.endAt Go.Proofs.Ytmaamlnooepogaa.inside Go.Proofs.Ytmaamlnooepogaa.marks Go.Proofs.Ytmaamlnooepogaa.app Go.Proofs.Ytmaamlnooepogaa.sym Go.Proofs.Ytmaamlnooepogaa.sub Go.Proofs.Ytmaamlnooepogaa.segs Go.Proofs.Ytmaamlnooepogaa.segsHelp Go.Proofs.Ytmaamlnooepogaa.kinds Go.Proofs.Ytmaamlnooepogaa.termFacts Go.Proofs.Ytmaamlnooepogaa.matchMath Go.Proofs.Ytmaamlnooepogaa.whole Go.Proofs.Ytmaamlnooepogaa.takeMath Go.Proofs.Ytmaamlnooepogaa.take Go.Proofs.Ytmaamlnooepogaa.extended Go.Proofs.Ytmaamlnooepogaa.varsOf Go.Proofs.Ytmaamlnooepogaa.shape Go.Proofs.Ytmaamlnooepogaa.kindsR Go.Proofs.Ytmaamlnooepogaa.ruleMath Go.Proofs.Ytmaamlnooepogaa.ruleSpec Go.Proofs.Ytmaamlnooepogaa.ruleImpl Go.Proofs.Ytmaamlnooepogaa.stepMath Go.Proofs.Ytmaamlnooepogaa.walkMath Go.Proofs.Ytmaamlnooepogaa.stepSpec
set_option maxRecDepth 100000

theorem right_of {sg : List Int} {rs : List Rl} {t : List Int} (h : sysOkB sg rs = true) : rightB sg rs t = termOkB sg t := by unfold rightB; rw [h]; rfl
theorem there_eq {sg : List Int} {rs : List Rl} {t : List Int} {a r : Int} (h : sysOkB sg rs = true) : thereR sg rs t a r = (thereB sg t a && walkMath.inB r rs.length) := by
  unfold thereR thereB walkMath.inB endAt.inB
  rw [right_of h, Bool.and_assoc]

set_option maxHeartbeats 4000000 in
theorem hasRedex (a v u : Value) (d : Dat sSystem) (t : List Int) (x r : Int) (w : World) (h : Rd w w.heap.size sSystem [a, v] d) (ht : Rd w w.heap.size sI [u] t) (hz : sz sSystem d ≤ 1048576) (hz' : sz sI t ≤ 1048576) (oks : sysOkB d.1 d.2 = true) :
    Calls Try.prog 61 #[.agg #[a, v], u, .int .i64 x, .int .i64 r] w (AnsB w (redexB d.1 d.2 t x r)) := by
  have h0 := h
  have ht0 := ht
  obtain ⟨T, m, c, rfl, hT, hcT⟩ := rd_ints.1 ht
  have hm := len_ints hT.1 hz'
  obtain ⟨A, n, cs, V, q, cv, rfl, rfl, hs, hc, hcv, hq, hn, hq1, hrs, hsg, hE⟩ := rd_sys h hz
  obtain ⟨W, hW, rA, bel⟩ := box1 w 76 #[.slice A n cs, .slice V q cv]
  have HW := Lib.hid hW
  have LP := Lib.hid (placeIn A T n cs m c d.1 t x W (hs.next bel) (hT.next bel) hn hm)
  have HQ := Lib.hid hq
  have LMA := Lib.hid (fun (w1 : World) (bb : Below w.heap.size w w1) (x k : Nat) hok hx hk => matchAt _ _ _ d t x k w1 (h0.next bb) (ht0.next bb) hz hok hx hk)
  have OKS := Lib.hid oks
  clear hW h h0 ht ht0 hz hz' hs hc hcv hq hrs hsg hE hT hcT oks
  obtain ⟨bp, hbp⟩ : ∃ bp, thereB d.1 t x = bp := ⟨_, rfl⟩
  have HP := Lib.hid hbp
  have HTH := Lib.hid (show thereR d.1 d.2 t x r = (bp && walkMath.inB r d.2.length) by rw [there_eq OKS.out, hbp])
  rw [hbp] at LP
  clear hbp
  cases bp with
  | false =>
    go_enter Try.func61, Try.ntmps61
    go_wp2_with fail
    rw [← HW.out]
    refine LP.out.mono ?_
    rintro e w1 ⟨rfl, bb⟩
    have F := Lib.hid (ansB (b := redexB d.1 d.2 t x r) (a := false) (by rw [redex_no (by rw [HTH.out]; rfl)]) (next_trans bel bb))
    clear bb bel rA LMA
    go_wp2
    go_ret
    exact F.out
  | true =>
    by_cases hr0 : r < 0
    · go_enter Try.func61, Try.ntmps61
      go_wp2_with fail
      rw [← HW.out]
      refine LP.out.mono ?_
      rintro e w1 ⟨rfl, bb⟩
      have F := Lib.hid (ansB (b := redexB d.1 d.2 t x r) (a := false) (by rw [redex_no (by rw [HTH.out]; unfold walkMath.inB; rw [decide_eq_false (by omega)]; rfl)]) (next_trans bel bb))
      clear bb bel rA LMA
      go_wp2
      go_ret
      exact F.out
    · obtain ⟨k, rfl⟩ := Int.eq_ofNat_of_zero_le (Int.not_lt.1 hr0)
      by_cases hkq : k < q
      · have hx := endAt.there_parts HP.out
        obtain ⟨i, rfl⟩ := Int.eq_ofNat_of_zero_le hx.2.1
        have hix : i < t.length := by omega
        have okR : rightB d.1 d.2 t = true := by rw [right_of OKS.out]; exact hx.1
        have hkl : k < d.2.length := by rw [HQ.out]; exact hkq
        have HRE := Lib.hid (show redexB d.1 d.2 t (i : Int) (k : Int) = (mst d.1 t (d.2.getD k ([], [])).1 i s0).isSome by
          rw [redex_yes (by rw [HTH.out]; unfold walkMath.inB; rw [decide_eq_true (by omega)]; rfl), red_at (sys_rule OKS.out hkl) hx.1 hix]
          unfold rl
          rw [Int.toNat_natCast, Int.toNat_natCast])
        have LM := Lib.hid (fun w1 bb => LMA.out w1 bb i k okR hix hkl)
        clear hx okR LMA HTH
        obtain ⟨R, hR⟩ : ∃ R, mst d.1 t (d.2.getD k ([], [])).1 i s0 = R := ⟨_, rfl⟩
        rw [hR] at LM HRE
        clear hR
        go_enter Try.func61, Try.ntmps61
        go_wp2_with fail
        rw [← HW.out]
        refine LP.out.mono ?_
        rintro e w1 ⟨rfl, bb⟩
        replace rA := rA.next bb
        replace bel := next_trans bel bb
        have K0 : w1.cell? ⟨w.heap.size, 0, none⟩ = some (.slice A n cs) := rA.cell 0
        have K1 : w1.cell? ⟨w.heap.size, 1, none⟩ = some (.slice V q cv) := rA.cell 1
        have hge : ¬ (q : Int) ≤ (k : Int) := by omega
        have LM1 := Lib.hid (LM.out w1 bel)
        clear bb LP LM rA
        go_wp2_with fail
        refine LM1.out.mono ?_
        rintro e w3 ⟨rs, rfl, tab, hsz, bb⟩
        have one := Lib.hid tab.one
        have h24 := Lib.hid tab.1
        obtain ⟨bo, hbo⟩ : ∃ bo, R.isSome = bo := ⟨_, rfl⟩
        rw [hbo]
        have F := Lib.hid (show AnsB w (redexB d.1 d.2 t (i : Int) (k : Int)) (.returned (.bool bo)) (w3.alloc (.cells rs 133)) from ⟨by rw [HRE.out, hbo], (next_trans bel bb).alloc (next_trans bel bb).size _⟩)
        clear tab hsz bb bel K0 K1 hbo LM1 HRE
        go_wp2_with (first
          | (refine rowAlloc rfl 133 rfl z24 zero_b ?_)
          | (refine rowStore rfl 133 _ _ rfl w3.heap.size rs z24 133 rfl rfl (heap_alloc_new w3 _) (by rw [h24.out]; exact size_b) (by rw [h24.out]; rfl) one.out ?_; rw [World.setRow_alloc_new]))
        go_ret
        exact F.out
      · go_enter Try.func61, Try.ntmps61
        go_wp2_with fail
        rw [← HW.out]
        refine LP.out.mono ?_
        rintro e w1 ⟨rfl, bb⟩
        replace rA := rA.next bb
        have K1 : w1.cell? ⟨w.heap.size, 1, none⟩ = some (.slice V q cv) := rA.cell 1
        have F := Lib.hid (ansB (b := redexB d.1 d.2 t x (k : Int)) (a := false) (by rw [redex_no (by rw [HTH.out, HQ.out]; unfold walkMath.inB; rw [decide_eq_false (by omega)]; rfl)]) (next_trans bel bb))
        have hge : (q : Int) ≤ (k : Int) := by omega
        clear bb bel rA LMA
        go_wp2
        go_ret
        exact F.out

set_option maxHeartbeats 4000000 in
theorem stepAt (a v u : Value) (d : Dat sSystem) (t : List Int) (x r : Int) (w : World) (h : Rd w w.heap.size sSystem [a, v] d) (ht : Rd w w.heap.size sI [u] t) (hz : sz sSystem d ≤ 1048576) (hz' : sz sI t ≤ 1048576) (oks : sysOkB d.1 d.2 = true) :
    Calls Try.prog 59 #[.agg #[a, v], u, .int .i64 x, .int .i64 r] w (AnsStep w (stepAtO d.1 d.2 t x r)) := by
  obtain ⟨W, hW, rA, bel⟩ := box1 w 76 #[a, v]
  have HW := Lib.hid hW
  have LH := Lib.hid (hasRedex a v u d t x r W (h.next bel) (ht.next bel) hz hz' oks)
  have LR := Lib.hid (fun (w1 : World) (bb : Below w.heap.size w w1) (x k : Nat) hok hx hk hred => reduced a v u d t x k w1 (h.next bb) (ht.next bb) hz hok hx hk hred)
  clear hW h ht hz hz'
  obtain ⟨bp, hbp⟩ : ∃ bp, redexB d.1 d.2 t x r = bp := ⟨_, rfl⟩
  rw [hbp] at LH
  cases bp with
  | false =>
    have HN := Lib.hid (show stepAtO d.1 d.2 t x r = none by
      cases e : stepAtO d.1 d.2 t x r with
      | none => rfl
      | some y => rw [stepAt_redex e] at hbp; cases hbp)
    clear hbp
    go_enter Try.func59, Try.ntmps59
    go_wp2_with fail
    rw [← HW.out]
    refine LH.out.mono ?_
    rintro e w1 ⟨rfl, bb⟩
    have F := Lib.hid (ansStep_nil (o := stepAtO d.1 d.2 t x r) HN.out (next_trans bel bb))
    clear bb bel rA LR
    go_wp2
    go_ret2
    exact F.out
  | true =>
    have hth : thereR d.1 d.2 t x r = true := by
      unfold redexB at hbp
      rw [Bool.and_eq_true] at hbp
      exact hbp.1
    obtain ⟨p1, p2, p3, p4⟩ := walkMath.there_parts hth
    obtain ⟨i, rfl⟩ := Int.eq_ofNat_of_zero_le p3.1
    obtain ⟨k, rfl⟩ := Int.eq_ofNat_of_zero_le p4.1
    rw [redex_yes hth] at hbp
    unfold rl at hbp
    rw [Int.toNat_natCast, Int.toNat_natCast] at hbp
    have LR1 := Lib.hid (fun w1 bb => LR.out w1 bb i k (right_yes p1 p2) (by omega) (by omega) hbp)
    have HE := Lib.hid (show stepAtO d.1 d.2 t (i : Int) (k : Int) = stepO d.1 (d.2.getD k ([], [])) t i by rw [at_yes hth]; unfold rl; rw [Int.toNat_natCast, Int.toNat_natCast])
    clear hth p1 p2 p3 p4 hbp LR oks
    go_enter Try.func59, Try.ntmps59
    go_wp2_with fail
    rw [← HW.out]
    refine LH.out.mono ?_
    rintro e w1 ⟨rfl, bb⟩
    replace rA := rA.next bb
    replace bel := next_trans bel bb
    have K0 : w1.cell? ⟨w.heap.size, 0, none⟩ = some a := rA.cell 0
    have K1 : w1.cell? ⟨w.heap.size, 1, none⟩ = some v := rA.cell 1
    have LR2 := Lib.hid (LR1.out w1 bel)
    clear bb LH LR1 rA
    go_wp2_with fail
    refine LR2.out.mono ?_
    rintro e w2 ⟨X, xn, xc, rfl, oX, bb⟩
    have F : AnsStep w (stepAtO d.1 d.2 t (i : Int) (k : Int)) (.returned (.tuple #[.slice X xn xc, .bool (stepO d.1 (d.2.getD k ([], [])) t i).isSome])) w2 := ⟨X, xn, xc, by rw [HE.out], by rw [HE.out]; exact Own.lower oX bel.size, next_trans bel bb⟩
    have HF := Lib.hid F
    clear F oX bb bel K0 K1 LR2
    generalize (stepO d.1 (d.2.getD k ([], [])) t i).isSome = bz at *
    go_wp2
    go_ret2
    exact HF.out

set_option maxHeartbeats 4000000 in
theorem implRedexAt (a v u : Value) (d : Dat sSystem) (t : List Int) (x r : Int) (w : World) (h : Rd w w.heap.size sSystem [a, v] d) (ht : Rd w w.heap.size sI [u] t) (hz : sz sSystem d ≤ 1048576) (hz' : sz sI t ≤ 1048576) (x1 : -9223372036854775808 ≤ x) (x2 : x ≤ 9223372036854775807) (r1 : -9223372036854775808 ≤ r) (r2 : r ≤ 9223372036854775807) :
    Calls Try.prog 21 #[.agg #[a, v], u, .int .i64 x, .int .i64 r] w (AnsB w (redexB d.1 d.2 t x r)) := by
  have hlets : ∃ A n c V q cv, a = .slice A n c ∧ v = .slice V q cv := by
    obtain ⟨A, n, c, V, q, cv, e1, e2, _⟩ := rd_sys h hz
    exact ⟨A, n, c, V, q, cv, e1, e2⟩
  obtain ⟨A, n, cs, V, q, cv, rfl, rfl⟩ := hlets
  obtain ⟨W, hW, rA, bel⟩ := box1 w 29 #[.slice A n cs, .slice V q cv]
  have HW := Lib.hid hW
  have LS := Lib.hid (systemOf _ _ d W (h.next bel) hz)
  have LH := Lib.hid (fun (w1 : World) (bb : Below w.heap.size w w1) oks => hasRedex _ _ u d t x r w1 (h.next bb) (ht.next bb) hz hz' oks)
  clear hW h ht hz hz'
  cases ok : sysOkB d.1 d.2 with
  | false =>
    have HS := Lib.hid ok
    clear ok
    go_enter Try.func21, Try.ntmps21
    go_wp2_with fail
    rw [← HW.out]
    refine LS.out.mono ?_
    rintro e w1 ⟨he, bb⟩
    rw [HS.out] at he
    have he : e = .returned (.tuple #[.agg #[.slice none 0 0, .slice none 0 0], .bool false]) := he
    subst he
    have F := Lib.hid (fun o => ansB (b := redexB d.1 d.2 t x r) (a := false) (by rw [redex_no (there_r (right_sys HS.out))]) ((next_trans bel bb).alloc (next_trans bel bb).size o))
    clear bb bel rA LH
    go_wp2
    go_ret
    exact F.out _
  | true =>
    have HS := Lib.hid ok
    clear ok
    go_enter Try.func21, Try.ntmps21
    go_wp2_with fail
    rw [← HW.out]
    refine LS.out.mono ?_
    rintro e w1 ⟨he, bb⟩
    rw [HS.out] at he
    have he : e = .returned (.tuple #[.agg #[.slice A n cs, .slice V q cv], .bool true]) := he
    subst he
    have b2 := (next_trans bel bb).alloc (next_trans bel bb).size (.cells #[.slice A n cs, .slice V q cv] 76)
    have LH1 := Lib.hid (LH.out _ b2 HS.out)
    have B2 := Lib.hid b2
    clear bb bel rA LH b2 LS
    go_wp2_with fail
    refine LH1.out.mono ?_
    rintro e w3 ⟨rfl, bb⟩
    have F := Lib.hid (show AnsB w (redexB d.1 d.2 t x r) (.returned (.bool (redexB d.1 d.2 t x r))) w3 from ⟨rfl, next_trans B2.out bb⟩)
    clear bb LH1 B2
    generalize redexB d.1 d.2 t x r = bz at *
    go_wp2
    go_ret
    exact F.out

set_option maxHeartbeats 4000000 in
theorem implStepAt (a v u : Value) (d : Dat sSystem) (t : List Int) (x r : Int) (w : World) (h : Rd w w.heap.size sSystem [a, v] d) (ht : Rd w w.heap.size sI [u] t) (hz : sz sSystem d ≤ 1048576) (hz' : sz sI t ≤ 1048576) (x1 : -9223372036854775808 ≤ x) (x2 : x ≤ 9223372036854775807) (r1 : -9223372036854775808 ≤ r) (r2 : r ≤ 9223372036854775807) :
    Calls Try.prog 19 #[.agg #[a, v], u, .int .i64 x, .int .i64 r] w (AnsStep w (stepAtO d.1 d.2 t x r)) := by
  have hlets : ∃ A n c V q cv, a = .slice A n c ∧ v = .slice V q cv := by
    obtain ⟨A, n, c, V, q, cv, e1, e2, _⟩ := rd_sys h hz
    exact ⟨A, n, c, V, q, cv, e1, e2⟩
  obtain ⟨A, n, cs, V, q, cv, rfl, rfl⟩ := hlets
  obtain ⟨W, hW, rA, bel⟩ := box1 w 29 #[.slice A n cs, .slice V q cv]
  have HW := Lib.hid hW
  have LS := Lib.hid (systemOf _ _ d W (h.next bel) hz)
  have LH := Lib.hid (fun (w1 : World) (bb : Below w.heap.size w w1) oks => stepAt _ _ u d t x r w1 (h.next bb) (ht.next bb) hz hz' oks)
  clear hW h ht hz hz'
  cases ok : sysOkB d.1 d.2 with
  | false =>
    have HS := Lib.hid ok
    clear ok
    go_enter Try.func19, Try.ntmps19
    go_wp2_with fail
    rw [← HW.out]
    refine LS.out.mono ?_
    rintro e w1 ⟨he, bb⟩
    rw [HS.out] at he
    have he : e = .returned (.tuple #[.agg #[.slice none 0 0, .slice none 0 0], .bool false]) := he
    subst he
    have F := Lib.hid (fun o => ansStep_nil (o := stepAtO d.1 d.2 t x r) (at_no (there_r (right_sys HS.out))) ((next_trans bel bb).alloc (next_trans bel bb).size o))
    clear bb bel rA LH
    go_wp2
    go_ret2
    exact F.out _
  | true =>
    have HS := Lib.hid ok
    clear ok
    go_enter Try.func19, Try.ntmps19
    go_wp2_with fail
    rw [← HW.out]
    refine LS.out.mono ?_
    rintro e w1 ⟨he, bb⟩
    rw [HS.out] at he
    have he : e = .returned (.tuple #[.agg #[.slice A n cs, .slice V q cv], .bool true]) := he
    subst he
    have b2 := (next_trans bel bb).alloc (next_trans bel bb).size (.cells #[.slice A n cs, .slice V q cv] 76)
    have LH1 := Lib.hid (LH.out _ b2 HS.out)
    have B2 := Lib.hid b2
    clear bb bel rA LH b2 LS
    go_wp2_with fail
    refine LH1.out.mono ?_
    rintro e w3 ⟨X, xn, xc, rfl, oX, bb⟩
    have F : AnsStep w (stepAtO d.1 d.2 t x r) (.returned (.tuple #[.slice X xn xc, .bool (stepAtO d.1 d.2 t x r).isSome])) w3 := ⟨X, xn, xc, rfl, Own.lower oX B2.out.size, next_trans B2.out bb⟩
    have HF := Lib.hid F
    clear F oX bb LH1 B2
    generalize (stepAtO d.1 d.2 t x r).isSome = bz at *
    go_wp2
    go_ret2
    exact HF.out
end Go.Proofs.Ytmaamlnooepogaa.stepImpl
end

section
/-
  PLAIN MATHEMATICS: the steps of a term and its redexes, counted place by place and rule by rule. Conditions: none but those named. By an AI agent.
-/
namespace Go.Proofs.Ytmaamlnooepogaa.stepsMath
open Go.Proofs.Ytmaamlnooepogaa.sig Go.Proofs.Ytmaamlnooepogaa.term Go.Proofs.Ytmaamlnooepogaa.termOk Go.Proofs.Ytmaamlnooepogaa.termFacts Go.Proofs.Ytmaamlnooepogaa.ruleMath Go.Proofs.Ytmaamlnooepogaa.stepMath Go.Proofs.Ytmaamlnooepogaa.walkMath

def stF (sg : List Int) (rs : List Rl) (t : List Int) (a r : Nat) : Option St := (stepO sg (rs.getD r ([], [])) t a).map fun v => ((a : Int), (r : Int), v)
/-- the steps at the first i places, and those by the first k rules at the next -/
def stN (sg : List Int) (rs : List Rl) (t : List Int) (i k : Nat) : List St := (List.range i).flatMap (fun a => (List.range rs.length).filterMap (stF sg rs t a)) ++ (List.range k).filterMap (stF sg rs t i)
section
variable {sg : List Int} {rs : List Rl} {t : List Int} {i k : Nat}
theorem st_zero : stN sg rs t 0 0 = [] := rfl
theorem st_all : stN sg rs t t.length 0 = stepsL sg rs t := by unfold stN; rw [List.range_zero, List.filterMap_nil, List.append_nil]; rfl
theorem st_row : stN sg rs t i rs.length = stN sg rs t (i + 1) 0 := by
  unfold stN
  rw [List.range_zero, List.filterMap_nil, List.append_nil, List.range_succ, List.flatMap_append]
  simp
theorem st_some {v : List Int} (h : stepO sg (rs.getD k ([], [])) t i = some v) : stN sg rs t i (k + 1) = stN sg rs t i k ++ [((i : Int), (k : Int), v)] := by
  unfold stN
  rw [List.range_succ, List.filterMap_append, ← List.append_assoc]
  have : stF sg rs t i k = some ((i : Int), (k : Int), v) := by unfold stF; rw [h]; rfl
  simp [this]
theorem st_none (h : stepO sg (rs.getD k ([], [])) t i = none) : stN sg rs t i (k + 1) = stN sg rs t i k := by
  unfold stN
  rw [List.range_succ, List.filterMap_append]
  have : stF sg rs t i k = none := by unfold stF; rw [h]; rfl
  simp [this]
theorem st_len : (stN sg rs t i k).length ≤ i * rs.length + k := by
  unfold stN
  rw [List.length_append]
  have h1 : ∀ n : Nat, ∀ a, ((List.range n).filterMap (stF sg rs t a)).length ≤ n := fun n a => by
    have := List.length_filterMap_le (stF sg rs t a) (List.range n)
    rwa [List.length_range] at this
  have h2 : ∀ i : Nat, ((List.range i).flatMap (fun a => (List.range rs.length).filterMap (stF sg rs t a))).length ≤ i * rs.length := fun i => by
    induction i with
    | zero => simp
    | succ i ih =>
      rw [List.range_succ, List.flatMap_append, List.length_append, Nat.add_mul]
      have := h1 rs.length i
      simp only [List.flatMap_cons, List.flatMap_nil, List.append_nil]
      omega
  have := h1 k i
  have := h2 i
  omega
end
/-- how many redexes there are at the first i places, and by the first k rules at the next -/
def rdN (sg : List Int) (rs : List Rl) (t : List Int) (i k : Nat) : Nat := ((List.range i).map fun a => rs.countP fun x => redB sg x t a).sum + (rs.take k).countP fun x => redB sg x t i
section
variable {sg : List Int} {rs : List Rl} {t : List Int} {i k : Nat}
theorem rd_zero : rdN sg rs t 0 0 = 0 := rfl
theorem rd_row : rdN sg rs t i rs.length = rdN sg rs t (i + 1) 0 := by
  unfold rdN
  rw [List.take_of_length_le (Nat.le_refl _), List.range_succ, List.map_append, List.sum_append]
  simp
theorem rd_step (h : k < rs.length) : rdN sg rs t i (k + 1) = rdN sg rs t i k + if redB sg (rs.getD k ([], [])) t i = true then 1 else 0 := by
  unfold rdN
  rw [List.take_succ_eq_append_getElem h, List.countP_append]
  have : rs.getD k ([], []) = rs[k] := by simp [List.getD, h]
  rw [this, List.countP_cons, List.countP_nil]
  omega
theorem rd_le : rdN sg rs t i k ≤ i * rs.length + k := by
  unfold rdN
  have h1 : (rs.take k).countP (fun x => redB sg x t i) ≤ k := Nat.le_trans (List.countP_le_length) (by rw [List.length_take]; omega)
  have h2 : ∀ i : Nat, ((List.range i).map fun a => rs.countP fun x => redB sg x t a).sum ≤ i * rs.length := fun i => by
    induction i with
    | zero => simp
    | succ i ih =>
      rw [List.range_succ, List.map_append, List.sum_append, Nat.add_mul]
      have : rs.countP (fun x => redB sg x t i) ≤ rs.length := List.countP_le_length
      simp only [List.map_cons, List.map_nil, List.sum_cons, List.sum_nil]
      omega
  have := h2 i
  omega
theorem rd_none : (rdN sg rs t t.length 0 = 0) ↔ ((List.range t.length).all fun a => rs.all fun x => !redB sg x t a) = true := by
  unfold rdN
  rw [List.take_zero, List.countP_nil, Nat.add_zero, List.sum_eq_zero_iff_forall_eq_nat]
  constructor
  · intro h
    rw [List.all_eq_true]
    intro a ha
    rw [List.all_eq_true]
    intro x hx
    have h1 := h _ (List.mem_map.2 ⟨a, ha, rfl⟩)
    rw [List.countP_eq_zero] at h1
    have := h1 x hx
    simpa using this
  · intro h y hy
    obtain ⟨a, ha, rfl⟩ := List.mem_map.1 hy
    rw [List.all_eq_true] at h
    have h1 := h a ha
    rw [List.all_eq_true] at h1
    rw [List.countP_eq_zero]
    intro x hx
    have := h1 x hx
    simpa using this
theorem normal_eq (h : rightB sg rs t = true) : normalB sg rs t = decide (rdN sg rs t t.length 0 = 0) := by
  unfold normalB
  rw [h, Bool.true_and, Bool.eq_iff_iff, decide_eq_true_iff, rd_none]
end
end Go.Proofs.Ytmaamlnooepogaa.stepsMath
end

section
/-
  CONTRACTS of the drawing helpers: spec.l1Byte, l1Below, l1Once, l1From, l1Odd; laws.big. Conditions: a cursor over at most 4096 bytes. By an AI agent.
-/
namespace Go.Proofs.Ytmaamlnooepogaa.dice
open Go.RowKit Go.Proofs.Ytmaamlnooepogaa.base Go.Proofs.Ytmaamlnooepogaa.ints Go.Proofs.Ytmaamlnooepogaa.cursor

/-- The slice value '.slice A n c' holds n bytes, in a block below B. -/
def SegB (w : World) (B : Nat) (A : Option Addr) (n : Nat) : Prop :=
  0 < n → ∃ b off, A = some ⟨b, off, none⟩ ∧ b < B ∧ ∀ j, j < n → ∃ x : Int, 0 ≤ x ∧ x ≤ 255 ∧ w.cell? ⟨b, off + j, none⟩ = some (.int .u8 x)
theorem SegB.keep {w w' : World} {B : Nat} {A : Option Addr} {n : Nat} (h : SegB w B A n) (hk : ∀ p : Addr, p.block < B → w'.cell? p = w.cell? p) : SegB w' B A n := fun hn => by
  obtain ⟨b, off, e, hb, hc⟩ := h hn
  refine ⟨b, off, e, hb, fun j hj => ?_⟩
  obtain ⟨x, h0, h1, h2⟩ := hc j hj
  exact ⟨x, h0, h1, (hk ⟨b, off + j, none⟩ hb).trans h2⟩

/-- a drawing cursor in block p, at byte i, its number h -/
structure DiceAt (w : World) (p : Nat) (A : Option Addr) (n c i : Nat) (h : Int) : Prop where
  row : Row w p 121 #[.slice A n c, .int .i64 i, .int .i64 h]
  le : i ≤ n
  s : SegB w p A n
  hn : n ≤ 4096
def Dice (w : World) (p : Nat) (A : Option Addr) (n c : Nat) : Prop := ∃ i h, DiceAt w p A n c i h

section
variable {w w' : World} {p : Nat} {A : Option Addr} {n c i : Nat} {h : Int}
theorem DiceAt.drewN (d : DiceAt w p A n c i h) (k : Nat) : DiceAt (w.drewN k) p A n c i h := ⟨d.row, d.le, d.s, d.hn⟩
theorem DiceAt.setH (d : DiceAt w p A n c i h) (h' : Int) : DiceAt (w.setCell ⟨p, 2, none⟩ (.int .i64 h')) p A n c i h' :=
  ⟨d.row.put 2 _, d.le, d.s.keep fun q hq => World.cell?_setCell_other w _ q _ (fun e => by subst e; exact Nat.lt_irrefl _ hq), d.hn⟩
theorem DiceAt.setI (d : DiceAt w p A n c i h) (hi : i < n) : DiceAt (w.setCell ⟨p, 1, none⟩ (.int .i64 ((i : Int) + 1))) p A n c (i + 1) h := by
  refine ⟨?_, hi, d.s.keep fun q hq => World.cell?_setCell_other w _ q _ (fun e => by subst e; exact Nat.lt_irrefl _ hq), d.hn⟩
  have e : (.int .i64 ((i : Int) + 1) : Value) = .int .i64 ((i + 1 : Nat) : Int) := by simp
  rw [← e]
  exact d.row.put 1 _
theorem Dice.next (d : Dice w p A n c) (hb : Below w.heap.size w w') : Dice w' p A n c := by
  obtain ⟨i, h, d⟩ := d
  have hp := d.row.lt
  exact ⟨i, h, d.row.next hb, d.le, d.s.keep fun q hq => hb.cell (Nat.lt_trans hq hp), d.hn⟩
theorem Dice.drewN (d : Dice w p A n c) (k : Nat) : Dice (w.drewN k) p A n c := by
  obtain ⟨i, h, d⟩ := d
  exact ⟨i, h, d.drewN k⟩
theorem Dice.lt (d : Dice w p A n c) : p < w.heap.size := by
  obtain ⟨i, h, d⟩ := d
  exact d.row.lt
/-- the cursor stays where blocks from p + 1 on are written -/
theorem Dice.keep (d : Dice w p A n c) (hb : Below (p + 1) w w') : Dice w' p A n c := by
  obtain ⟨i, h, d⟩ := d
  exact ⟨i, h, d.row.below hb (Nat.lt_succ_self _), d.le, d.s.keep fun q hq => hb.cell (Nat.lt_succ_of_lt hq), d.hn⟩
end

theorem i64_and255 (n : Int) : bits .and .i64 n 255 = n % 256 := by
  have h255 : (BitVec.ofInt 64 255).toNat = 2 ^ 8 - 1 := by decide
  have key : (BitVec.ofInt 64 n &&& BitVec.ofInt 64 255).toNat = (n % ((2 ^ 64 : Nat) : Int)).toNat % 2 ^ 8 := by
    rw [BitVec.toNat_and, BitVec.toNat_ofInt, h255, Nat.and_two_pow_sub_one_eq_mod]
  show IntKind.i64.wrap ((BitVec.ofInt 64 n &&& BitVec.ofInt 64 255).toNat : Nat) = n % 256
  rw [key, IntKind.wrap_i64]
  omega
theorem and255 (n : Int) : 0 ≤ bits .and .i64 n 255 ∧ bits .and .i64 n 255 ≤ 255 := by rw [i64_and255]; omega

/-- what a draw gives -/
def AnsDraw (w : World) (p : Nat) (A : Option Addr) (n c : Nat) (lo hi : Int) (e : Ending) (w' : World) : Prop :=
  ∃ x : Int, e = .returned (.int .i64 x) ∧ lo ≤ x ∧ x ≤ hi ∧ Dice w' p A n c ∧ w.grownBy w' (some p)
theorem draw_and {w w' : World} {p : Nat} {A : Option Addr} {n c i : Nat} {h y : Int} (hd : DiceAt w' p A n c i h) (hg : w.grownBy w' (some p)) : AnsDraw w p A n c 0 255 (.returned (.int .i64 (bits .and .i64 y 255))) w' :=
  ⟨_, rfl, (and255 y).1, (and255 y).2, ⟨i, h, hd⟩, hg⟩

set_option maxHeartbeats 1000000 in
theorem byte (p : Nat) (A : Option Addr) (n c : Nat) (w : World) (hd : Dice w p A n c) :
    Calls Try.prog 140 #[.pointer (some ⟨p, 0, none⟩)] w (AnsDraw w p A n c 0 255) := by
  obtain ⟨i, h, hd⟩ := hd
  have hr := hd.row
  have hn := hd.hn
  have c0 : w.cell? ⟨p, 0, none⟩ = some (.slice A n c) := hr.cell 0
  have c1 : w.cell? ⟨p, 1, none⟩ = some (.int .i64 i) := hr.cell 1
  have c2 : w.cell? ⟨p, 2, none⟩ = some (.int .i64 h) := hr.cell 2
  have f1 : w.frozen? ⟨p, 1, none⟩ = false := hr.free 1
  have f2 : w.frozen? ⟨p, 2, none⟩ = false := hr.free 2
  have HG := Lib.hid (World.grownBy.refl w (some p))
  by_cases hlt : i < n
  · obtain ⟨b, off, rfl, hb, hc⟩ := hd.s (by omega)
    obtain ⟨y, hy0, hy1, hy⟩ := hc i hlt
    have hne : b ≠ p := by omega
    have i0 : (0 : Int) ≤ (i : Int) := by omega
    have i1 : (i : Int) < (n : Int) := by omega
    have HD := Lib.hid hd
    clear hc hr hd
    go_enter Try.func140, Try.ntmps140
    go_wp2_with fail
    go_quiet (fail)
    go_wp2_with fail
    go_quiet (fail)
    go_wp2_with fail
    go_quiet (fail)
    go_wp2_with fail
    go_ret
    exact draw_and (((HD.out.setH _).drewN _).setI hlt) (grown_put (grown_drewN (grown_put HG.out _ _) _) _ _)
  · have i2 : decide (i < n) = false := by simp; omega
    have HD := Lib.hid hd
    clear hr hd
    go_enter Try.func140, Try.ntmps140
    go_wp2_with fail
    go_quiet (fail)
    go_wp2_with fail
    go_quiet (fail)
    go_wp2_with fail
    go_ret
    exact draw_and (((HD.out.setH _).drewN _).drewN _) (grown_drewN (grown_drewN (grown_put HG.out _ _) _) _)

/-- a number from 0 to N - 1 -/
theorem below (p : Nat) (A : Option Addr) (n c : Nat) (N : Int) (w : World) (hd : Dice w p A n c) (h1 : 1 ≤ N) (h2 : N ≤ 256) :
    Calls Try.prog 119 #[.pointer (some ⟨p, 0, none⟩), .int .i64 N] w (AnsDraw w p A n c 0 (N - 1)) := by
  have L := Lib.hid (byte p A n c w hd)
  clear hd
  go_enter Try.func119, Try.ntmps119
  go_wp2_with fail
  refine L.out.mono ?_
  rintro e w' ⟨x, rfl, h3, h4, hd, hg⟩
  have F : AnsDraw w p A n c 0 (N - 1) (.returned (.int .i64 (x % N))) w' := ⟨_, rfl, Int.emod_nonneg _ (by omega), by have := Int.emod_lt_of_pos x (show 0 < N by omega); omega, hd, hg⟩
  have HF := Lib.hid F
  clear F hd hg L
  go_wp2
  go_ret
  exact HF.out

/-- a bool -/
def AnsFlip (w : World) (p : Nat) (A : Option Addr) (n c : Nat) (e : Ending) (w' : World) : Prop := ∃ b : Bool, e = .returned (.bool b) ∧ Dice w' p A n c ∧ w.grownBy w' (some p)
theorem once (p : Nat) (A : Option Addr) (n c : Nat) (N : Int) (w : World) (hd : Dice w p A n c) (h1 : 1 ≤ N) (h2 : N ≤ 256) :
    Calls Try.prog 118 #[.pointer (some ⟨p, 0, none⟩), .int .i64 N] w (AnsFlip w p A n c) := by
  have L := Lib.hid (below p A n c N w hd h1 h2)
  clear hd
  go_enter Try.func118, Try.ntmps118
  go_wp2_with fail
  refine L.out.mono ?_
  rintro e w' ⟨x, rfl, h3, h4, hd, hg⟩
  have F : AnsFlip w p A n c (.returned (.bool (x == 0))) w' := ⟨_, rfl, hd, hg⟩
  have HF := Lib.hid F
  clear F hd hg L
  by_cases h0 : x = 0
  · subst h0
    go_wp2
    go_ret
    exact HF.out
  · have e1 : (x == 0) = false := by simp [h0]
    rw [e1] at HF
    go_wp2
    go_ret
    exact HF.out

/-- a number from lo to hi -/
theorem fromTo (p : Nat) (A : Option Addr) (n c : Nat) (lo hi : Int) (w : World) (hd : Dice w p A n c) (h1 : lo ≤ hi) (h2 : hi - lo ≤ 255) (h3 : -1000 ≤ lo) (h4 : hi ≤ 1000) :
    Calls Try.prog 141 #[.pointer (some ⟨p, 0, none⟩), .int .i64 lo, .int .i64 hi] w (AnsDraw w p A n c lo hi) := by
  have L := Lib.hid (below p A n c (hi - lo + 1) w hd (by omega) (by omega))
  clear hd
  go_enter Try.func141, Try.ntmps141
  go_wp2_with fail
  refine L.out.mono ?_
  rintro e w' ⟨x, rfl, h5, h6, hd, hg⟩
  have F : AnsDraw w p A n c lo hi (.returned (.int .i64 (lo + x))) w' := ⟨_, rfl, by omega, by omega, hd, hg⟩
  have HF := Lib.hid F
  clear F hd hg L
  go_wp2
  go_ret
  exact HF.out

/-- some number -/
def AnsAny (w : World) (p : Nat) (A : Option Addr) (n c : Nat) (e : Ending) (w' : World) : Prop := ∃ x : Int, e = .returned (.int .i64 x) ∧ Dice w' p A n c ∧ w.grownBy w' (some p)
theorem Dice.alloc {w : World} {p : Nat} {A : Option Addr} {n c : Nat} (d : Dice w p A n c) (o : Obj) : Dice (w.alloc o) p A n c := d.next ((Below.refl _ _).alloc (Nat.le_refl _) _)

def oddCells : Array Value := #[.int .i64 (-1), .int .i64 0, .int .i64 1, .int .i64 2147483648, .int .i64 (-2147483648), .int .i64 1099511627776, .int .i64 4611686018427387904, .int .i64 (-4611686018427387904), .int .i64 9223372036854775807, .int .i64 (-9223372036854775808)]
theorem oddCells_at (k : Nat) (h : k < 10) : ∃ y : Int, oddCells[k]? = some (.int .i64 y) := by
  match k, h with
  | 0, _ => exact ⟨_, rfl⟩
  | 1, _ => exact ⟨_, rfl⟩
  | 2, _ => exact ⟨_, rfl⟩
  | 3, _ => exact ⟨_, rfl⟩
  | 4, _ => exact ⟨_, rfl⟩
  | 5, _ => exact ⟨_, rfl⟩
  | 6, _ => exact ⟨_, rfl⟩
  | 7, _ => exact ⟨_, rfl⟩
  | 8, _ => exact ⟨_, rfl⟩
  | 9, _ => exact ⟨_, rfl⟩
set_option maxHeartbeats 1000000 in
theorem odd (p : Nat) (A : Option Addr) (n c : Nat) (w : World) (hd : Dice w p A n c) :
    Calls Try.prog 142 #[.pointer (some ⟨p, 0, none⟩)] w (AnsAny w p A n c) := by
  have hp := hd.lt
  have D := Lib.hid (fun o => below p A n c 10 (w.alloc o) (Dice.alloc hd o) (by omega) (by omega))
  clear hd
  go_enter Try.func142, Try.ntmps142
  go_wp2_with fail
  refine (D.out _).mono ?_
  rintro e w' ⟨x, rfl, h5, h6, hd, hg⟩
  obtain ⟨k, rfl⟩ := Int.eq_ofNat_of_zero_le h5
  obtain ⟨y, hy⟩ := oddCells_at k (by omega)
  have r0 : Row (w.alloc (.cells oddCells 2)) w.heap.size 2 oddCells := Row.new _ _ _
  have r1 : Row w' w.heap.size 2 oddCells := (hg.block w.heap.size r0.lt (fun e => by injection e; omega)).trans r0
  have c1 : w'.cell? ⟨w.heap.size, k, none⟩ = some (.int .i64 y) := (r1.cell k).trans hy
  have F : AnsAny w p A n c (.returned (.int .i64 y)) w' := ⟨y, rfl, hd, grown_trans (World.grownBy_alloc w _ _) hg⟩
  have HF := Lib.hid F
  have i1 : (k : Int) < 10 := by omega
  clear F hd hg r0 r1 hy D
  go_wp2
  go_ret
  exact HF.out
end Go.Proofs.Ytmaamlnooepogaa.dice
end

section
/-
  CONTRACTS: spec.l1DrawSig, spec.l1DrawSigAny: a drawn signature. Conditions: a drawing cursor ('Dice'). By an AI agent.
-/
namespace Go.Proofs.Ytmaamlnooepogaa.drawSig
open Go.RowKit Go.Proofs.Ytmaamlnooepogaa.base Go.Proofs.Ytmaamlnooepogaa.ints Go.Proofs.Ytmaamlnooepogaa.sig Go.Proofs.Ytmaamlnooepogaa.cursor Go.Proofs.Ytmaamlnooepogaa.marks Go.Proofs.Ytmaamlnooepogaa.app Go.Proofs.Ytmaamlnooepogaa.sym Go.Proofs.Ytmaamlnooepogaa.dice
set_option maxRecDepth 100000

/-- one number appended, at a step of a region that draws -/
theorem stepApp1 {w : World} {ops : Array Oper} {o : Oper} {a : Act} {K : Act → World → Prop} {Q : Exit → Act → World → Prop} {E : Prop} (hgd : o.guard = none) (s x : Operand)
    (ho : o.op = .call { callee := .builtin .append, args := #[s, x], argTypes := #[24, 24] })
    (base : Nat) (A : Option Addr) (n c : Nat) (xs : List Int) (hs : a.eval s = .slice A n c) (hown : Own w base (.slice A n c) xs)
    (g c2 : Nat) (y : Int) (hx : a.eval x = .slice (some ⟨g, 0, none⟩) 1 c2) (hy : w.cell? ⟨g, 0, none⟩ = some (.int .i64 y)) (hn : n ≤ 2097152) (hbase : base ≤ w.heap.size)
    (h : ∀ g' c' w', Own w' base (.slice (some ⟨g', 0, none⟩) (n + 1) c') (xs ++ [y]) → w.grownBy w' (blk A) → (blk A = some g' ∨ g' = w.heap.size) → g' < w'.heap.size → K (a.put o.dst (.slice (some ⟨g', 0, none⟩) (n + 1) c')) w') :
    if Region.wanted o (yielded ops a.tmps) = true then Oper.wp Try.prog o a w K Q else E := by
  obtain ⟨i0, hi, hz0, hz1, hz2⟩ := info_parts info_i64
  have hl : xs.length = n := by
    obtain ⟨A', c', e⟩ := hown.slice
    injection e with _ e _
    exact e.symm
  have hob : (Value.slice A n c).ownBlock = blk A := by cases A <;> rfl
  refine step_append_lies w hgd s x 24 ho base 2 i0 (.int .i64 0) 1 8 Try.underlying24 hi hz0 hz1 hz2 rfl (by decide) (.slice A n c) n (xs.map (Value.int .i64)) hs (by rw [← hl]; rw [← hl] at hown; exact hown)
    ⟨g, 0, none⟩ 1 c2 [.int .i64 y] hx rfl (fun j u hj => ?_) (fun u hu => ?_) (by omega) (by unfold maxLen; omega) (by omega) hbase w.heap.size rfl ?_
  · match j, hj with
    | 0, hj => simp at hj; subst hj; simpa [Addr.add] using hy
  · simp at hu; subst hu; rfl
  · intro g' c' w' hown' hg hat hlt
    have e : xs.map (Value.int .i64) ++ [.int .i64 y] = (xs ++ [y]).map (Value.int .i64) := by simp
    rw [e] at hown'
    rw [hob] at hg hat
    refine h g' c' w' ?_ hg hat hlt
    have hl2 : (xs ++ [y]).length = n + 1 := by simp [hl]
    unfold Own
    rw [hl2]
    exact hown'

/-- a drawn signature -/
def AnsSigD (w : World) (p : Nat) (A : Option Addr) (n c : Nat) (P : List Int → Prop) (e : Ending) (w' : World) : Prop :=
  ∃ O on oc xs, e = .returned (.agg #[.slice O on oc]) ∧ Own w' w.heap.size (.slice O on oc) xs ∧ P xs ∧ Dice w' p A n c ∧ w.grownBy w' (some p)
/-- a good one -/
def Good (xs : List Int) : Prop := 1 ≤ xs.length ∧ xs.length ≤ 4 ∧ ∀ j, j < xs.length → 0 ≤ xs.getD j 0 ∧ xs.getD j 0 ≤ 2

theorem good_snoc {xs : List Int} {x : Int} (h1 : 1 ≤ xs.length) (h2 : xs.length ≤ 3) (h : ∀ j, j < xs.length → 0 ≤ xs.getD j 0 ∧ xs.getD j 0 ≤ 2) (h0 : 0 ≤ x) (hx : x ≤ 2) : Good (xs ++ [x]) := by
  refine ⟨by simp, by simp; omega, fun j hj => ?_⟩
  by_cases e : j < xs.length
  · have := h j e
    simpa [List.getD, e, List.getElem?_append_left e] using this
  · have e2 : j = xs.length := by simp at hj; omega
    subst e2
    simp [List.getD]
    omega

/-- the state of a signature that is being drawn: result cell in block N, the variable in block v -/
structure SigSt (w : World) (p : Nat) (A : Option Addr) (n c : Nat) (v : Nat) (wr : World) (O : Option Addr) (on oc : Nat) (xs : List Int) : Prop where
  own : Own wr w.heap.size (.slice O on oc) xs
  rV : Row wr v 26 #[.slice O on oc]
  rN : Row wr w.heap.size 26 #[.slice none 0 0]
  nV : blk O ≠ some v
  nN : blk O ≠ some w.heap.size
  hv : w.heap.size < v
  d : Dice wr p A n c
  g : w.grownBy wr (some p)
  hp : p < w.heap.size

theorem row_grown {w w' : World} {g : Nat} {t : TypeId} {cs : Array Value} {r : Option Nat} (h : Row w g t cs) (hg : w.grownBy w' r) (hr : r ≠ some g) : Row w' g t cs := Row.away h hg hr
theorem Own.away {w w' : World} {base : Nat} {O : Option Addr} {on oc : Nat} {xs : List Int} {r : Option Nat} (h : Own w base (.slice O on oc) xs) (hg : w.grownBy w' r) (hr : ∀ k, r = some k → k < base) : Own w' base (.slice O on oc) xs := Own.far h hg hr

section
variable {w : World} {p : Nat} {A : Option Addr} {n c v : Nat} {wr : World} {O : Option Addr} {on oc : Nat} {xs : List Int}
/-- behind a draw from the dice -/
theorem SigSt.dice {w' : World} (s : SigSt w p A n c v wr O on oc xs) (d : Dice w' p A n c) (hg : wr.grownBy w' (some p)) : SigSt w p A n c v w' O on oc xs :=
  ⟨Own.far s.own hg (fun k hk => by injection hk; have := s.hp; omega), Row.away s.rV hg (fun e => by injection e; have := s.hp; have := s.hv; omega), Row.away s.rN hg (fun e => by injection e; have := s.hp; omega), s.nV, s.nN, s.hv, d, grown_trans s.g hg, s.hp⟩
theorem SigSt.alloc (s : SigSt w p A n c v wr O on oc xs) (o : Obj) : SigSt w p A n c v (wr.alloc o) O on oc xs :=
  ⟨Own.alloc s.own o, s.rV.alloc o, s.rN.alloc o, s.nV, s.nN, s.hv, s.d.alloc o, grown_trans s.g (World.grownBy_alloc wr o _), s.hp⟩
theorem SigSt.drew (s : SigSt w p A n c v wr O on oc xs) : SigSt w p A n c v wr.drew O on oc xs :=
  ⟨Own.drew s.own, s.rV.drew, s.rN.drew, s.nV, s.nN, s.hv, s.d.drewN 1, grown_drewN s.g 1, s.hp⟩
/-- a new slice stored into the variable -/
theorem SigSt.put {w' : World} {O' : Option Addr} {on' oc' : Nat} {ys : List Int} (s : SigSt w p A n c v wr O on oc xs) (ho : Own w' w.heap.size (.slice O' on' oc') ys) (hg : wr.grownBy w' (blk O)) (hat : blk O' = blk O ∨ blk O' = some wr.heap.size) (hO : ∀ k, blk O = some k → w.heap.size ≤ k) :
    SigSt w p A n c v (w'.setCell ⟨v, 0, none⟩ (.slice O' on' oc')) O' on' oc' ys := by
  have hpk : ∀ k, blk O = some k → p + 1 ≤ k := fun k hk => by have := hO k hk; have := s.hp; omega
  have zw := s.rV.lt
  have zn := s.rN.lt
  have nV' : blk O' ≠ some v := by
    rcases hat with h | h
    · rw [h]; exact s.nV
    · rw [h]; intro e; injection e; omega
  have nN' : blk O' ≠ some w.heap.size := by
    rcases hat with h | h
    · rw [h]; exact s.nN
    · rw [h]; intro e; injection e; omega
  have r1 := Row.away s.rV hg s.nV
  have r2 := Row.away s.rN hg s.nN
  have b1 : Below (p + 1) wr w' := (Below.refl _ _).grown hg (by have := s.hp; omega) hpk
  have b0 : Below w.heap.size wr w' := (Below.refl _ _).grown hg (by have := s.g.size; omega) hO
  refine ⟨?_, r1.put 0 _, r2.far (p := ⟨v, 0, none⟩) (by have := s.hv; simp; omega) _, nV', nN', s.hv, ?_, ?_, s.hp⟩
  · have hk : w'.grownBy (w'.setCell ⟨v, 0, none⟩ (.slice O' on' oc')) (some v) := grown_put (World.grownBy.refl _ _) 0 _
    refine World.ownsRow.kept ho hk ?_
    cases O' with
    | none => exact .inl rfl
    | some a => exact .inr (fun e => nV' (by simpa [Value.ownBlock, blk] using e))
  · have d1 := s.d.keep b1
    obtain ⟨i, h, d1⟩ := d1
    have hvp : p < v := by have := s.hp; have := s.hv; omega
    exact ⟨i, h, d1.row.far (p := ⟨v, 0, none⟩) (by simp; omega) _, d1.le, d1.s.keep fun q hq => World.cell?_setCell_other w' _ q _ (fun e => by subst e; have hq : v < p := hq; omega), d1.hn⟩
  · refine ⟨b0.os.trans s.g.os, b0.tape.trans s.g.tape, b0.output.trans s.g.output, by have := s.g.size; have := b0.size; simp only [World.size_setCell]; omega, fun k hk hne => ?_⟩
    rw [Below.heap_setCell _ _ _ _ (by have := s.hv; intro e; have e : k = v := e; omega), b0.block k hk]
    exact s.g.block k hk hne
/-- the result -/
theorem SigSt.result {P : List Int → Prop} (s : SigSt w p A n c v wr O on oc xs) (hP : P xs) (hO : blk O ≠ some w.heap.size) : AnsSigD w p A n c P (.returned (.agg #[.slice O on oc])) (wr.setCell ⟨w.heap.size, 0, none⟩ (.slice O on oc)) := by
  refine ⟨O, on, oc, xs, rfl, ?_, hP, ?_, ?_⟩
  · have hk : wr.grownBy (wr.setCell ⟨w.heap.size, 0, none⟩ (.slice O on oc)) (some w.heap.size) := grown_put (World.grownBy.refl _ _) 0 _
    refine World.ownsRow.kept s.own hk ?_
    cases O with
    | none => exact .inl rfl
    | some a => exact .inr (fun e => hO (by simpa [Value.ownBlock, blk] using e))
  · obtain ⟨i, h, d1⟩ := s.d
    have hp := s.hp
    exact ⟨i, h, d1.row.far (p := ⟨w.heap.size, 0, none⟩) (by simp; omega) _, d1.le, d1.s.keep fun q hq => World.cell?_setCell_other wr _ q _ (fun e => by subst e; have hq : w.heap.size < p := hq; omega), d1.hn⟩
  · refine ⟨s.g.os, s.g.tape, s.g.output, by simpa using s.g.size, fun k hk hne => ?_⟩
    rw [Below.heap_setCell _ _ _ _ (by intro e; have e : k = w.heap.size := e; omega)]
    exact s.g.block k hk hne
end

def HeadSigD (w : World) (p : Nat) (A : Option Addr) (n c v : Nat) (i : Value) (wr : World) : Prop :=
  ∃ (k : Nat) (O : Option Addr) (on oc : Nat) (xs : List Int), i = .int .i64 k ∧ SigSt w p A n c v wr O on oc xs ∧ 1 ≤ xs.length ∧ xs.length + k ≤ 4 ∧ ∀ j, j < xs.length → 0 ≤ xs.getD j 0 ∧ xs.getD j 0 ≤ 2

set_option maxHeartbeats 4000000 in
theorem drawSig (p : Nat) (A : Option Addr) (n c : Nat) (w : World) (hd : Dice w p A n c) :
    Calls Try.prog 138 #[.pointer (some ⟨p, 0, none⟩)] w (AnsSigD w p A n c Good) := by
  have hp := hd.lt
  obtain ⟨W, hW⟩ : ∃ W, W = ((w.alloc (.cells #[.slice none 0 0] 26)).alloc (.cells #[.int .i64 2, .int .i64 1, .int .i64 0] 2)).alloc (.cells #[.slice (some ⟨w.heap.size + 1, 0, none⟩) 3 3] 26) := ⟨_, rfl⟩
  have S0 : SigSt w p A n c (w.heap.size + 1 + 1) W (some ⟨w.heap.size + 1, 0, none⟩) 3 3 [2, 1, 0] := by
    rw [hW]
    have r1 : Row (((w.alloc (.cells #[.slice none 0 0] 26)).alloc (.cells #[.int .i64 2, .int .i64 1, .int .i64 0] 2)).alloc (.cells #[.slice (some ⟨w.heap.size + 1, 0, none⟩) 3 3] 26)) (w.heap.size + 1) 2 #[.int .i64 2, .int .i64 1, .int .i64 0] := by
      have := (Row.new (w.alloc (.cells #[.slice none 0 0] 26)) 2 #[.int .i64 2, .int .i64 1, .int .i64 0]).alloc (.cells #[.slice (some ⟨w.heap.size + 1, 0, none⟩) 3 3] 26)
      simpa using this
    refine ⟨Own.of_row r1 rfl rfl (Nat.le_refl _) (by omega) (by omega) (fun j hj => ?_), ?_, ((Row.new _ _ _).alloc _).alloc _, by simp [blk], by simp [blk], by omega, ((hd.alloc _).alloc _).alloc _, grown_trans (grown_trans (World.grownBy_alloc _ _ _) (World.grownBy_alloc _ _ _)) (World.grownBy_alloc _ _ _), hp⟩
    · match j, hj with
      | 0, _ => rfl
      | 1, _ => rfl
      | 2, _ => rfl
    · have := Row.new ((w.alloc (.cells #[.slice none 0 0] 26)).alloc (.cells #[.int .i64 2, .int .i64 1, .int .i64 0] 2)) 26 #[.slice (some ⟨w.heap.size + 1, 0, none⟩) 3 3]
      simpa using this
  have HW := Lib.hid hW
  clear hW
  have L := Lib.hid (once p A n c 4 W S0.d (by omega) (by omega))
  clear hd
  go_enter Try.func138, Try.ntmps138
  go_wp2_with fail
  rw [← HW.out]
  refine L.out.mono ?_
  rintro e w1 ⟨b, rfl, d1, g1⟩
  have S1 := S0.dice d1 g1
  have cV : w1.cell? ⟨w.heap.size + 1 + 1, 0, none⟩ = some (.slice (some ⟨w.heap.size + 1, 0, none⟩) 3 3) := S1.rV.cell 0
  have cN : w1.cell? ⟨w.heap.size, 0, none⟩ = some (.slice none 0 0) := S1.rN.cell 0
  have fV : w1.frozen? ⟨w.heap.size + 1 + 1, 0, none⟩ = false := S1.rV.free 0
  have fN : w1.frozen? ⟨w.heap.size, 0, none⟩ = false := S1.rN.free 0
  clear d1 g1 S0 L
  cases b with
  | false =>
    have F := Lib.hid (S1.result (P := Good) ⟨by decide, by decide, fun j hj => by match j, hj with | 0, _ => decide | 1, _ => decide | 2, _ => decide⟩ S1.nN)
    clear S1
    go_wp2
    exact bodyPost_ret (v := .agg #[.slice (some ⟨w.heap.size + 1, 0, none⟩) 3 3]) (by simp [results, Try.results138, go_sem, cN]) rfl F.out
  | true =>
    have zV : w.heap.size + 1 + 1 < w1.heap.size := S1.rV.lt
    obtain ⟨W2, hW2⟩ : ∃ W2, W2 = (w1.setCell ⟨w.heap.size + 1 + 1, 0, none⟩ (.slice (some ⟨w1.heap.size, 0, none⟩) 1 1)).alloc (.cells #[.int .i64 0] 2) := ⟨_, rfl⟩
    have S2 : SigSt w p A n c (w.heap.size + 1 + 1) W2 (some ⟨w1.heap.size, 0, none⟩) 1 1 [0] := by
      rw [hW2, ← World.setCell_alloc_past (hn := zV)]
      exact S1.put (Own.of_row (Row.new _ _ _) rfl rfl (Nat.le_refl _) (by omega) (by omega) (fun j hj => by match j, hj with | 0, _ => rfl)) (World.grownBy_alloc _ _ _) (.inr rfl) (fun k hk => by have hk : w.heap.size + 1 = k := Option.some.inj hk; omega)
    have HW2 := Lib.hid hW2
    have L2 := Lib.hid (below p A n c 4 W2 S2.d (by omega) (by omega))
    clear hW2 S1
    go_wp2_with fail
    rw [← HW2.out]
    refine L2.out.mono ?_
    rintro e w3 ⟨x, rfl, x0, x1, d3, g3⟩
    obtain ⟨k0, rfl⟩ := Int.eq_ofNat_of_zero_le x0
    have S3 := S2.dice d3 g3
    have H0 : HeadSigD w p A n c (w.heap.size + 1 + 1) (.int .i64 (k0 : Int)) w3 := ⟨k0, _, _, _, _, rfl, S3, by decide, by simp; omega, fun j hj => by match j, hj with | 0, _ => decide⟩
    have HH := Lib.hid H0
    clear H0 S3 S2 d3 g3 L2 cV cN fV fN
    go_wp2_with fail
    go_loopw [4] (fun i wr => HeadSigD w p A n c (w.heap.size + 1 + 1) i wr) (fun i _ => (intOf i).toNat)
    case atStart => exact HH.out
    case round =>
      obtain ⟨k, O, on, oc, xs, rfl, S, hx1, hx2, hxs⟩ := hrel
      clear HH
      have cV : wr.cell? ⟨w.heap.size + 1 + 1, 0, none⟩ = some (.slice O on oc) := S.rV.cell 0
      have cN : wr.cell? ⟨w.heap.size, 0, none⟩ = some (.slice none 0 0) := S.rN.cell 0
      have fV : wr.frozen? ⟨w.heap.size + 1 + 1, 0, none⟩ = false := S.rV.free 0
      have fN : wr.frozen? ⟨w.heap.size, 0, none⟩ = false := S.rN.free 0
      have zV : w.heap.size + 1 + 1 < wr.heap.size := S.rV.lt
      by_cases hk : k = 0
      · subst hk
        have F := Lib.hid (S.result (P := Good) ⟨hx1, by omega, hxs⟩ S.nN)
        clear S
        go_wp2
        exact bodyPost_ret (v := .agg #[.slice O on oc]) (by simp [results, Try.results138, go_sem, cN]) rfl F.out
      · have k1 : (0 : Int) < (k : Int) := by omega
        have S' := S.drew
        clear S
        go_wp2_with fail
        go_region_law (first
          | (refine stepApp1 rfl _ _ rfl w.heap.size O on oc xs (by simp [Act.eval, Act.put]) (Own.alloc S5.own _) w5.heap.size 1 x (by simp [Act.eval, Act.put]) ((Row.new _ _ _).cell 0) (by omega) (by simp; omega) ?_; intro O' oc' w6 ho6 hg6 hat6 hlt6; have r6 := Row.away (S5.alloc _).rV hg6 S5.nV; have cV6 : w6.cell? ⟨w.heap.size + 1 + 1, 0, none⟩ = some (.slice O on oc) := r6.cell 0; have fV6 : w6.frozen? ⟨w.heap.size + 1 + 1, 0, none⟩ = false := r6.free 0)
          | (go_simp; go_at_call 119; refine (below p A n c 3 _ S'.d (by omega) (by omega)).mono ?_; rintro e w5 ⟨x, rfl, x0, x1, d5, g5⟩; have S5 := S'.dice d5 g5; have cV5 : w5.cell? ⟨w.heap.size + 1 + 1, 0, none⟩ = some (.slice O on oc) := S5.rV.cell 0; have zV5 : w.heap.size + 1 + 1 < w5.heap.size := S5.rV.lt; have hon : on ≤ 4 := by have := Own.len S5.own; omega))
        all_goals
          have S6 := SigSt.put (S5.alloc (.cells #[.int .i64 x] 2)) ho6 hg6 (hat6.elim (fun h => .inl h.symm) (fun h => .inr (by rw [h]; rfl))) (Own.ge S5.own)
          have G := good_snoc hx1 (by omega) hxs x0 (by omega)
          have F : HeadSigD w p A n c (w.heap.size + 1 + 1) (.int .i64 ((k : Int) - 1)) (w6.setCell ⟨w.heap.size + 1 + 1, 0, none⟩ (.slice (some ⟨O', 0, none⟩) (on + 1) oc')) :=
            ⟨k - 1, _, _, _, _, congrArg (Value.int .i64) (by omega), S6, G.1, by simp; omega, G.2.2⟩
          have HF := Lib.hid F
          clear F G S6 S5 S' ho6 hg6 hat6 hlt6 r6 cV6 fV6 d5 g5 cV5
          go_wp2
          go_roundw
          case rel => exact HF.out
          case measure => simp [intOf]; omega

/-- a short one -/
def Short (xs : List Int) : Prop := xs.length ≤ 9

theorem Own.blk_lt {w : World} {base : Nat} {O : Option Addr} {on oc : Nat} {xs : List Int} (h : Own w base (.slice O on oc) xs) : ∀ k, blk O = some k → k < w.heap.size := fun k hk => by
  refine (World.ownsRow.lt h k ?_).2
  cases O with
  | none => cases hk
  | some a => exact hk

set_option maxHeartbeats 4000000 in
theorem drawSigAny (p : Nat) (A : Option Addr) (n c : Nat) (w : World) (hd : Dice w p A n c) :
    Calls Try.prog 121 #[.pointer (some ⟨p, 0, none⟩)] w (AnsSigD w p A n c Short) := by
  have hp := hd.lt
  obtain ⟨W, hW⟩ : ∃ W, W = w.alloc (.cells #[.slice none 0 0] 26) := ⟨_, rfl⟩
  have rN : Row W w.heap.size 26 #[.slice none 0 0] := by rw [hW]; exact Row.new _ _ _
  have g0 : w.grownBy W (some p) := by rw [hW]; exact World.grownBy_alloc _ _ _
  have d0 : Dice W p A n c := by rw [hW]; exact hd.alloc _
  have zW : W.heap.size = w.heap.size + 1 := by rw [hW]; simp
  have HW := Lib.hid hW
  have L := Lib.hid (drawSig p A n c W d0)
  clear hW hd d0
  go_enter Try.func121, Try.ntmps121
  go_wp2_with fail
  rw [← HW.out]
  refine L.out.mono ?_
  rintro e w2 ⟨O, on, oc, xs, rfl, ho, hgood, d2, g2⟩
  rw [zW] at ho
  have rN2 : Row w2 w.heap.size 26 #[.slice none 0 0] := Row.away rN g2 (fun e => by injection e; omega)
  have zN := rN2.lt
  have hxs := hgood.2.1
  have hx1 := hgood.1
  obtain ⟨W3, hW3⟩ : ∃ W3, W3 = w2.alloc (.cells #[.slice O on oc] 26) := ⟨_, rfl⟩
  have S3 : SigSt w p A n c w2.heap.size W3 O on oc xs := by
    rw [hW3]
    refine ⟨Own.alloc (Own.lower ho (Nat.le_succ _)) _, Row.new _ _ _, rN2.alloc _, fun e => ?_, fun e => ?_, zN, d2.alloc _, grown_trans (grown_trans g0 g2) (World.grownBy_alloc _ _ _), hp⟩
    · have := Own.blk_lt ho _ e; omega
    · have := Own.ge ho _ e; omega
  have HW3 := Lib.hid hW3
  have L3 := Lib.hid (once p A n c 15 W3 S3.d (by omega) (by omega))
  obtain ⟨v, hv⟩ : ∃ v, w2.heap.size = v := ⟨_, rfl⟩
  have HV := Lib.hid hv
  clear ho hgood d2 g2 rN rN2 g0 L hW3 hv
  go_wp2_with fail
  rw [← HW3.out]
  refine L3.out.mono ?_
  rintro e w4 ⟨b, rfl, d4, g4⟩
  have S4 := S3.dice d4 g4
  rw [HV.out] at S4 ⊢
  have cV : w4.cell? ⟨v, 0, none⟩ = some (.slice O on oc) := S4.rV.cell 0
  have cN : w4.cell? ⟨w.heap.size, 0, none⟩ = some (.slice none 0 0) := S4.rN.cell 0
  have fN : w4.frozen? ⟨w.heap.size, 0, none⟩ = false := S4.rN.free 0
  have zV : v < w4.heap.size := S4.rV.lt
  have zNv := S4.hv
  clear d4 g4 S3 L3
  cases b with
  | false =>
    have F := Lib.hid (S4.result (P := Short) (by unfold Short; omega) S4.nN)
    clear S4
    go_wp2
    exact bodyPost_ret (v := .agg #[.slice O on oc]) (by simp [results, Try.results121, go_sem, cN]) rfl F.out
  | true =>
    have L4 := Lib.hid (below p A n c 3 w4 S4.d (by omega) (by omega))
    go_wp2_with fail
    refine L4.out.mono ?_
    rintro e w5 ⟨x, rfl, x0, x1, d5, g5⟩
    have S5 := S4.dice d5 g5
    replace cV : w5.cell? ⟨v, 0, none⟩ = some (.slice O on oc) := S5.rV.cell 0
    replace cN : w5.cell? ⟨w.heap.size, 0, none⟩ = some (.slice none 0 0) := S5.rN.cell 0
    replace fN : w5.frozen? ⟨w.heap.size, 0, none⟩ = false := S5.rN.free 0
    have fV : w5.frozen? ⟨v, 0, none⟩ = false := S5.rV.free 0
    replace zV : v < w5.heap.size := S5.rV.lt
    clear d5 g5 S4 L4
    by_cases hx0 : x = 0
    · subst hx0
      have S6 := S5.drew
      clear S5 x0 x1
      go_wp2_with fail
      go_region_law (first
        | (refine stepApp1 rfl _ _ rfl w.heap.size O on oc xs (by simp [Act.eval, Act.put]) (Own.alloc S7.own _) w7.heap.size 1 y (by simp [Act.eval, Act.put]) ((Row.new _ _ _).cell 0) (by omega) (by simp; omega) ?_; intro O' oc' w8 ho8 hg8 hat8 hlt8; have r8 := Row.away (S7.alloc _).rV hg8 S7.nV; have cV8 : w8.cell? ⟨v, 0, none⟩ = some (.slice O on oc) := r8.cell 0; have fV8 : w8.frozen? ⟨v, 0, none⟩ = false := r8.free 0)
        | (go_simp; go_at_call 141; refine (fromTo p A n c (-1) 4 _ S6.d (by omega) (by omega) (by omega) (by omega)).mono ?_; rintro e w7 ⟨y, rfl, y0, y1, d7, g7⟩; have S7 := S6.dice d7 g7; have cV7 : w7.cell? ⟨v, 0, none⟩ = some (.slice O on oc) := S7.rV.cell 0; have zV7 : v < w7.heap.size := S7.rV.lt; have hon : on ≤ 4 := by have := Own.len S7.own; omega))
      all_goals
        have S8 := SigSt.put (S7.alloc (.cells #[.int .i64 y] 2)) ho8 hg8 (hat8.elim (fun h => .inl h.symm) (fun h => .inr (by rw [h]; rfl))) (Own.ge S7.own)
        have F := Lib.hid (S8.result (P := Short) (by unfold Short; simp; omega) S8.nN)
        have cN8 : (w8.setCell ⟨v, 0, none⟩ (.slice (some ⟨O', 0, none⟩) (on + 1) oc')).cell? ⟨w.heap.size, 0, none⟩ = some (.slice none 0 0) := S8.rN.cell 0
        have fN8 : (w8.setCell ⟨v, 0, none⟩ (.slice (some ⟨O', 0, none⟩) (on + 1) oc')).frozen? ⟨w.heap.size, 0, none⟩ = false := S8.rN.free 0
        clear S8 S7 S6 ho8 hg8 hat8 hlt8 r8 d7 g7 cV7
        go_wp2
        exact bodyPost_ret (v := .agg #[.slice (some ⟨O', 0, none⟩) (on + 1) oc']) (by simp [results, Try.results121, go_sem, cN8]) rfl F.out
    · by_cases hx1' : x = 1
      · subst hx1'
        have S6 : SigSt w p A n c v ((w5.alloc (.cells #[] 2)).setCell ⟨v, 0, none⟩ (.slice (some ⟨w5.heap.size, 0, none⟩) 0 0)) (some ⟨w5.heap.size, 0, none⟩) 0 0 [] :=
          S5.put (own_empty w5 w.heap.size (by omega)) (World.grownBy_alloc _ _ _) (.inr rfl) (Own.ge S5.own)
        have F := S6.result (P := Short) (by unfold Short; simp) S6.nN
        rw [World.setCell_alloc_past (hn := zV), World.setCell_alloc_past (hn := by simp; omega)] at F
        have HF := Lib.hid F
        have zz : w.heap.size < w5.heap.size := by omega
        have znv : ¬ w.heap.size = v := by omega
        have zvn : ¬ v = w.heap.size := by omega
        clear F S6 S5 x0 x1 hx0
        go_wp2
        exact bodyPost_ret (v := .agg #[.slice (some ⟨w5.heap.size, 0, none⟩) 0 0]) (by simp [results, Try.results121, go_sem, cN, zz, znv, zvn]) rfl HF.out
      · have e2 : x = 2 := by omega
        subst e2
        have L6 := Lib.hid (below p A n c 2 w5 S5.d (by omega) (by omega))
        clear x0 x1 hx0 hx1'
        go_wp2_with fail
        refine L6.out.mono ?_
        rintro e w7 ⟨y, rfl, y0, y1, d7, g7⟩
        have S7 := S5.dice d7 g7
        replace cV : w7.cell? ⟨v, 0, none⟩ = some (.slice O on oc) := S7.rV.cell 0
        replace cN : w7.cell? ⟨w.heap.size, 0, none⟩ = some (.slice none 0 0) := S7.rN.cell 0
        replace fN : w7.frozen? ⟨w.heap.size, 0, none⟩ = false := S7.rN.free 0
        replace fV : w7.frozen? ⟨v, 0, none⟩ = false := S7.rV.free 0
        replace zV : v < w7.heap.size := S7.rV.lt
        obtain ⟨k, rfl⟩ := Int.eq_ofNat_of_zero_le y0
        have hmk : ∀ W : World, (Instr.makeSlice 24 (.int .i64 (8 + (k : Int))) (.int .i64 (8 + (k : Int)))).run Try.prog W = .ok (.slice (some ⟨W.heap.size, 0, none⟩) (8 + k) (8 + k)) (W.alloc (.cells (madeCells #[.int .i64 0] (8 + k)) 2)) := fun W => by
          have := run_make_i64 (8 + k) (by omega) W
          rwa [show ((8 + k : Nat) : Int) = 8 + (k : Int) by simp] at this
        have hcells : ∀ j, j < 8 + k → (madeCells #[Value.int .i64 0] (8 + k))[j]? = some (.int .i64 ((List.replicate (8 + k) (0 : Int)).getD j 0)) := fun j hj => by
          simp [madeCells, List.getD, hj, Nat.mod_one]
        have S8 : SigSt w p A n c v ((w7.alloc (.cells (madeCells #[.int .i64 0] (8 + k)) 2)).setCell ⟨v, 0, none⟩ (.slice (some ⟨w7.heap.size, 0, none⟩) (8 + k) (8 + k))) (some ⟨w7.heap.size, 0, none⟩) (8 + k) (8 + k) (List.replicate (8 + k) 0) :=
          S7.put (Own.of_row (Row.new _ _ _) (by simp) (size_madeCells _ _) (Nat.le_refl _) (by omega) (by omega) hcells) (World.grownBy_alloc _ _ _) (.inr rfl) (Own.ge S7.own)
        have F := S8.result (P := Short) (by unfold Short; simp; omega) S8.nN
        rw [World.setCell_alloc_past (hn := zV), World.setCell_alloc_past (hn := by simp; omega)] at F
        have HF := Lib.hid F
        have zz : w.heap.size < w7.heap.size := by omega
        have znv : ¬ w.heap.size = v := by omega
        have zvn : ¬ v = w.heap.size := by omega
        clear F S8 S7 S5 d7 g7 hcells L6
        go_wp2
        exact bodyPost_ret (v := .agg #[.slice (some ⟨w7.heap.size, 0, none⟩) (8 + k) (8 + k)]) (by simp [results, Try.results121, go_sem, cN, zz, znv, zvn]) rfl HF.out
end Go.Proofs.Ytmaamlnooepogaa.drawSig
end
