/-
  MERGED: my texts General, GenImpl, TabR, MatchSpec, Whole, TakeMath, Take, Extended, PathSpec, MatchList, Rename, one behind the other, as they are. By an AI agent.
-/
import Derived.Test.YtkmhnkljigncmaaMFnGeneralised7
import Derived.Deep.LoopGhost
import Derived.Maps.AppendAt
import Derived.Laws.Rows
import Derived.Laws.ResultCell
import Derived.Deep.RegionHeld3
import Derived.Deep.QuietTactic
import Derived.BigQuiet
section
/-
  CONTRACTS: spec.l5Least: the least general pattern of two right terms, none where it would need too many variables; spec.Generalised (what is told of the two lists is given: 'IsG'). Conditions: the slices read as lists, at most 1048576 numbers. By an AI agent.
-/
namespace Go.Proofs.Ytkmhnkljigncmaa.general
open Go.RowKit Go.Proofs.Ytkmhnkljigncmaa.base Go.Proofs.Ytkmhnkljigncmaa.ints Go.Proofs.Ytkmhnkljigncmaa.sig Go.Proofs.Ytkmhnkljigncmaa.cursor Go.Proofs.Ytkmhnkljigncmaa.marks Go.Proofs.Ytkmhnkljigncmaa.app Go.Proofs.Ytkmhnkljigncmaa.appAt Go.Proofs.Ytkmhnkljigncmaa.sym Go.Proofs.Ytkmhnkljigncmaa.segs Go.Proofs.Ytkmhnkljigncmaa.segsHelp Go.Proofs.Ytkmhnkljigncmaa.term Go.Proofs.Ytkmhnkljigncmaa.args Go.Proofs.Ytkmhnkljigncmaa.sub Go.Proofs.Ytkmhnkljigncmaa.look Go.Proofs.Ytkmhnkljigncmaa.plain Go.Proofs.Ytkmhnkljigncmaa.unifMath Go.Proofs.Ytkmhnkljigncmaa.genMath Go.Proofs.Ytkmhnkljigncmaa.genPos Go.Proofs.Ytkmhnkljigncmaa.genTab Go.Proofs.Ytkmhnkljigncmaa.genSpec Go.Proofs.Ytkmhnkljigncmaa.genMain Go.Proofs.Ytkmhnkljigncmaa.termOk Go.Proofs.Ytkmhnkljigncmaa.termFacts Go.Proofs.Ytkmhnkljigncmaa.termMath Go.Proofs.Ytkmhnkljigncmaa.endAt Go.Proofs.Ytkmhnkljigncmaa.unifLaw
set_option maxRecDepth 100000

theorem owns_empty {w : World} {lo hi g : Nat} (hr : Row w g 24 #[]) (h1 : lo ≤ g) (h2 : g < hi) : Owns w lo hi (some ⟨g, 0, none⟩) 0 0 [] :=
  ⟨rfl, ⟨[], by have := rowsOf (n := 0) (c := 0) hr rfl (Nat.le_refl _) (by omega) h1; simpa using this, fun j hj => absurd hj (Nat.not_lt_zero _), fun i j k _ hj => absurd hj (Nat.not_lt_zero _)⟩, fun k hk => by
    have hk : g = k := Option.some.inj hk
    omega⟩
theorem sub_all {sg t : List Int} (h : Trm sg t) : subL sg t 0 = t := by
  unfold subL
  rw [List.drop_zero, len1_eq (j := t.length) (by rw [List.drop_zero]; exact h), List.take_length]

set_option maxHeartbeats 2000000 in
theorem l5Least (A P Q : Option Addr) (n c m mc k kc : Nat) (sg a b : List Int) (w : World) (h : Seg w w.heap.size A n sg) (hp : Seg w w.heap.size P m a) (hq : Seg w w.heap.size Q k b) (hn : n ≤ 1048576) (hm : m ≤ 1048576) (hk : k ≤ 1048576) (hcm : m ≤ mc ∧ mc ≤ 9223372036854775807) (hck : k ≤ kc ∧ kc ≤ 9223372036854775807) (hs : Arities sg)
    (ha : Trm sg a) (hb : Trm sg b) (G : List Int) (T' : Tb) (hG : Gs sg [] 1 a b G T') :
    Calls Try.prog 79 #[.agg #[.slice A n c], .slice P m mc, .slice Q k kc] w (AnsList w (if T'.length ≤ 24 then G else [])) := by
  obtain ⟨W, hW⟩ : ∃ W, W = ((w.alloc (.cells #[.slice A n c] 26)).alloc (.cells #[] 24)).alloc (.cells #[] 24) := ⟨_, rfl⟩
  have z : W.heap.size = w.heap.size + 1 + 1 + 1 := by rw [hW]; simp
  have bW : Below w.heap.size w W := by rw [hW]; exact (((Below.refl _ _).alloc (Nat.le_refl _) _).alloc (by simp) _).alloc (by simp; omega) _
  have r1 : Row W (w.heap.size + 1) 24 #[] := by
    rw [hW]
    have := (Row.new (w.alloc (.cells #[.slice A n c] 26)) 24 #[]).alloc (.cells #[] 24)
    simpa using this
  have r2 : Row W (w.heap.size + 1 + 1) 24 #[] := by
    rw [hW]
    have := Row.new ((w.alloc (.cells #[.slice A n c] 26)).alloc (.cells #[] 24)) 24 #[]
    simpa using this
  have tabs : Tabs W (w.heap.size + 1) (some ⟨w.heap.size + 1, 0, none⟩) 0 0 (some ⟨w.heap.size + 1 + 1, 0, none⟩) 0 [] := by
    refine ⟨owns_empty r1 (Nat.le_refl _) (by omega), owns_empty r2 (by omega) (by omega), fun k hk e => ?_⟩
    have h1 : w.heap.size + 1 = k := Option.some.inj hk
    have h2 : w.heap.size + 1 + 1 = k := Option.some.inj e
    omega
  have la := hp.1
  have C := Lib.hid (l5General A P Q n c m mc k kc (w.heap.size + 1) sg a b hn hm hk hcm hck hs a.length (some ⟨w.heap.size + 1, 0, none⟩) (some ⟨w.heap.size + 1 + 1, 0, none⟩) 0 0 0 0 0 a.length b.length [] W ((h.below bW).more (Nat.le_succ _)) ((hp.below bW).more (Nat.le_succ _)) ((hq.below bW).more (Nat.le_succ _)) tabs (by omega) (fun x hx => absurd hx (List.not_mem_nil)) (by simp only [List.length_nil]; omega) (by rw [List.drop_zero]; exact ha) (by rw [List.drop_zero]; exact hb) (Nat.le_refl _))
  rw [sub_all ha, sub_all hb] at C
  have HG := Lib.hid hG
  obtain ⟨ys, hys⟩ : ∃ ys, (if T'.length ≤ 24 then G else []) = ys := ⟨_, rfl⟩
  rw [hys]
  have HY := Lib.hid hys
  clear hys
  have HW := Lib.hid hW
  have HB := Lib.hid bW
  have HZ := Lib.hid z
  clear h hp hq ha hb hG hW bW tabs r1 r2 la hs z
  go_enter Try.func79, Try.ntmps79
  go_wp2_with fail
  rw [← HW.out]
  refine C.out.mono ?_
  rintro e w1 ⟨g, T2, O, L2, R2, on, oc, n2, lc2, rc2, rfl, ho, hgs, ht, htwo, -, -, -⟩
  obtain ⟨e1, e2⟩ := gs_one hgs List.nodup_nil HG.out
  subst e1 e2
  have hn2 : T2.length = n2 := ht.len
  have b1 : Below w.heap.size w w1 := HB.out.trans (htwo.below (fun k hk => by have : w.heap.size + 1 = k := Option.some.inj hk; omega) (fun k hk => by have : w.heap.size + 1 + 1 = k := Option.some.inj hk; omega) HB.out.size)
  by_cases h24 : T2.length ≤ 24
  · have hy := HY.out
    rw [if_pos h24] at hy
    subst hy
    have F := Lib.hid (show AnsList w g (.returned (.slice O on oc)) w1 from ⟨O, on, oc, rfl, Own.lower ho HB.out.size, b1⟩)
    clear ho hgs ht htwo b1 C
    go_wp2
    go_ret
    exact F.out
  · have hy := HY.out
    rw [if_neg h24] at hy
    subst hy
    have F := Lib.hid (show AnsList w [] (.returned (.slice (some ⟨w1.heap.size, 0, none⟩) 0 0)) (w1.alloc (.cells #[] 2)) from ⟨_, 0, 0, rfl, own_empty w1 _ b1.size, b1.alloc b1.size _⟩)
    clear ho hgs ht htwo b1 C
    go_wp2
    go_ret
    exact F.out
/-- what stands in the course of a call with a boxed signature -/
structure Gr (w wr : World) (A : Option Addr) (n c : Nat) (sg : List Int) (P : Option Addr) (m : Nat) (a : List Int) (Q : Option Addr) (k : Nat) (b : List Int) : Prop where
  r0 : Row wr w.heap.size 26 #[.slice A n c]
  s : Seg wr wr.heap.size A n sg
  pa : Seg wr wr.heap.size P m a
  qb : Seg wr wr.heap.size Q k b
  b : Below w.heap.size w wr
theorem Gr.next {w wr w' : World} {A : Option Addr} {n c : Nat} {sg : List Int} {P : Option Addr} {m : Nat} {a : List Int} {Q : Option Addr} {k : Nat} {b : List Int} (h : Gr w wr A n c sg P m a Q k b) (hb : Below wr.heap.size wr w') : Gr w w' A n c sg P m a Q k b :=
  ⟨h.r0.next hb, h.s.next hb, h.pa.next hb, h.qb.next hb, next_trans h.b hb⟩
theorem isG_off {sg a b g : List Int} (h : IsG sg a b g) (ho : termOkB sg a = false ∨ termOkB sg b = false) : g = [] := by
  rcases h with ⟨h1, h2, _⟩ | ⟨_, e⟩
  · rcases ho with h | h
    · rw [h1] at h; cases h
    · rw [h2] at h; cases h
  · exact e

set_option maxHeartbeats 2000000 in
theorem specGeneralised (A P Q : Option Addr) (n c m mc k kc : Nat) (sg a b : List Int) (w : World) (ys : List Int) (hG : IsG sg a b ys) (h : Seg w w.heap.size A n sg) (hp : Seg w w.heap.size P m a) (hq : Seg w w.heap.size Q k b) (hn : n ≤ 1048576) (hm : m ≤ 1048576) (hk : k ≤ 1048576) (hcm : m ≤ mc ∧ mc ≤ 9223372036854775807) (hck : k ≤ kc ∧ kc ≤ 9223372036854775807) :
    Calls Try.prog 27 #[.agg #[.slice A n c], .slice P m mc, .slice Q k kc] w (AnsList w ys) := by
  obtain ⟨W, hW⟩ : ∃ W, W = w.alloc (.cells #[.slice A n c] 26) := ⟨_, rfl⟩
  have b0 : Below w.heap.size w W := by rw [hW]; exact (Below.refl _ _).alloc (Nat.le_refl _) _
  have M : Gr w W A n c sg P m a Q k b := ⟨by rw [hW]; exact Row.new _ _ _, h.next b0, hp.next b0, hq.next b0, b0⟩
  have HW := Lib.hid hW
  have HG := Lib.hid hG
  have L1 := Lib.hid (specTermOk A P n c m mc sg a W M.s M.pa hn hm)
  have L2 := Lib.hid (fun w' (M : Gr w w' A n c sg P m a Q k b) => specTermOk A Q n c k kc sg b w' M.s M.qb hn hk)
  have c0 : (w.alloc (.cells #[.slice A n c] 26)).cell? ⟨w.heap.size, 0, none⟩ = some (.slice A n c) := by rw [← hW]; exact M.r0.cell 0
  clear hG hW h hp hq b0
  obtain ⟨va, hva⟩ : ∃ v, termOkB sg a = v := ⟨_, rfl⟩
  obtain ⟨vb, hvb⟩ : ∃ v, termOkB sg b = v := ⟨_, rfl⟩
  have HA := Lib.hid hva
  have HB := Lib.hid hvb
  clear hva hvb
  cases va with
  | false =>
    go_enter Try.func27, Try.ntmps27
    go_wp2_with fail
    rw [← HW.out]
    refine L1.out.mono ?_
    rintro e w1 ⟨he, bb⟩
    rw [HA.out] at he
    subst he
    replace M := M.next bb
    obtain rfl := isG_off HG.out (.inl HA.out)
    have F := Lib.hid (show AnsList w [] (.returned (.slice (some ⟨w1.heap.size, 0, none⟩) 0 0)) (w1.alloc (.cells #[] 2)) from ⟨_, 0, 0, rfl, own_empty w1 _ M.b.size, M.b.alloc M.b.size _⟩)
    clear M bb L1 L2
    go_wp2
    go_ret
    exact F.out
  | true =>
    cases vb with
    | false =>
      go_enter Try.func27, Try.ntmps27
      go_wp2_with fail
      rw [← HW.out]
      refine L1.out.mono ?_
      rintro e w1 ⟨he, bb⟩
      rw [HA.out] at he
      subst he
      replace M := M.next bb
      have c1 := M.r0.cell 0
      clear bb c0
      go_wp2_with fail
      refine (L2.out w1 M).mono ?_
      rintro e w2 ⟨he, bb⟩
      rw [HB.out] at he
      subst he
      replace M := M.next bb
      obtain rfl := isG_off HG.out (.inr HB.out)
      have F := Lib.hid (show AnsList w [] (.returned (.slice (some ⟨w2.heap.size, 0, none⟩) 0 0)) (w2.alloc (.cells #[] 2)) from ⟨_, 0, 0, rfl, own_empty w2 _ M.b.size, M.b.alloc M.b.size _⟩)
      clear M bb L1 L2 c1
      go_wp2
      go_ret
      exact F.out
    | true =>
      have hars := (sig_arities (termOk_parts HA.out).1).1
      obtain ⟨G, T', hgs, hys⟩ : ∃ G T', Gs sg [] 1 a b G T' ∧ ys = if T'.length ≤ 24 then G else [] := by
        rcases HG.out with ⟨_, _, h⟩ | ⟨h, _⟩
        · exact h
        · rw [HA.out, HB.out] at h
          rcases h with h | h <;> cases h
      have LL := Lib.hid (fun w' (M : Gr w w' A n c sg P m a Q k b) => l5Least A P Q n c m mc k kc sg a b w' M.s M.pa M.qb hn hm hk hcm hck hars (term_parts HA.out).2.2 (term_parts HB.out).2.2 G T' hgs)
      rw [← hys] at LL
      clear hys hgs hars
      go_enter Try.func27, Try.ntmps27
      go_wp2_with fail
      rw [← HW.out]
      refine L1.out.mono ?_
      rintro e w1 ⟨he, bb⟩
      rw [HA.out] at he
      subst he
      replace M := M.next bb
      have c1 : w1.cell? ⟨w.heap.size, 0, none⟩ = some (.slice A n c) := M.r0.cell 0
      clear bb c0
      go_wp2_with fail
      refine (L2.out w1 M).mono ?_
      rintro e w2 ⟨he, bb⟩
      rw [HB.out] at he
      subst he
      replace M := M.next bb
      have c2 : w2.cell? ⟨w.heap.size, 0, none⟩ = some (.slice A n c) := M.r0.cell 0
      clear bb c1
      go_wp2_with fail
      refine (LL.out w2 M).mono ?_
      rintro e w3 ⟨D, dn, dc, rfl, od, bb⟩
      have F := Lib.hid (show AnsList w ys (.returned (.slice D dn dc)) w3 from ⟨D, dn, dc, rfl, Own.lower od M.b.size, next_trans M.b bb⟩)
      clear M bb L1 L2 LL c2 od
      go_wp2
      go_ret
      exact F.out
end Go.Proofs.Ytkmhnkljigncmaa.general
end

section
/-
  CONTRACT: impl.Generalised. Conditions: the slices read as lists ('Seg'), at most 1048576 numbers; what is told is given ('IsG'). By an AI agent.
-/
namespace Go.Proofs.Ytkmhnkljigncmaa.genImpl
open Go.RowKit Go.Proofs.Ytkmhnkljigncmaa.base Go.Proofs.Ytkmhnkljigncmaa.ints Go.Proofs.Ytkmhnkljigncmaa.same Go.Proofs.Ytkmhnkljigncmaa.sig Go.Proofs.Ytkmhnkljigncmaa.cursor Go.Proofs.Ytkmhnkljigncmaa.marks Go.Proofs.Ytkmhnkljigncmaa.app Go.Proofs.Ytkmhnkljigncmaa.appAt Go.Proofs.Ytkmhnkljigncmaa.sym Go.Proofs.Ytkmhnkljigncmaa.segs Go.Proofs.Ytkmhnkljigncmaa.segsHelp Go.Proofs.Ytkmhnkljigncmaa.kinds Go.Proofs.Ytkmhnkljigncmaa.term Go.Proofs.Ytkmhnkljigncmaa.termOk Go.Proofs.Ytkmhnkljigncmaa.termFacts Go.Proofs.Ytkmhnkljigncmaa.termMath Go.Proofs.Ytkmhnkljigncmaa.endAt Go.Proofs.Ytkmhnkljigncmaa.sub Go.Proofs.Ytkmhnkljigncmaa.look Go.Proofs.Ytkmhnkljigncmaa.plain Go.Proofs.Ytkmhnkljigncmaa.curO Go.Proofs.Ytkmhnkljigncmaa.unifMath Go.Proofs.Ytkmhnkljigncmaa.genMath Go.Proofs.Ytkmhnkljigncmaa.genPos Go.Proofs.Ytkmhnkljigncmaa.genTab Go.Proofs.Ytkmhnkljigncmaa.genRec Go.Proofs.Ytkmhnkljigncmaa.appZ Go.Proofs.Ytkmhnkljigncmaa.unifLaw Go.Proofs.Ytkmhnkljigncmaa.general Go.Proofs.Ytkmhnkljigncmaa.genSt Go.Proofs.Ytkmhnkljigncmaa.genNext
set_option maxRecDepth 100000

/-- a list of numbers of the call's own stays over a step -/
theorem own_two {w w' : World} {g base : Nat} {D O : Option Addr} {on oc : Nat} {xs : List Int} {cs : Array Value} (ho : Own w base (.slice O on oc) xs) (hr : Row w g 85 cs) (hD : ∀ k, blk D = some k → ∃ cs, Row w k 24 cs) (h : Two w w' (some ⟨g, 0, none⟩) D) : Own w' base (.slice O on oc) xs := by
  obtain ⟨h1, h2⟩ := ho
  refine ⟨h1, ?_⟩
  rcases h2 with h2 | ⟨z, cap, cur, e, hb, hg, hn, hm, hs, ht⟩
  · exact .inl h2
  · refine .inr ⟨z, cap, cur, e, hb, Two.row h hg (fun e => ?_) (fun e => ?_), hn, hm, hs, ht⟩
    · injection e with e
      rw [← e] at hg
      exact Row.ne_ hg hr (by decide) rfl
    · obtain ⟨cs, hc⟩ := hD z e
      exact Row.ne_ hg hc (by decide) rfl

/-- where terms are still to come a term begins -/
theorem front {sg l : List Int} {q : Nat} (h : scan sg q l = some l.length) (hl : 0 < l.length) : ∃ q1 p, q = q1 + 1 ∧ scan sg 1 l = some p ∧ 1 ≤ p ∧ p ≤ l.length ∧ scan sg q1 (l.drop p) = some (l.drop p).length := by
  cases q with
  | zero => rw [scan_zero] at h; injection h with h; omega
  | succ q1 =>
    obtain ⟨s, r, e, hs, hr⟩ := seq_front h
    subst e
    refine ⟨q1, s.length, rfl, scan_append hs, hs.pos, by simp, ?_⟩
    rw [List.drop_left]
    exact hr
theorem none_left {sg l : List Int} {q : Nat} (h : scan sg q l = some l.length) (hl : l.length = 0) : q = 0 := by
  cases q with
  | zero => rfl
  | succ q =>
    rw [List.eq_nil_of_length_eq_zero hl] at h
    rw [scan_nil] at h
    cases h
/-- what is known on the way: what remains completes what was found -/
structure Run (sg a b : List Int) (i j q : Nat) (T : Tb) (R : List Int) : Prop where
  sa : scan sg q (a.drop i) = some (a.drop i).length
  sb : scan sg q (b.drop j) = some (b.drop j).length
  li : i ≤ a.length
  lj : j ≤ b.length
  fin : ∀ G2 T2, Gs sg T q (a.drop i) (b.drop j) G2 T2 → Gs sg [] 1 a b (R ++ G2) T2
  fine : Fine2 sg T
  tl : T.length ≤ i
  rl : R.length ≤ i
theorem Run.start {sg a b : List Int} (ha : Trm sg a) (hb : Trm sg b) : Run sg a b 0 0 1 [] [] :=
  ⟨by rw [List.drop_zero]; exact ha, by rw [List.drop_zero]; exact hb, Nat.zero_le _, Nat.zero_le _, fun G2 T2 h => by simpa using h, fun x hx => absurd hx (List.not_mem_nil), by simp, by simp⟩
theorem drop_at {a : List Int} {i : Nat} {x : Int} (hi : i < a.length) (hx : a.getD i 0 = x) : a.drop i = x :: a.drop (i + 1) := by rw [drop_cons hi, hx]
theorem Run.sym {sg a b : List Int} {i j q : Nat} {T : Tb} {R : List Int} {x : Int} (h : Run sg a b i j (q + 1) T R) (hi : i < a.length) (hj : j < b.length) (h0 : 0 ≤ x) (ea : a.getD i 0 = x) (eb : b.getD j 0 = x) : Run sg a b (i + 1) (j + 1) (q + (ar sg x).toNat) T (R ++ [x]) := by
  have da := drop_at hi ea
  have db := drop_at hj eb
  have ha := h.sa
  have hb := h.sb
  rw [da] at ha
  rw [db] at hb
  have har : ¬ ar sg x < 0 := fun e => by rw [scan_bad e] at ha; cases ha
  rw [scan_step har, Option.map_eq_some_iff] at ha hb
  obtain ⟨za, ha1, ha2⟩ := ha
  obtain ⟨zb, hb1, hb2⟩ := hb
  simp only [List.length_cons] at ha2 hb2
  refine ⟨by rw [ha1]; congr 1; omega, by rw [hb1]; congr 1; omega, hi, hj, fun G2 T2 hG => ?_, h.fine, Nat.le_succ_of_le h.tl, by rw [List.length_append]; have := h.rl; simp; omega⟩
  rw [List.append_assoc]
  refine h.fin _ _ ?_
  rw [da, db]
  exact Gs.sym h0 har hG
theorem Run.pair {sg a b : List Int} {i j q p p' : Nat} {T T' : Tb} {R : List Int} {x : Int} (h : Run sg a b i j (q + 1) T R) (hp : scan sg 1 (a.drop i) = some p) (hp' : scan sg 1 (b.drop j) = some p') (h1 : 1 ≤ p) (hpa : p ≤ (a.drop i).length) (hpb : p' ≤ (b.drop j).length) (ha : scan sg q ((a.drop i).drop p) = some ((a.drop i).drop p).length) (hb : scan sg q ((b.drop j).drop p') = some ((b.drop j).drop p').length) (hf : Fine2 sg T') (ht : T'.length ≤ T.length + 1)
    (hG : Gs sg T 1 (subL sg a i) (subL sg b j) [x] T') : Run sg a b (i + p) (j + p') q T' (R ++ [x]) := by
  have la := h.li
  have lb := h.lj
  rw [List.length_drop] at hpa hpb
  have ea : subL sg a i = (a.drop i).take p := by unfold subL; rw [len1_eq hp]
  have eb : subL sg b j = (b.drop j).take p' := by unfold subL; rw [len1_eq hp']
  rw [List.drop_drop] at ha hb
  refine ⟨ha, hb, by omega, by omega, fun G2 T2 hG2 => ?_, hf, by have := h.tl; omega, by rw [List.length_append]; have := h.rl; simp; omega⟩
  rw [List.append_assoc]
  refine h.fin _ _ ?_
  have := gs_comp hG hG2
  rw [ea, eb] at this
  rw [← List.drop_drop, ← List.drop_drop] at this
  rw [List.take_append_drop, List.take_append_drop, Nat.add_comm] at this
  exact this
theorem Run.end {sg a b : List Int} {i j q : Nat} {T : Tb} {R : List Int} (h : Run sg a b i j q T R) (hi : i = a.length) : Gs sg [] 1 a b R T := by
  have hq := none_left h.sa (by rw [List.length_drop]; omega)
  subst hq
  have hb := h.sb
  rw [scan_zero] at hb
  injection hb with hb
  have e1 : a.drop i = [] := List.drop_eq_nil_of_le (by omega)
  have e2 : b.drop j = [] := List.eq_nil_of_length_eq_zero hb.symm
  have := h.fin [] T (by rw [e1, e2]; exact Gs.nil T)
  rwa [List.append_nil] at this

/-- one variable: at most one pair more -/
theorem gs_len1 {sg : List Int} {T T' : Tb} {u w : List Int} {x : Int} (h : Gs sg T 1 u w [x] T') : T'.length ≤ T.length + 1 := by
  have key : ∀ {n : Nat} {T T' : Tb} {u w g : List Int}, Gs sg T n u w g T' → T'.length ≤ T.length + g.length := by
    intro n T T' u w g h
    induction h with
    | nil T => simp
    | sym _ _ _ ih => simp only [List.length_cons]; omega
    | old _ _ _ _ _ ih => simp only [List.length_cons]; omega
    | new _ _ _ _ _ ih => simp only [List.length_append, List.length_cons, List.length_nil] at ih ⊢; omega
  have := key h
  simpa using this
/-- the head of the loop -/
def HeadG (w : World) (g : Nat) (A : Option Addr) (n c : Nat) (sg : List Int) (P : Option Addr) (m mc : Nat) (a : List Int) (Q : Option Addr) (k kc : Nat) (b : List Int) (f : Nat) (r : Value) (wr : World) : Prop :=
  ∃ (i j q dn dc : Nat) (D : Option Addr) (T : Tb) (R : List Int) (O : Option Addr) (on oc : Nat), r = .slice O on oc ∧ Gn wr g wr.heap.size A n c sg P m mc a i Q k kc b j D dn dc (T.map cat) ∧ Run sg a b i j q T R ∧ Own wr (g + 1) (.slice O on oc) R ∧ Avoid (fun z => blk O = some z) wr D dn ∧ i + f = m ∧ Below w.heap.size w wr

set_option maxHeartbeats 2000000 in
/-- the loop's round behind the append -/
theorem head_step {w w3 w4 w5 : World} {g : Nat} {A : Option Addr} {n c : Nat} {sg : List Int} {P : Option Addr} {m mc : Nat} {a : List Int} {Q : Option Addr} {k kc : Nat} {b : List Int} {i i' j j' q' dn dn' dc' : Nat} {D D' : Option Addr} {T' : Tb} {R : List Int} {O O' : Option Addr} {on oc on' oc' : Nat} {x : Int} {xss : List (List Int)} {hi dc : Nat}
    (hw3 : w.heap.size ≤ g) (G3 : Gn w3 g hi A n c sg P m mc a i Q k kc b j D dn dc xss) (o3 : Own w3 (g + 1) (.slice O on oc) R) (a3 : Avoid (fun z => blk O = some z) w3 D dn) (b3 : Below w.heap.size w w3)
    (G4 : Gn w4 g w4.heap.size A n c sg P m mc a i' Q k kc b j' D' dn' dc' (T'.map cat)) (t4 : Two w3 w4 (some ⟨g, 0, none⟩) D) (hD : ∀ z, blk D' = some z → z < w3.heap.size → blk D = some z) (av : ∀ Z : Nat → Prop, (∀ z, Z z → z < w3.heap.size) → Avoid Z w3 D dn → Avoid Z w4 D' dn') (hR : Run sg a b i' j' q' T' (R ++ [x]))
    (o5 : Own w5 (g + 1) (.slice O' on' oc') (R ++ [x])) (g5 : (w4.alloc (.cells #[.int .i64 x] 2)).grownBy w5 (blk O)) (at5 : blk O' = blk O ∨ blk O' = some (w4.alloc (.cells #[.int .i64 x] 2)).heap.size) :
    HeadG w g A n c sg P m mc a Q k kc b (m - i') (.slice O' on' oc') w5 := by
  obtain ⟨W, hW⟩ : ∃ W, W = w4.alloc (.cells #[.int .i64 x] 2) := ⟨_, rfl⟩
  rw [← hW] at g5 at5
  have bW : Below w4.heap.size w4 W := by rw [hW]; exact (Below.refl _ _).alloc (Nat.le_refl _) _
  have rowD : ∀ z, blk D = some z → ∃ cs, Row w3 z 24 cs := fun z hz => (topRow G3.o z hz).1
  have o4 : Own w4 (g + 1) (.slice O on oc) R := own_two o3 G3.row rowD t4
  have a4 := av _ (fun z hz => (ownRow o3 z hz).2.2) a3
  have GW := G4.next bW
  have oW : Own W (g + 1) (.slice O on oc) R := Own.next o4 bW
  have aW : Avoid (fun z => blk O = some z) W D' dn' := a4.keep fun b' y e => bW.cell (p := ⟨b', y, none⟩) (topRow G4.o b' (by rw [e]; rfl)).2.2
  have hOg : ∀ z, blk O = some z → g + 1 ≤ z ∧ z < W.heap.size := fun z hz => (ownRow oW z hz).2
  have hne : ∀ z, blk D' = some z → blk O ≠ some z := fun z hz e => by
    obtain ⟨cs, h1⟩ := (topRow GW.o z hz).1
    obtain ⟨⟨cs2, h2⟩, _⟩ := ownRow oW z e
    exact Row.ne_ h2 h1 (by decide) rfl
  have B5 : Below (g + 1) W w5 := (Below.refl (g + 1) W).grown g5 (by have := GW.lt; omega) (fun z hz => (hOg z hz).1)
  have o5' : Owns w5 (g + 1) w4.heap.size D' dn' dc' (T'.map cat) := Avoid.owns GW.o aW (fun z hz => hne z hz) g5
  have G5 : Gn w5 g w5.heap.size A n c sg P m mc a i' Q k kc b j' D' dn' dc' (T'.map cat) :=
    ⟨Row.away GW.row g5 (fun e => by have := (hOg g e).1; omega), GW.s.below (B5.mono (Nat.le_succ _)), GW.pa.below (B5.mono (Nat.le_succ _)), GW.qb.below (B5.mono (Nat.le_succ _)), o5'.wider (Nat.le_refl _) (by have := g5.size; have := bW.size; omega), Nat.le_refl _, GW.li, GW.lj, GW.hn, GW.hm, GW.hk, GW.ars⟩
  have hgz : ∀ z, blk (some (⟨g, 0, none⟩ : Addr)) = some z → w.heap.size ≤ z := fun z hz => by
    have e : g = z := by simpa [blk] using hz
    omega
  have b4 : Below w.heap.size w3 w4 := Two.below t4 hgz (fun z hz => by have := (topRow G3.o z hz).2.1; omega) (by have := b3.size; omega)
  refine ⟨i', j', q', dn', dc', D', T', R ++ [x], O', on', oc', rfl, G5, hR, o5, ?_, by have := G5.li; omega, (b3.trans b4).trans ((bW.mono (by have := b3.size; have := b4.size; omega)).trans (B5.mono (by omega)))⟩
  rcases at5 with e | e
  · rw [e]
    exact aW.keep fun b' y eD => World.cell?_of_block (g5.block b' (topRow GW.o b' (by rw [eD]; rfl)).2.2 (fun e2 => hne b' (by rw [eD]; rfl) e2.symm))
  · refine Avoid.fresh o5' (fun z hz => ?_)
    rw [e] at hz
    injection hz with hz
    have := bW.size
    omega

theorem gn_next (g : Nat) (A : Option Addr) (n c : Nat) (sg : List Int) (P : Option Addr) (m mc : Nat) (a : List Int) (Q : Option Addr) (k kc : Nat) (b : List Int) (w wr : World) (i j q dn dc : Nat) (D : Option Addr) (T : Tb) (R : List Int) (hG : Gn wr g wr.heap.size A n c sg P m mc a i Q k kc b j D dn dc (T.map cat)) (hR : Run sg a b i j q T R) (hi : i < m) (hm60 : m ≤ 60) (hk60 : k ≤ 60) (hmc : m ≤ mc) (hmc2 : mc ≤ 9223372036854775807) (hkc : k ≤ kc) (hkc2 : kc ≤ 9223372036854775807) :
    Calls Try.prog 78 #[.pointer (some ⟨g, 0, none⟩)] wr fun e w' =>
      ∃ (x : Int) (i' j' q' : Nat) (D' : Option Addr) (dn' dc' : Nat) (T' : Tb), e = .returned (.int .i64 x) ∧ Gn w' g w'.heap.size A n c sg P m mc a i' Q k kc b j' D' dn' dc' (T'.map cat) ∧ Two wr w' (some ⟨g, 0, none⟩) D ∧ (∀ z, blk D' = some z → z < wr.heap.size → blk D = some z) ∧
        (∀ Z : Nat → Prop, (∀ z, Z z → z < wr.heap.size) → Avoid Z wr D dn → Avoid Z w' D' dn') ∧ Run sg a b i' j' q' T' (R ++ [x]) ∧ i < i' := by
  have la := hG.pa.1
  have lb := hG.qb.1
  have l1 : 0 < (a.drop i).length := by rw [List.length_drop]; omega
  obtain ⟨q1, p, hq, hp, hp1, hpl, hpr⟩ := front hR.sa l1
  subst hq
  have l2 : 0 < (b.drop j).length := by
    cases hb : b.drop j with
    | nil => have h := hR.sb; rw [hb, scan_nil] at h; cases h
    | cons _ _ => simp
  obtain ⟨q2, p', hq2, hp', hp1', hpl', hpr'⟩ := front hR.sb l2
  obtain rfl : q1 = q2 := by omega
  have hj : j < k := by rw [List.length_drop] at l2; omega
  rw [List.length_drop] at hpl hpl'
  refine (next g A n c sg P m mc a i Q k kc b j D dn dc T wr hG hR.fine hi hj p p' hp hp' (by omega) (by omega) hp1 hp1' hm60 hk60 hmc hmc2 hkc hkc2 (by have := hR.tl; omega)).mono ?_
  rintro e w' ⟨x, i', j', D', dn', dc', T', he, hG', hf, ht, hD, hav, ⟨h0, ea, eb, rfl, rfl, rfl⟩ | ⟨ei, ej, hg⟩⟩
  · exact ⟨x, _, _, _, D', dn', dc', T', he, hG', ht, hD, hav, hR.sym (by omega) (by omega) h0 ea eb, Nat.lt_succ_self _⟩
  · have e1 : (subL sg a i).length = p := by unfold subL; rw [len1_eq hp, List.length_take, List.length_drop]; omega
    have e2 : (subL sg b j).length = p' := by unfold subL; rw [len1_eq hp', List.length_take, List.length_drop]; omega
    rw [e1] at ei
    rw [e2] at ej
    subst ei
    subst ej
    have hlen : T'.length ≤ T.length + 1 := by
      have := gs_len1 hg
      omega
    exact ⟨x, _, _, _, D', dn', dc', T', he, hG', ht, hD, hav, hR.pair hp hp' hp1 (by rw [List.length_drop]; omega) (by rw [List.length_drop]; omega) hpr hpr' hf hlen hg, by omega⟩

theorem one_seg (w : World) (y : Int) : Seg (w.alloc (.cells #[.int .i64 y] 2)) (w.alloc (.cells #[.int .i64 y] 2)).heap.size (some ⟨w.heap.size, 0, none⟩) 1 [y] :=
  (Row.new w 2 #[.int .i64 y]).seg (n := 1) rfl (Row.new w 2 #[.int .i64 y]).lt (fun j hj => by
    match j, hj with
    | 0, _ => rfl)
theorem isG_run {sg a b ys R : List Int} {T : Tb} (h : IsG sg a b ys) (ha : termOkB sg a = true) (hb : termOkB sg b = true) (hR : Gs sg [] 1 a b R T) : ys = if T.length ≤ 24 then R else [] :=
  isG_one h (.inl ⟨ha, hb, R, T, hR, rfl⟩)

set_option maxHeartbeats 4000000 in
theorem implGeneralised (A P Q : Option Addr) (n c m mc k kc : Nat) (sg a b : List Int) (w : World) (ys : List Int) (hG : IsG sg a b ys) (h : Seg w w.heap.size A n sg) (hp : Seg w w.heap.size P m a) (hq : Seg w w.heap.size Q k b) (hn : n ≤ 1048576) (hm : m ≤ 1048576) (hk : k ≤ 1048576) (hcm : m ≤ mc ∧ mc ≤ 9223372036854775807) (hck : k ≤ kc ∧ kc ≤ 9223372036854775807) :
    Calls Try.prog 26 #[.agg #[.slice A n c], .slice P m mc, .slice Q k kc] w (AnsList w ys) := by
  obtain ⟨W, hW⟩ : ∃ W, W = w.alloc (.cells #[.slice A n c] 26) := ⟨_, rfl⟩
  have b0 : Below w.heap.size w W := by rw [hW]; exact (Below.refl _ _).alloc (Nat.le_refl _) _
  have M : Gr w W A n c sg P m a Q k b := ⟨by rw [hW]; exact Row.new _ _ _, h.next b0, hp.next b0, hq.next b0, b0⟩
  have HW := Lib.hid hW
  have HG := Lib.hid hG
  have L1 := Lib.hid (implTermOk A P n c m mc sg a W M.s M.pa hn hm)
  have L2 := Lib.hid (fun w' (M : Gr w w' A n c sg P m a Q k b) => implTermOk A Q n c k kc sg b w' M.s M.qb hn hk)
  have c0 : (w.alloc (.cells #[.slice A n c] 26)).cell? ⟨w.heap.size, 0, none⟩ = some (.slice A n c) := by rw [← hW]; exact M.r0.cell 0
  clear hG hW h hp hq b0
  obtain ⟨va, hva⟩ : ∃ v, termOkB sg a = v := ⟨_, rfl⟩
  obtain ⟨vb, hvb⟩ : ∃ v, termOkB sg b = v := ⟨_, rfl⟩
  have HA := Lib.hid hva
  have HB := Lib.hid hvb
  clear hva hvb
  cases va with
  | false =>
    go_enter Try.func26, Try.ntmps26
    go_wp2_with fail
    rw [← HW.out]
    refine L1.out.mono ?_
    rintro e w1 ⟨he, bb⟩
    rw [HA.out] at he
    subst he
    replace M := M.next bb
    obtain rfl := isG_off HG.out (.inl HA.out)
    have F := Lib.hid (show AnsList w [] (.returned (.slice none 0 0)) w1 from ⟨_, 0, 0, rfl, Own.nil _ _, M.b⟩)
    clear M bb L1 L2
    go_wp2
    go_ret
    exact F.out
  | true =>
    cases vb with
    | false =>
      go_enter Try.func26, Try.ntmps26
      go_wp2_with fail
      rw [← HW.out]
      refine L1.out.mono ?_
      rintro e w1 ⟨he, bb⟩
      rw [HA.out] at he
      subst he
      replace M := M.next bb
      have c1 := M.r0.cell 0
      clear bb c0
      go_wp2_with fail
      refine (L2.out w1 M).mono ?_
      rintro e w2 ⟨he, bb⟩
      rw [HB.out] at he
      subst he
      replace M := M.next bb
      obtain rfl := isG_off HG.out (.inr HB.out)
      have F := Lib.hid (show AnsList w [] (.returned (.slice none 0 0)) w2 from ⟨_, 0, 0, rfl, Own.nil _ _, M.b⟩)
      clear M bb L1 L2 c1
      go_wp2
      go_ret
      exact F.out
    | true =>
      go_enter Try.func26, Try.ntmps26
      go_wp2_with fail
      rw [← HW.out]
      refine L1.out.mono ?_
      rintro e w1 ⟨he, bb⟩
      rw [HA.out] at he
      subst he
      replace M := M.next bb
      have c1 := M.r0.cell 0
      clear bb c0 L1
      go_wp2_with fail
      refine (L2.out w1 M).mono ?_
      rintro e w2 ⟨he, bb⟩
      rw [HB.out] at he
      subst he
      replace M := M.next bb
      have c2 : w2.cell? ⟨w.heap.size, 0, none⟩ = some (.slice A n c) := M.r0.cell 0
      clear bb L2 c1
      have hm60 : m ≤ 60 := by rw [← M.pa.1]; exact (term_len HA.out).2
      have hk60 : k ≤ 60 := by rw [← M.qb.1]; exact (term_len HB.out).2
      obtain ⟨W3, hW3⟩ : ∃ W3, W3 = w2.alloc (.cells (gcs A n c P m mc 0 Q k kc 0 none 0 0) 85) := ⟨_, rfl⟩
      have b3 : Below w2.heap.size w2 W3 := by rw [hW3]; exact (Below.refl _ _).alloc (Nat.le_refl _) _
      have hs3 : w2.heap.size < W3.heap.size := by rw [hW3]; simp
      have G3 : Gn W3 w2.heap.size W3.heap.size A n c sg P m mc a 0 Q k kc b 0 none 0 0 ([].map cat) :=
        ⟨by rw [hW3]; exact Row.new _ _ _, M.s.below b3, M.pa.below b3, M.qb.below b3, Owns.nil _ _ _, Nat.le_refl _, Nat.zero_le _, Nat.zero_le _, hn, hm, hk, (sig_arities (termOk_parts HA.out).1).1⟩
      have HH := Lib.hid (show HeadG w w2.heap.size A n c sg P m mc a Q k kc b m (.slice none 0 0) W3 from
        ⟨0, 0, 1, 0, 0, none, [], [], none, 0, 0, rfl, G3, Run.start (term_parts HA.out).2.2 (term_parts HB.out).2.2, Own.nil _ _, Avoid.nil, by omega, next_trans M.b b3⟩)
      have hw2 : w.heap.size ≤ w2.heap.size := M.b.size
      have HW3 := Lib.hid (show W3 = w2.alloc (.cells #[.slice A n c, .slice P m mc, .int .i64 0, .slice A n c, .slice Q k kc, .int .i64 0, .slice none 0 0] 85) from hW3)
      have HLA := Lib.hid M.pa.1
      clear M G3 b3 hs3 hW3
      go_wp2_with fail
      rw [← HW3.out]
      obtain ⟨g, hg⟩ : ∃ g, g = w2.heap.size := ⟨_, rfl⟩
      rw [← hg] at HH hw2 ⊢
      clear hg HW3
      go_loopg [8] m (fun f_ r wr => HeadG w g A n c sg P m mc a Q k kc b f_ r wr)
      case atStart => exact HH.out
      case round =>
        obtain ⟨i, j, q, dn, dc, D, T, R, O, on, oc, rfl, G, hR, ho, hav, hf, hb⟩ := hrel
        clear HH
        have hil := G.li
        have e2 : wr.cell? ⟨g, 2, none⟩ = some (.int .i64 (i : Int)) := G.cell 2
        have e6 : wr.cell? ⟨g, 6, none⟩ = some (.slice D dn dc) := G.cell 6
        have hon : on ≤ 60 := by rw [Own.len ho]; have := hR.rl; omega
        have HF := Lib.hid hf
        by_cases hlt : i < m
        · have i1 : (i : Int) < (m : Int) := by omega
          have LN := Lib.hid (gn_next g A n c sg P m mc a Q k kc b w wr i j q dn dc D T R G hR hlt hm60 hk60 hcm.1 hcm.2 hck.1 hck.2)
          have HGR := Lib.hid G
          have HO := Lib.hid ho
          have HAV := Lib.hid hav
          have HBB := Lib.hid hb
          clear G hR ho hav hb hf e6
          go_wp2_with (first
            | (go_at_call 78; refine LN.out.mono ?_; rintro e w4 ⟨x, i', j', q', D', dn', dc', T', rfl, G4, t4, hD, av, hR', hi'⟩; have o4 := own_two HO.out HGR.out.row (fun z hz => (topRow HGR.out.o z hz).1) t4; have g4 := G4.lt)
            | (at_builtin; refine appAllAt rfl _ _ rfl (g + 1) O on oc R rfl (Own.next o4 ((Below.refl _ _).alloc (Nat.le_refl _) _)) (some ⟨w4.heap.size, 0, none⟩) 1 1 (w4.alloc (.cells #[.int .i64 x] 2)).heap.size [x] rfl (one_seg w4 x) (by omega) (by omega) (by omega) (by simp; omega) ?_; intro O' oc' w5 ho5 hg5 hat5))
          have S := head_step hw2 HGR.out HO.out HAV.out HBB.out G4 t4 hD av hR' ho5 hg5 hat5
          have HS := Lib.hid S
          have HM := Lib.hid (show m - i' < gk by have := HF.out; have := G4.li; omega)
          clear S G4 t4 hD av hR' ho5 hg5 hat5 o4 LN HGR HO HAV HBB
          go_wp2
          go_roundg (m - i')
          case measure => exact HM.out
          case rel => exact HS.out
        · have him : i = a.length := by rw [HLA.out]; omega
          have hys := isG_run HG.out HA.out HB.out (hR.end him)
          have hdl : dn = T.length := by have := G.o.len; simpa using this.symm
          have HY := Lib.hid hys
          have HDL := Lib.hid hdl
          have hgb : w.heap.size ≤ g + 1 := by omega
          have HO := Lib.hid (Own.lower ho hgb)
          have HBB := Lib.hid hb
          have hdn : dn ≤ 60 := by have := hR.tl; omega
          have i1 : ¬ (i : Int) < (m : Int) := by omega
          clear G hR ho hav hb hf him hys hdl HG HLA
          by_cases h24 : 24 < dn
          · have F := Lib.hid (show AnsList w ys (.returned (.slice none 0 0)) wr from ⟨none, 0, 0, rfl, by rw [HY.out, if_neg (by rw [← HDL.out]; omega)]; exact Own.nil _ _, HBB.out⟩)
            have d1 : (24 : Int) < (dn : Int) := by omega
            clear HO HBB
            go_wp2
            go_ret
            exact F.out
          · have F := Lib.hid (show AnsList w ys (.returned (.slice O on oc)) wr from ⟨O, on, oc, rfl, by rw [HY.out, if_pos (by rw [← HDL.out]; omega)]; exact HO.out, HBB.out⟩)
            have d1 : ¬ (24 : Int) < (dn : Int) := by omega
            clear HO HBB
            go_wp2
            go_ret
            exact F.out
end Go.Proofs.Ytkmhnkljigncmaa.genImpl
end

section
/-
  WORDS FOR MEMORY: a table of 24 lists that may be read ('TabR'). Conditions: none; plain lemmas. By an AI agent.
-/
namespace Go.Proofs.Ytkmhnkljigncmaa.whole
open Go.RowKit Go.Proofs.Ytkmhnkljigncmaa.base Go.Proofs.Ytkmhnkljigncmaa.segs Go.Proofs.Ytkmhnkljigncmaa.matchMath
set_option maxRecDepth 100000

/-- 24 empty lists -/
def z24 : Array Value := Array.replicate 24 (.slice none 0 0)
theorem z24_size : z24.size = 24 := by simp [z24]

section
variable {w w' : World} {B B' g : Nat} {cs : Array Value} {s : List (List Int)} {t : TypeId}
/-- 24 lists that may be read, all of them below B -/
def TabR (w : World) (B : Nat) (cs : Array Value) (s : List (List Int)) : Prop :=
  cs.size = 24 ∧ s.length = 24 ∧ ∀ j, j < 24 → ∃ A n c, cs[j]? = some (.slice A n c) ∧ Seg w B A n (s.getD j []) ∧ Cap A n c
theorem TabR.new (w : World) (B : Nat) : TabR w B z24 s0 :=
  ⟨z24_size, rfl, fun j hj => ⟨none, 0, 0, by simp [z24, hj], by rw [s0_get]; exact Seg.empty, ⟨Nat.le_refl _, by omega, fun _ => rfl⟩⟩⟩
theorem TabR.keep (h : TabR w B cs s) (hk : ∀ p : Addr, p.block < B → w'.cell? p = w.cell? p) : TabR w' B cs s :=
  ⟨h.1, h.2.1, fun j hj => by obtain ⟨A, n, c, e, hs, hc⟩ := h.2.2 j hj; exact ⟨A, n, c, e, hs.keep hk, hc⟩⟩
theorem TabR.more (h : TabR w B cs s) (hB : B ≤ B') : TabR w B' cs s :=
  ⟨h.1, h.2.1, fun j hj => by obtain ⟨A, n, c, e, hs, hc⟩ := h.2.2 j hj; exact ⟨A, n, c, e, hs.more hB, hc⟩⟩
theorem TabR.below (h : TabR w B cs s) (hb : Below B w w') : TabR w' B cs s := h.keep fun _ hp => hb.cell hp
theorem TabR.put (h : TabR w B cs s) {j : Nat} (hj : j < 24) {A : Option Addr} {n c : Nat} {ys : List Int} (hs : Seg w B A n ys) (hc : Cap A n c) : TabR w B (cs.setIfInBounds j (.slice A n c)) (s.set j ys) := by
  refine ⟨by rw [Array.size_setIfInBounds]; exact h.1, by rw [List.length_set]; exact h.2.1, fun i hi => ?_⟩
  by_cases e : j = i
  · subst e
    exact ⟨A, n, c, by rw [Array.getElem?_setIfInBounds_self_of_lt (by rw [h.1]; exact hj)], by rw [set_get, if_pos ⟨rfl, by rw [h.2.1]; exact hj⟩]; exact hs, hc⟩
  · obtain ⟨A', n', c', e', hs', hc'⟩ := h.2.2 i hi
    exact ⟨A', n', c', by rw [Array.getElem?_setIfInBounds_ne e]; exact e', by rw [set_get, if_neg (fun hh => e hh.1)]; exact hs', hc'⟩
theorem TabR.one (h : TabR w B cs s) : cs.all (·.oneCell') = true := by
  rw [Array.all_eq_true]
  intro i hi
  obtain ⟨A, n, c, e, _⟩ := h.2.2 i (by rw [← h.1]; exact hi)
  rw [Array.getElem?_eq_getElem hi] at e
  injection e with e
  rw [e]; rfl
theorem TabR.segs (h : TabR w B cs s) (hr : Row w g t cs) (hB : B ≤ w.heap.size) : Segs w w.heap.size (some ⟨g, 0, none⟩) 24 s := by
  refine ⟨h.2.1, fun _ => ⟨g, 0, rfl, hr.lt, fun j hj => ?_⟩⟩
  obtain ⟨A, n, c, e, hs, hc⟩ := h.2.2 j hj
  exact ⟨A, n, c, by rw [Nat.zero_add, hr.cell j, e], hs.more hB, hc⟩
theorem TabR.made (w : World) (B : Nat) : TabR w B (madeCells #[.slice none 0 0] 24) s0 :=
  ⟨size_madeCells _ _, rfl, fun j hj => ⟨none, 0, 0, by simp [madeCells, hj, Nat.mod_one], by rw [s0_get]; exact Seg.empty, ⟨Nat.le_refl _, by omega, fun _ => rfl⟩⟩⟩
end
end Go.Proofs.Ytkmhnkljigncmaa.whole
end

section
/-
  CONTRACTS: spec.l4Match, Matched, InstanceIn. Conditions: the slices read as lists ('Seg'), at most 1048576 numbers. By an AI agent.
-/
namespace Go.Proofs.Ytkmhnkljigncmaa.matchSpec
open Go.RowKit Go.Proofs.Ytkmhnkljigncmaa.base Go.Proofs.Ytkmhnkljigncmaa.ints Go.Proofs.Ytkmhnkljigncmaa.sig Go.Proofs.Ytkmhnkljigncmaa.same Go.Proofs.Ytkmhnkljigncmaa.term Go.Proofs.Ytkmhnkljigncmaa.termOk Go.Proofs.Ytkmhnkljigncmaa.endAt Go.Proofs.Ytkmhnkljigncmaa.inside Go.Proofs.Ytkmhnkljigncmaa.marks Go.Proofs.Ytkmhnkljigncmaa.app Go.Proofs.Ytkmhnkljigncmaa.sym Go.Proofs.Ytkmhnkljigncmaa.sub Go.Proofs.Ytkmhnkljigncmaa.segs Go.Proofs.Ytkmhnkljigncmaa.segsHelp Go.Proofs.Ytkmhnkljigncmaa.termFacts Go.Proofs.Ytkmhnkljigncmaa.termMath Go.Proofs.Ytkmhnkljigncmaa.posMath Go.Proofs.Ytkmhnkljigncmaa.plainMath Go.Proofs.Ytkmhnkljigncmaa.plain Go.Proofs.Ytkmhnkljigncmaa.plainOf Go.Proofs.Ytkmhnkljigncmaa.gives Go.Proofs.Ytkmhnkljigncmaa.cursor Go.Proofs.Ytkmhnkljigncmaa.matchMath
set_option maxRecDepth 100000

/-- a table of 24 lists of the call's own -/
structure Tab (w : World) (T : Nat) (s : List (List Int)) : Prop where
  len : s.length = 24
  row : ∃ cs, Row w T 24 cs ∧ cs.size = 24 ∧ ∀ j, j < 24 → ∃ A n c, cs[j]? = some (.slice A n c) ∧ Own w (T + 1) (.slice A n c) (s.getD j [])
section
variable {w w' : World} {T : Nat} {s : List (List Int)}
theorem Tab.lt (h : Tab w T s) : T < w.heap.size := by obtain ⟨cs, hr, _⟩ := h.row; exact hr.lt
theorem Tab.next (h : Tab w T s) (hb : Below w.heap.size w w') : Tab w' T s := by
  obtain ⟨cs, hr, hs, hc⟩ := h.row
  exact ⟨h.len, cs, hr.next hb, hs, fun j hj => by obtain ⟨A, n, c, e, ho⟩ := hc j hj; exact ⟨A, n, c, e, Own.next ho hb⟩⟩
theorem Tab.at (h : Tab w T s) {j : Nat} (hj : j < 24) : ∃ A n c, w.cell? ⟨T, j, none⟩ = some (.slice A n c) ∧ Own w (T + 1) (.slice A n c) (s.getD j []) := by
  obtain ⟨cs, hr, hs, hc⟩ := h.row
  obtain ⟨A, n, c, e, ho⟩ := hc j hj
  exact ⟨A, n, c, by rw [hr.cell j, e], ho⟩
theorem Tab.free (h : Tab w T s) (j : Nat) : w.frozen? ⟨T, j, none⟩ = false := by obtain ⟨cs, hr, _⟩ := h.row; exact hr.free j
theorem Tab.put (h : Tab w T s) {j : Nat} (hj : j < 24) {A : Option Addr} {n c : Nat} {ys : List Int} (ho : Own w (T + 1) (.slice A n c) ys) : Tab (w.setCell ⟨T, j, none⟩ (.slice A n c)) T (s.set j ys) := by
  obtain ⟨cs, hr, hs, hc⟩ := h.row
  have hg : w.grownBy (w.setCell ⟨T, j, none⟩ (.slice A n c)) (some T) := grown_put (World.grownBy.refl _ _) _ _
  have far : ∀ {A' : Option Addr} {n' c' : Nat} {zs : List Int}, Own w (T + 1) (.slice A' n' c') zs → Own (w.setCell ⟨T, j, none⟩ (.slice A n c)) (T + 1) (.slice A' n' c') zs := fun h => Own.far h hg (fun k hk => by injection hk; omega)
  refine ⟨by rw [List.length_set]; exact h.len, cs.setIfInBounds j (.slice A n c), hr.put j _, by rw [Array.size_setIfInBounds]; exact hs, fun i hi => ?_⟩
  by_cases e : j = i
  · subst e
    exact ⟨A, n, c, by rw [Array.getElem?_setIfInBounds_self_of_lt (by omega)], by rw [set_get, if_pos ⟨rfl, by rw [h.len]; exact hj⟩]; exact far ho⟩
  · obtain ⟨A', n', c', e', ho'⟩ := hc i hi
    exact ⟨A', n', c', by rw [Array.getElem?_setIfInBounds_ne e]; exact e', by rw [set_get, if_neg (fun hh => e hh.1)]; exact far ho'⟩
theorem Tab.segs (h : Tab w T s) : Segs w w.heap.size (some ⟨T, 0, none⟩) 24 s := by
  obtain ⟨cs, hr, hs, hc⟩ := h.row
  refine ⟨h.len, fun _ => ⟨T, 0, rfl, hr.lt, fun j hj => ?_⟩⟩
  obtain ⟨A, n, c, e, ho⟩ := hc j hj
  refine ⟨A, n, c, by rw [Nat.zero_add, hr.cell j, e], ?_, ?_⟩
  · have := Own.len ho; exact Own.seg ho
  · rcases ho.form with ⟨e1, _⟩ | ⟨g, c', cur, e1, _, _, _, _⟩
    · injection e1 with e1 e2 e3; subst e1 e2 e3; exact ⟨Nat.le_refl _, by omega, fun _ => rfl⟩
    · exact look.own_cap ho
end
theorem Tab.new (w : World) : Tab (w.alloc (.cells (madeCells #[.slice none 0 0] 24) 24)) w.heap.size s0 := by
  refine ⟨rfl, _, Row.new _ _ _, size_madeCells _ _, fun j hj => ⟨none, 0, 0, ?_, by rw [s0_get]; exact Own.nil _ _⟩⟩
  simp [madeCells, hj, Nat.mod_one]

def resL (R : Option (List (List Int))) : List (List Int) := match R with
  | some s => plainL (givesL s) 24
  | none => []
def AnsM (w : World) (xss : List (List Int)) (b : Bool) (e : Ending) (w' : World) : Prop := ∃ A n c, e = .returned (.tuple #[.agg #[.slice A n c], .bool b]) ∧ Owns w' w.heap.size w'.heap.size A n c xss ∧ Below w.heap.size w w'
theorem ansM_no {w w' : World} {R : Option (List (List Int))} (h : R = none) (hb : Below w.heap.size w w') : AnsM w (resL R) R.isSome (.returned (.tuple #[.agg #[.slice none 0 0], .bool false])) w' :=
  ⟨none, 0, 0, by rw [h]; rfl, by rw [h]; exact Owns.nil _ _ _, hb⟩

/-- what stands in the course of l4Match -/
structure Mt (w wr : World) (A : Option Addr) (n c : Nat) (sg : List Int) (P : Option Addr) (pn : Nat) (p : List Int) (Q : Option Addr) (m : Nat) (t : List Int) (s : List (List Int)) : Prop where
  r0 : Row wr w.heap.size 26 #[.slice A n c]
  r1 : Row wr (w.heap.size + 1) 31 #[.slice none 0 0]
  r3 : Row wr (w.heap.size + 1 + 1 + 1) 31 #[.slice (some ⟨w.heap.size + 1 + 1, 0, none⟩) 24 24]
  tb : Tab wr (w.heap.size + 1 + 1) s
  ss : Seg wr w.heap.size A n sg
  sp : Seg wr w.heap.size P pn p
  st : Seg wr w.heap.size Q m t
  b : Below w.heap.size w wr
section
variable {w wr w' : World} {A : Option Addr} {n c : Nat} {sg : List Int} {P : Option Addr} {pn : Nat} {p : List Int} {Q : Option Addr} {m : Nat} {t : List Int} {s : List (List Int)}
theorem Mt.next (h : Mt w wr A n c sg P pn p Q m t s) (hb : Below wr.heap.size wr w') : Mt w w' A n c sg P pn p Q m t s :=
  have b : Below w.heap.size wr w' := hb.mono h.b.size
  ⟨h.r0.next hb, h.r1.next hb, h.r3.next hb, h.tb.next hb, h.ss.below b, h.sp.below b, h.st.below b, h.b.trans b⟩
theorem Mt.put (h : Mt w wr A n c sg P pn p Q m t s) {j : Nat} (hj : j < 24) {D : Option Addr} {dn dc : Nat} {ys : List Int} (ho : Own wr (w.heap.size + 1 + 1 + 1) (.slice D dn dc) ys) : Mt w (wr.setCell ⟨w.heap.size + 1 + 1, j, none⟩ (.slice D dn dc)) A n c sg P pn p Q m t (s.set j ys) :=
  ⟨h.r0.far (show w.heap.size ≠ w.heap.size + 1 + 1 by omega) _, h.r1.far (show w.heap.size + 1 ≠ w.heap.size + 1 + 1 by omega) _, h.r3.far (show w.heap.size + 1 + 1 + 1 ≠ w.heap.size + 1 + 1 by omega) _, h.tb.put hj ho, h.ss.put (show w.heap.size ≤ w.heap.size + 1 + 1 by omega) _, h.sp.put (show w.heap.size ≤ w.heap.size + 1 + 1 by omega) _, h.st.put (show w.heap.size ≤ w.heap.size + 1 + 1 by omega) _, h.b.setCell (show w.heap.size ≤ w.heap.size + 1 + 1 by omega) _⟩
end

set_option maxHeartbeats 1000000 in
theorem l4Match (A P Q : Option Addr) (n c pn pc m mc : Nat) (sg p t : List Int) (w : World) (h : Seg w w.heap.size A n sg) (hp : Seg w w.heap.size P pn p) (ht : Seg w w.heap.size Q m t) (hn : n ≤ 1048576) (hpn : pn ≤ 60) (hm : m ≤ 60) (hmc : m ≤ mc) (hmc2 : mc ≤ 9223372036854775807)
    (hokp : termOkB sg p = true) (hokt : termOkB sg t = true) :
    Calls Try.prog 119 #[.agg #[.slice A n c], .slice P pn pc, .slice Q m mc] w (AnsM w (resL (mst sg t p 0 s0)) (mst sg t p 0 s0).isSome) := by
  obtain ⟨W0, hW0⟩ : ∃ W, W = (w.alloc (.cells #[.slice A n c] 26)).alloc (.cells #[.slice none 0 0] 31) := ⟨_, rfl⟩
  have z0 : W0.heap.size = w.heap.size + 1 + 1 := by rw [hW0]; simp
  obtain ⟨W, hW⟩ : ∃ W, W = (W0.alloc (.cells (madeCells #[.slice none 0 0] 24) 24)).alloc (.cells #[.slice (some ⟨w.heap.size + 1 + 1, 0, none⟩) 24 24] 31) := ⟨_, rfl⟩
  have b0 : Below w.heap.size w W0 := by rw [hW0]; exact ((Below.refl _ _).alloc (Nat.le_refl _) _).alloc (by simp) _
  have b1 : Below w.heap.size w W := by rw [hW]; exact (b0.alloc b0.size _).alloc (by simp; omega) _
  have hmk : ∀ W : World, (Instr.makeSlice 29 (.int .i64 24) (.int .i64 24)).run Try.prog W = .ok (.slice (some ⟨W.heap.size, 0, none⟩) 24 24) (W.alloc (.cells (madeCells #[.slice none 0 0] 24) 24)) := fun W => run_make_lists 24 (by omega) W
  have M0 : Mt w W A n c sg P pn p Q m t s0 := by
    refine ⟨?_, ?_, ?_, ?_, h.below b1, hp.below b1, ht.below b1, b1⟩
    · rw [hW, hW0]; exact (((Row.new w _ _).alloc _).alloc _).alloc _
    · rw [hW, hW0]
      have := (((Row.new (w.alloc (.cells #[.slice A n c] 26)) 31 #[.slice none 0 0]).alloc (.cells (madeCells #[.slice none 0 0] 24) 24)).alloc (.cells #[.slice (some ⟨w.heap.size + 1 + 1, 0, none⟩) 24 24] 31))
      simpa using this
    · rw [hW]
      have := Row.new (W0.alloc (.cells (madeCells #[.slice none 0 0] 24) 24)) 31 #[.slice (some ⟨w.heap.size + 1 + 1, 0, none⟩) 24 24]
      have e : (W0.alloc (.cells (madeCells #[.slice none 0 0] 24) 24)).heap.size = w.heap.size + 1 + 1 + 1 := by simp; omega
      rwa [e] at this
    · rw [hW]
      have := (Tab.new W0).next ((Below.refl _ _).alloc (Nat.le_refl _) (.cells #[.slice (some ⟨w.heap.size + 1 + 1, 0, none⟩) 24 24] 31))
      rwa [z0] at this
  have HW := Lib.hid hW
  have HW0 := Lib.hid hW0
  have HLP := Lib.hid hp.1
  have HLT := Lib.hid ht.1
  have HT := Lib.hid hokt
  have HPM : Hid (∀ i, i < pn → -24 ≤ p.getD i 0) := Lib.hid (fun i hi => (term_num hokp (by rw [hp.1]; exact hi)).1)
  have hars := (sig_arities (termOk_parts hokt).1).1
  obtain ⟨R, hR⟩ : ∃ R, mst sg t p 0 s0 = R := ⟨_, rfl⟩
  rw [hR]
  have HR := Lib.hid hR
  have HM0 := Lib.hid M0
  clear hW hW0 h hp ht b0 b1 M0 hokp hokt hR z0
  go_enter Try.func119, Try.ntmps119
  go_wp2_with fail
  clear hmk
  go_loopg [9, 10] pn (fun g k i wr => ∃ (k' i' : Nat) (s : List (List Int)), k = .int .i64 k' ∧ i = .int .i64 i' ∧ i' + g = pn ∧ k' ≤ m ∧ mst sg t (p.drop i') k' s = R ∧ (∀ j, (s.getD j []).length ≤ 60) ∧ Mt w wr A n c sg P pn p Q m t s)
  case atStart =>
    have hM := HM0.out
    rw [HW.out, HW0.out] at hM
    exact ⟨0, 0, s0, rfl, rfl, by omega, Nat.zero_le _, HR.out, fun j => by rw [s0_get]; simp, hM⟩
  case round =>
    obtain ⟨k, i, s, rfl, rfl, hi, hk, hmst, hs60, M⟩ := hrel
    clear HM0 HW HW0
    have HI := Lib.hid hi
    have HMS := Lib.hid hmst
    have HS60 := Lib.hid hs60
    clear hi hmst hs60
    by_cases hip : i < pn
    · have hgk := Lib.hid (show gk - 1 < gk ∧ i + 1 + (gk - 1) = pn by have := HI.out; omega)
      obtain ⟨bp, op, x, rfl, hbp, hx, ex⟩ := M.sp.spot hip
      have hx24 := HPM.out i hip
      rw [ex.out] at hx24
      have HD := Lib.hid (show p.drop i = x :: p.drop (i + 1) by rw [drop_cons (by rw [HLP.out]; exact hip), ex.out])
      have cR : wr.cell? ⟨w.heap.size + 1, 0, none⟩ = some (.slice none 0 0) := M.r1.cell 0
      have fR : wr.frozen? ⟨w.heap.size + 1, 0, none⟩ = false := M.r1.free 0
      by_cases hkm : k < m
      · obtain ⟨bt, ot, y, rfl, hbt, hy, ey⟩ := M.st.spot hkm
        have hkl : ¬ t.length ≤ k := by rw [HLT.out]; omega
        by_cases hx0 : 0 ≤ x
        · by_cases hxy : x = y
          · subst hxy
            have S := Lib.hid (show mst sg t (p.drop (i + 1)) (k + 1) s = R by rw [← HMS.out, HD.out, mst_sym hkl hx0 ey.out.symm])
            have HM := Lib.hid (fun d => M.next (below_drewN (Below.refl _ _) d))
            have hd : (x != x) = false := by simp
            clear M ex ey HD
            go_wp2
            go_quiet (fail)
            go_wp2
            go_roundg (gk - 1)
            case measure => exact hgk.out.1
            case rel => exact ⟨k + 1, i + 1, s, by simp, by simp, hgk.out.2, by omega, S.out, HS60.out, HM.out _⟩
          · have HN := Lib.hid (show R = none by rw [← HMS.out, HD.out, mst_symNo hkl hx0 (by rw [ey.out]; exact hxy)])
            have HM := Lib.hid (fun d => M.next (below_drewN (Below.refl _ _) d))
            have hd : (x != y) = true := by simp [hxy]
            have F1 := Lib.hid (fun d => ansM_no (w := w) HN.out (below_drewN M.b d))
            have F2 := Lib.hid (fun d => ansM_no (w := w) HN.out ((below_drewN M.b d).setCell (p := ⟨w.heap.size + 1, 0, none⟩) (show w.heap.size ≤ w.heap.size + 1 by omega) (.slice none 0 0)))
            clear M ex ey HD HM
            go_wp2
            go_quiet (fail)
            go_wp2
            first
              | exact bodyPost_ret (v := .tuple #[.agg #[.slice none 0 0], .bool false]) (by simp [results, Try.results119, go_sem, cR]) rfl (F1.out _)
              | exact bodyPost_ret (v := .tuple #[.agg #[.slice none 0 0], .bool false]) (by simp [results, Try.results119, go_sem, cR]) rfl (F2.out _)
        · obtain ⟨v, hv⟩ : ∃ v : Nat, x = -1 - (v : Int) := ⟨(-1 - x).toNat, by omega⟩
          subst hv
          have hv24 : v < 24 := by omega
          have hvr : vr (-1 - (v : Int)) = v := by unfold vr; omega
          obtain ⟨t1, t2, t3⟩ := term_at HT.out (show k < t.length by rw [HLT.out]; exact hkm)
          rw [HLT.out] at t3
          have hsl := (sub_len1 HT.out (show k < t.length by rw [HLT.out]; exact hkm)).1
          have cA : wr.cell? ⟨w.heap.size, 0, none⟩ = some (.slice A n c) := M.r0.cell 0
          have LS := Lib.hid (l1Sub A (some ⟨bt, ot, none⟩) n c m mc sg t k (len1 sg t k) wr (M.ss.more M.b.size) (M.st.more M.b.size) hn (by omega) hmc hmc2 hars hkm t1 t2 t3)
          obtain ⟨ys, hys⟩ : ∃ ys, subL sg t k = ys := ⟨_, rfl⟩
          rw [hys] at LS hsl
          have HYS := Lib.hid hys
          have hyl : k + ys.length ≤ m := by rw [hsl]; exact t3
          have hyl60 : ys.length ≤ 60 := by omega
          have hwr := M.b.size
          have hw3 := M.r3.lt
          clear hys t1 t2 t3 hsl hy ey cR fR
          go_wp2_with fail
          refine LS.out.mono ?_
          rintro e w1 ⟨D, dn, dc, rfl, od, bb⟩
          replace M := M.next bb
          have hx1 : w1.cell? ⟨bp, op + i, none⟩ = some (.int .i64 (-1 - (v : Int))) := (bb.cell (p := ⟨bp, op + i, none⟩) (show bp < wr.heap.size by omega)).trans hx
          obtain rfl : dn = ys.length := Own.len od
          replace od := Own.lower (base' := w.heap.size + 1 + 1 + 1) od (by omega)
          obtain ⟨Ao, no, co, hc, oo⟩ := M.tb.at hv24
          obtain ⟨os, hos⟩ : ∃ os, s.getD v [] = os := ⟨_, rfl⟩
          rw [hos] at oo
          have HOS := Lib.hid hos
          have HNO := Lib.hid (Own.len oo)
          have hno60 : no ≤ 60 := by rw [HNO.out, ← hos]; exact HS60.out v
          have c3 : w1.cell? ⟨w.heap.size + 1 + 1 + 1, 0, none⟩ = some (.slice (some ⟨w.heap.size + 1 + 1, 0, none⟩) 24 24) := M.r3.cell 0
          have hw1 : IntKind.i64.wrap (-1 - (-1 - (v : Int))) = (v : Int) := by rw [IntKind.wrap_i64]; omega
          have hw2 : IntKind.i64.wrap (v : Int) = (v : Int) := by rw [IntKind.wrap_i64]; omega
          have j0 : (0 : Int) ≤ (v : Int) := by omega
          have j1 : (v : Int) < 24 := by omega
          have HMD := Lib.hid (fun d => M.next (below_drewN (Below.refl _ _) d))
          have HOD := Lib.hid (fun d => Own.drewN od d)
          have HOO := Lib.hid (fun d => Own.drewN oo d)
          have HC := Lib.hid hc
          have HX1 := Lib.hid hx1
          have HVR := Lib.hid hvr
          clear bb hx LS M od oo hos hvr
          go_wp2
          go_quiet (fail)
          generalize hd1 : w1.drewN _ = w2
          have M : Mt w w2 A n c sg (some ⟨bp, op, none⟩) pn p (some ⟨bt, ot, none⟩) m t s := by rw [← hd1]; exact HMD.out _
          have od : Own w2 (w.heap.size + 1 + 1 + 1) (.slice D ys.length dc) ys := by rw [← hd1]; exact HOD.out _
          have oo : Own w2 (w.heap.size + 1 + 1 + 1) (.slice Ao no co) os := by rw [← hd1]; exact HOO.out _
          clear hd1 HMD HOD HOO hx1 c3 hc
          have cR : w2.cell? ⟨w.heap.size + 1, 0, none⟩ = some (.slice none 0 0) := M.r1.cell 0
          have fR : w2.frozen? ⟨w.heap.size + 1, 0, none⟩ = false := M.r1.free 0
          by_cases hn0 : no = 0
          · have hno2 : ¬ ((s.getD (vr (-1 - (v : Int))) []).length ≠ 0 ∧ s.getD (vr (-1 - (v : Int))) [] ≠ subL sg t k) := by
              rw [HVR.out, HOS.out]
              intro h
              exact h.1 (by rw [← HNO.out]; exact hn0)
            subst hn0
            have S := Lib.hid (show mst sg t (p.drop (i + 1)) (k + ys.length) (s.set v ys) = R by rw [← HMS.out, HD.out, mst_var hkl (show ¬ 0 ≤ -1 - (v : Int) by omega) hno2, HVR.out, HYS.out])
            have hs2 := Lib.hid (show ∀ j, ((s.set v ys).getD j []).length ≤ 60 from fun j => by rw [set_get]; split; exact hyl60; exact HS60.out j)
            have hxq : w2.cell? ⟨bp, op + i, none⟩ = some (.int .i64 (-1 - (v : Int))) := by
              obtain ⟨b', o', x', e', -, hq, ex'⟩ := M.sp.spot hip
              injection e' with e'
              injection e' with e1 e2
              subst e1 e2
              rw [hq, ← ex'.out, ex.out]
            have c3q : w2.cell? ⟨w.heap.size + 1 + 1 + 1, 0, none⟩ = some (.slice (some ⟨w.heap.size + 1 + 1, 0, none⟩) 24 24) := M.r3.cell 0
            have fT : w2.frozen? ⟨w.heap.size + 1 + 1, v, none⟩ = false := M.tb.free v
            obtain ⟨A9, n9, c9, hcq, -⟩ := M.tb.at hv24
            have HM2 := Lib.hid (fun d => (M.next (below_drewN (Below.refl _ _) d)).put hv24 (Own.drewN od d))
            clear M od
            go_wp2
            go_region
            go_wp2
            go_roundg (gk - 1)
            case measure => exact hgk.out.1
            case rel => exact ⟨k + ys.length, i + 1, s.set v ys, by simp, by simp, hgk.out.2, hyl, S.out, hs2.out, HM2.out _⟩
          · have hpos : (0 : Int) < (no : Int) := by omega
            go_wp2_with fail
            refine (specSame Ao D no ys.length co dc os ys w2 (Own.seg oo) (Own.seg od) (by omega) (by omega)).mono ?_
            rintro e w3 ⟨he, d3, rfl⟩
            replace M := M.next (below_drewN (Below.refl _ _) d3)
            replace od := Own.drewN od d3
            clear oo cR fR
            generalize w2.drewN d3 = w3 at *
            have cR : w3.cell? ⟨w.heap.size + 1, 0, none⟩ = some (.slice none 0 0) := M.r1.cell 0
            have fR : w3.frozen? ⟨w.heap.size + 1, 0, none⟩ = false := M.r1.free 0
            by_cases hoy : os = ys
            · rw [decide_eq_true hoy] at he
              subst he
              have hno2 : ¬ ((s.getD (vr (-1 - (v : Int))) []).length ≠ 0 ∧ s.getD (vr (-1 - (v : Int))) [] ≠ subL sg t k) := by
                rw [HVR.out, HOS.out, HYS.out]
                intro h
                exact h.2 hoy
              have S := Lib.hid (show mst sg t (p.drop (i + 1)) (k + ys.length) (s.set v ys) = R by rw [← HMS.out, HD.out, mst_var hkl (show ¬ 0 ≤ -1 - (v : Int) by omega) hno2, HVR.out, HYS.out])
              have hs2 := Lib.hid (show ∀ j, ((s.set v ys).getD j []).length ≤ 60 from fun j => by rw [set_get]; split; exact hyl60; exact HS60.out j)
              have hxq : w3.cell? ⟨bp, op + i, none⟩ = some (.int .i64 (-1 - (v : Int))) := by
                obtain ⟨b', o', x', e', -, hq, ex'⟩ := M.sp.spot hip
                injection e' with e'
                injection e' with e1 e2
                subst e1 e2
                rw [hq, ← ex'.out, ex.out]
              have c3q : w3.cell? ⟨w.heap.size + 1 + 1 + 1, 0, none⟩ = some (.slice (some ⟨w.heap.size + 1 + 1, 0, none⟩) 24 24) := M.r3.cell 0
              have fT : w3.frozen? ⟨w.heap.size + 1 + 1, v, none⟩ = false := M.tb.free v
              obtain ⟨A9, n9, c9, hcq, -⟩ := M.tb.at hv24
              have HM2 := Lib.hid (fun d => (M.next (below_drewN (Below.refl _ _) d)).put hv24 (Own.drewN od d))
              clear M od
              go_wp2
              go_region
              go_wp2
              go_roundg (gk - 1)
              case measure => exact hgk.out.1
              case rel => exact ⟨k + ys.length, i + 1, s.set v ys, by simp, by simp, hgk.out.2, hyl, S.out, hs2.out, HM2.out _⟩
            · rw [decide_eq_false hoy] at he
              subst he
              have HN := Lib.hid (show R = none by
                rw [← HMS.out, HD.out, mst_varNo hkl (show ¬ 0 ≤ -1 - (v : Int) by omega) (by
                  rw [HVR.out, HOS.out, HYS.out]
                  exact ⟨by rw [← HNO.out]; exact hn0, hoy⟩)])
              have F1 := Lib.hid (ansM_no (w := w) HN.out M.b)
              have F2 := Lib.hid (ansM_no (w := w) HN.out ((M.b).setCell (p := ⟨w.heap.size + 1, 0, none⟩) (show w.heap.size ≤ w.heap.size + 1 by omega) (.slice none 0 0)))
              clear M od ex HD
              go_wp2
              first
                | exact bodyPost_ret (v := .tuple #[.agg #[.slice none 0 0], .bool false]) (by simp [results, Try.results119, go_sem, cR]) rfl F1.out
                | exact bodyPost_ret (v := .tuple #[.agg #[.slice none 0 0], .bool false]) (by simp [results, Try.results119, go_sem, cR]) rfl F2.out
      · have HN := Lib.hid (show R = none by rw [← HMS.out, HD.out, mst_out (by rw [HLT.out]; omega)])
        have hge : (m : Int) ≤ (k : Int) := by omega
        have F1 := Lib.hid (ansM_no (w := w) HN.out M.b)
        have F2 := Lib.hid (ansM_no (w := w) HN.out ((M.b).setCell (p := ⟨w.heap.size + 1, 0, none⟩) (show w.heap.size ≤ w.heap.size + 1 by omega) (.slice none 0 0)))
        clear M ex HD
        go_wp2
        first
          | exact bodyPost_ret (v := .tuple #[.agg #[.slice none 0 0], .bool false]) (by simp [results, Try.results119, go_sem, cR]) rfl F1.out
          | exact bodyPost_ret (v := .tuple #[.agg #[.slice none 0 0], .bool false]) (by simp [results, Try.results119, go_sem, cR]) rfl F2.out
    · have hipn : i = pn := by have := HI.out; omega
      have hRs : R = some s := by rw [← HMS.out, hipn, List.drop_eq_nil_of_le (by rw [HLP.out]; exact Nat.le_refl _)]; rfl
      have HRS := Lib.hid hRs
      have hlen := M.tb.len
      have htot : tot s ≤ 1048576 := by have := tot_le (M := 60) HS60.out; rw [hlen] at this; omega
      have LP := Lib.hid (l2Plain _ 24 24 s _ M.tb.segs htot)
      have c3 : wr.cell? ⟨w.heap.size + 1 + 1 + 1, 0, none⟩ = some (.slice (some ⟨w.heap.size + 1 + 1, 0, none⟩) 24 24) := M.r3.cell 0
      have z1 := M.b.size
      have r1 := M.r1
      have hb := M.b
      have zr := M.r3.lt
      clear hRs hlen htot M hipn
      go_wp2_with fail
      refine LP.out.mono ?_
      rintro e w2 ⟨D, dn, dc, rfl, od, bb⟩
      replace r1 := r1.next bb
      replace hb := next_trans hb bb
      have cR : w2.cell? ⟨w.heap.size + 1, 0, none⟩ = some (.slice none 0 0) := r1.cell 0
      have fR : w2.frozen? ⟨w.heap.size + 1, 0, none⟩ = false := r1.free 0
      have F : AnsM w (resL R) R.isSome (.returned (.tuple #[.agg #[.slice D dn dc], .bool true])) (w2.setCell ⟨w.heap.size + 1, 0, none⟩ (.slice D dn dc)) := by
        have hbt : Btw (w.heap.size + 1) (w.heap.size + 2) w2 (w2.setCell ⟨w.heap.size + 1, 0, none⟩ (.slice D dn dc)) := Btw.of_grown (grown_put (World.grownBy.refl _ _) _ _) (fun k hk => by injection hk; omega)
        have o2 := od.btw hbt (.inr (by omega))
        refine ⟨D, dn, dc, by rw [HRS.out]; rfl, ?_, hb.setCell (p := ⟨w.heap.size + 1, 0, none⟩) (show w.heap.size ≤ w.heap.size + 1 by omega) _⟩
        rw [HRS.out]
        exact o2.wider z1 (by simp)
      have HF := Lib.hid F
      clear F od bb hb r1 LP
      go_wp2
      exact bodyPost_ret (v := .tuple #[.agg #[.slice D dn dc], .bool true]) (by simp [results, Try.results119, go_sem, cR]) rfl HF.out
/-- what stands in the course of a call with a boxed signature and a boxed result -/
structure Mr (w wr : World) (A : Option Addr) (n c : Nat) (sg : List Int) (P : Option Addr) (pn : Nat) (p : List Int) (Q : Option Addr) (m : Nat) (t : List Int) : Prop where
  r0 : Row wr w.heap.size 26 #[.slice A n c]
  r1 : Row wr (w.heap.size + 1) 31 #[.slice none 0 0]
  ss : Seg wr wr.heap.size A n sg
  sp : Seg wr wr.heap.size P pn p
  st : Seg wr wr.heap.size Q m t
  b : Below w.heap.size w wr
section
variable {w wr w' : World} {A : Option Addr} {n c : Nat} {sg : List Int} {P : Option Addr} {pn : Nat} {p : List Int} {Q : Option Addr} {m : Nat} {t : List Int}
theorem Mr.start (h : Seg w w.heap.size A n sg) (hp : Seg w w.heap.size P pn p) (ht : Seg w w.heap.size Q m t) : Mr w ((w.alloc (.cells #[.slice A n c] 26)).alloc (.cells #[.slice none 0 0] 31)) A n c sg P pn p Q m t :=
  have b : Below w.heap.size w ((w.alloc (.cells #[.slice A n c] 26)).alloc (.cells #[.slice none 0 0] 31)) := ((Below.refl _ _).alloc (Nat.le_refl _) _).alloc (by simp) _
  ⟨(Row.new w _ _).alloc _, by have := Row.new (w.alloc (.cells #[.slice A n c] 26)) 31 #[.slice none 0 0]; simpa using this, h.next b, hp.next b, ht.next b, b⟩
theorem Mr.next (h : Mr w wr A n c sg P pn p Q m t) (hb : Below wr.heap.size wr w') : Mr w w' A n c sg P pn p Q m t :=
  ⟨h.r0.next hb, h.r1.next hb, h.ss.next hb, h.sp.next hb, h.st.next hb, next_trans h.b hb⟩
end
theorem ansM_off {w w' : World} {sg p t : List Int} (h : termOkB sg p = false ∨ termOkB sg t = false) (hb : Below w.heap.size w w') : AnsM w (resL (matchO sg p t)) (instB sg p t) (.returned (.tuple #[.agg #[.slice none 0 0], .bool false])) w' := by
  have := match_no h
  unfold instB
  exact ansM_no this hb

set_option maxHeartbeats 1000000 in
theorem specMatched (A P Q : Option Addr) (n c pn pc m mc : Nat) (sg p t : List Int) (w : World) (h : Seg w w.heap.size A n sg) (hp : Seg w w.heap.size P pn p) (ht : Seg w w.heap.size Q m t) (hn : n ≤ 1048576) (hpn : pn ≤ 1048576) (hm : m ≤ 1048576) (hmc : m ≤ mc) (hmc2 : mc ≤ 9223372036854775807) :
    Calls Try.prog 81 #[.agg #[.slice A n c], .slice P pn pc, .slice Q m mc] w (AnsM w (resL (matchO sg p t)) (instB sg p t)) := by
  obtain ⟨W, hW⟩ : ∃ W, W = (w.alloc (.cells #[.slice A n c] 26)).alloc (.cells #[.slice none 0 0] 31) := ⟨_, rfl⟩
  have M : Mr w W A n c sg P pn p Q m t := by rw [hW]; exact Mr.start h hp ht
  have HW := Lib.hid hW
  have L := Lib.hid (specTermOk A P n c pn pc sg p W M.ss M.sp hn hpn)
  have c0 : W.cell? ⟨w.heap.size, 0, none⟩ = some (.slice A n c) := M.r0.cell 0
  have c00 : ((w.alloc (.cells #[.slice A n c] 26)).alloc (.cells #[.slice none 0 0] 31)).cell? ⟨w.heap.size, 0, none⟩ = some (.slice A n c) := by rw [← hW]; exact c0
  clear hW h hp ht
  cases hokp : termOkB sg p with
  | false =>
    have HS := Lib.hid hokp
    clear hokp
    go_enter Try.func81, Try.ntmps81
    go_wp2_with fail
    rw [← HW.out]
    refine L.out.mono ?_
    rintro e w1 ⟨he, bb⟩
    rw [HS.out] at he
    subst he
    replace M := M.next bb
    have cR : w1.cell? ⟨w.heap.size + 1, 0, none⟩ = some (.slice none 0 0) := M.r1.cell 0
    have fR : w1.frozen? ⟨w.heap.size + 1, 0, none⟩ = false := M.r1.free 0
    have F1 := Lib.hid (ansM_off (w := w) (t := t) (.inl HS.out) M.b)
    have F2 := Lib.hid (ansM_off (w := w) (t := t) (.inl HS.out) ((M.b).setCell (p := ⟨w.heap.size + 1, 0, none⟩) (show w.heap.size ≤ w.heap.size + 1 by omega) (.slice none 0 0)))
    clear M L bb c0 c00
    go_wp2
    first
      | exact bodyPost_ret (v := .tuple #[.agg #[.slice none 0 0], .bool false]) (by simp [results, Try.results81, go_sem, cR]) rfl F1.out
      | exact bodyPost_ret (v := .tuple #[.agg #[.slice none 0 0], .bool false]) (by simp [results, Try.results81, go_sem, cR]) rfl F2.out
  | true =>
    have HSP := Lib.hid hokp
    have hp60 : pn ≤ 60 := by have h1 := (termOk_parts hokp).2.1; rw [M.sp.1] at h1; exact h1
    clear hokp
    cases hokt : termOkB sg t with
    | false =>
      have HS := Lib.hid hokt
      clear hokt
      go_enter Try.func81, Try.ntmps81
      go_wp2_with fail
      rw [← HW.out]
      refine L.out.mono ?_
      rintro e w1 ⟨he, bb⟩
      rw [HSP.out] at he
      subst he
      replace M := M.next bb
      clear bb L c0 c00
      have c0 : w1.cell? ⟨w.heap.size, 0, none⟩ = some (.slice A n c) := M.r0.cell 0
      go_wp2_with fail
      refine (specTermOk A Q n c m mc sg t _ M.ss M.st hn hm).mono ?_
      rintro e w2 ⟨he, bb⟩
      rw [HS.out] at he
      subst he
      replace M := M.next bb
      have cR : w2.cell? ⟨w.heap.size + 1, 0, none⟩ = some (.slice none 0 0) := M.r1.cell 0
      have fR : w2.frozen? ⟨w.heap.size + 1, 0, none⟩ = false := M.r1.free 0
      have F1 := Lib.hid (ansM_off (w := w) (p := p) (.inr HS.out) M.b)
      have F2 := Lib.hid (ansM_off (w := w) (p := p) (.inr HS.out) ((M.b).setCell (p := ⟨w.heap.size + 1, 0, none⟩) (show w.heap.size ≤ w.heap.size + 1 by omega) (.slice none 0 0)))
      clear M bb c0
      go_wp2
      first
        | exact bodyPost_ret (v := .tuple #[.agg #[.slice none 0 0], .bool false]) (by simp [results, Try.results81, go_sem, cR]) rfl F1.out
        | exact bodyPost_ret (v := .tuple #[.agg #[.slice none 0 0], .bool false]) (by simp [results, Try.results81, go_sem, cR]) rfl F2.out
    | true =>
      have HST := Lib.hid hokt
      have hm60 : m ≤ 60 := by have h1 := (termOk_parts hokt).2.1; rw [M.st.1] at h1; exact h1
      have HMO := Lib.hid (match_yes HSP.out hokt)
      have HIO := Lib.hid (show instB sg p t = (mst sg t p 0 s0).isSome by unfold instB; rw [HMO.out])
      clear hokt
      go_enter Try.func81, Try.ntmps81
      go_wp2_with fail
      rw [← HW.out]
      refine L.out.mono ?_
      rintro e w1 ⟨he, bb⟩
      rw [HSP.out] at he
      subst he
      replace M := M.next bb
      clear bb L c0 c00
      have c0 : w1.cell? ⟨w.heap.size, 0, none⟩ = some (.slice A n c) := M.r0.cell 0
      go_wp2_with fail
      refine (specTermOk A Q n c m mc sg t _ M.ss M.st hn hm).mono ?_
      rintro e w2 ⟨he, bb⟩
      rw [HST.out] at he
      subst he
      replace M := M.next bb
      clear bb c0
      have c0 : w2.cell? ⟨w.heap.size, 0, none⟩ = some (.slice A n c) := M.r0.cell 0
      go_wp2_with fail
      refine (l4Match A P Q n c pn pc m mc sg p t _ M.ss M.sp M.st hn hp60 hm60 hmc hmc2 HSP.out HST.out).mono ?_
      rintro e w3 ⟨D, dn, dc, rfl, od, bb⟩
      have zw := M.r1.lt
      replace M := M.next bb
      rw [← HIO.out]
      have cR : w3.cell? ⟨w.heap.size + 1, 0, none⟩ = some (.slice none 0 0) := M.r1.cell 0
      have fR : w3.frozen? ⟨w.heap.size + 1, 0, none⟩ = false := M.r1.free 0
      obtain ⟨b, hb⟩ : ∃ b, instB sg p t = b := ⟨_, rfl⟩
      rw [hb]
      have F : AnsM w (resL (matchO sg p t)) (instB sg p t) (.returned (.tuple #[.agg #[.slice D dn dc], .bool b])) (w3.setCell ⟨w.heap.size + 1, 0, none⟩ (.slice D dn dc)) := by
        have hbt : Btw (w.heap.size + 1) (w.heap.size + 2) w3 (w3.setCell ⟨w.heap.size + 1, 0, none⟩ (.slice D dn dc)) := Btw.of_grown (grown_put (World.grownBy.refl _ _) _ _) (fun k hk => by injection hk; omega)
        have o2 := od.btw hbt (.inr (by omega))
        refine ⟨D, dn, dc, by rw [hb], ?_, (M.b).setCell (p := ⟨w.heap.size + 1, 0, none⟩) (show w.heap.size ≤ w.heap.size + 1 by omega) _⟩
        rw [HMO.out]
        exact o2.wider (by omega) (by simp)
      have F1 := Lib.hid F
      clear F od bb M c0 HIO hb
      go_wp2
      exact bodyPost_ret (v := .tuple #[.agg #[.slice D dn dc], .bool b]) (by simp [results, Try.results81, go_sem, cR]) rfl F1.out

set_option maxHeartbeats 1000000 in
theorem specInstanceIn (A P Q : Option Addr) (n c pn pc m mc : Nat) (sg p t : List Int) (w : World) (h : Seg w w.heap.size A n sg) (hp : Seg w w.heap.size P pn p) (ht : Seg w w.heap.size Q m t) (hn : n ≤ 1048576) (hpn : pn ≤ 1048576) (hm : m ≤ 1048576) (hmc : m ≤ mc) (hmc2 : mc ≤ 9223372036854775807) :
    Calls Try.prog 29 #[.agg #[.slice A n c], .slice P pn pc, .slice Q m mc] w (Tells w (instB sg p t)) := by
  obtain ⟨W, hW⟩ : ∃ W, W = w.alloc (.cells #[.slice A n c] 26) := ⟨_, rfl⟩
  have bW : Below w.heap.size w W := by rw [hW]; exact (Below.refl _ _).alloc (Nat.le_refl _) _
  have HW := Lib.hid hW
  have L := Lib.hid (specMatched A P Q n c pn pc m mc sg p t W (h.next bW) (hp.next bW) (ht.next bW) hn hpn hm hmc hmc2)
  clear hW h hp ht
  generalize instB sg p t = b at *
  go_enter Try.func29, Try.ntmps29
  go_wp2_with fail
  rw [← HW.out]
  refine L.out.mono ?_
  rintro e w1 ⟨D, dn, dc, rfl, od, bb⟩
  have F := Lib.hid (fun o => (show Tells w b (.returned (.bool b)) (w1.alloc o) from ⟨rfl, (next_trans bW bb).alloc (next_trans bW bb).size _⟩))
  clear od bb L bW
  go_wp2
  go_ret
  exact F.out _
end Go.Proofs.Ytkmhnkljigncmaa.matchSpec
end

section
/-
  WORDS FOR MEMORY, impl's bindings: an array of 24 lists by value, in and out of a block that is known whole; a table of 24 lists that may be read ('TabR'). Conditions: none; plain lemmas. By an AI agent.
-/
namespace Go.Proofs.Ytkmhnkljigncmaa.whole
open Go.RowKit Go.Proofs.Ytkmhnkljigncmaa.base Go.Proofs.Ytkmhnkljigncmaa.cursor Go.Proofs.Ytkmhnkljigncmaa.marks Go.Proofs.Ytkmhnkljigncmaa.app Go.Proofs.Ytkmhnkljigncmaa.sym Go.Proofs.Ytkmhnkljigncmaa.segs Go.Proofs.Ytkmhnkljigncmaa.matchMath Go.Proofs.Ytkmhnkljigncmaa.matchSpec
set_option maxRecDepth 100000

section
variable {P : Program} {ops : Array Oper} {rest : List Oper} {o : Oper} {a : Act} {w : World} {Q : Exit → Act → World → Prop}
/-- a new variable of a type whose zero value is z -/
theorem rowAlloc (hgd : o.guard = none) (t : TypeId) (ho : o.op = .alloc t) (z : Array Value) (hz : ∀ w, (zeroValue t).run P w = .ok (.agg z) w)
    (h : wpList P ops Q rest (a.put o.dst (.pointer (some ⟨w.heap.size, 0, none⟩))) (w.alloc (.cells z t))) : wpList P ops Q (o :: rest) a w :=
  wpList_plain hgd fun _ hK => by
    unfold Oper.wp execOp
    simp only [ho, Instr.alloc, Sem.run_bind, hz, Result.andThen_ok, newVar, Value.cells]
    exact hK _ _ h
/-- a new variable with a value -/
theorem rowBox (hgd : o.guard = none) (t : TypeId) (x : Operand) (ho : o.op = .box t x) (z : Array Value) (hx : a.eval x = .agg z)
    (h : wpList P ops Q rest (a.put o.dst (.pointer (some ⟨w.heap.size, 0, none⟩))) (w.alloc (.cells z t))) : wpList P ops Q (o :: rest) a w :=
  wpList_plain hgd fun _ hK => by
    unfold Oper.wp execOp
    simp only [ho, hx, Instr.box, Sem.run_bind, Result.andThen_ok, newVar, Value.cells]
    exact hK _ _ h
/-- a literal without elements -/
theorem rowBuild (hgd : o.guard = none) (t : TypeId) (ho : o.op = .build t #[]) (z : Array Value) (hz : P.built t [] = some z)
    (h : wpList P ops Q rest (a.put o.dst (.agg z)) w) : wpList P ops Q (o :: rest) a w :=
  wpList_plain hgd fun _ hK => by
    refine wp_build t #[] ho (by simp [hz]) ?_
    simp only [List.map_toArray, List.map_nil, hz, Option.getD_some]
    exact hK _ _ h
/-- a whole row is written -/
theorem rowStore (hgd : o.guard = none) (ty : TypeId) (x y : Operand) (ho : o.op = .store ty x y) (g : Nat) (cells old : Array Value) (t : TypeId) (hx : a.eval x = .pointer (some ⟨g, 0, none⟩)) (hy : a.eval y = .agg cells)
    (hg : w.heap[g]? = some (.cells old t (0, 0))) (hi : (P.info? ty).map (·.size) = some cells.size) (hs : old.size = cells.size) (h1 : cells.all (·.oneCell') = true)
    (h : wpList P ops Q rest (a.put o.dst undef) (w.setRow g cells)) : wpList P ops Q (o :: rest) a w :=
  wpList_plain hgd fun _ hK => by
    unfold Oper.wp execOp
    simp only [ho, hx, hy, Instr.storeAt, Instr.sureAddr, Sem.run_bind, Sem.run_pure, Result.andThen_ok, run_storeVar_row w g t ty old cells hg hi hs h1]
    exact hK _ _ h
/-- a whole row and a value are the results -/
theorem results_row_tmp {fn : Func} {p u : Tmp} {ty : TypeId} (h : fn.results = #[.cell p ty, .tmp u]) (tmps : Array Value) (g : Nat) (t : TypeId) (cs : Array Value) (d : TypeDesc)
    (hp : tmps.getD p undef = .pointer (some ⟨g, 0, none⟩)) (hg : w.heap[g]? = some (.cells cs t (0, 0)))
    (hu : P.underlying ty = some d) (hd : (match d with | .struct _ | .array _ _ => true | _ => false) = true) (hi : (P.info? ty).map (·.size) = some cs.size) :
    (results fn tmps).run P w = .ok (.tuple #[.agg cs, tmps.getD u undef]) w := by
  rw [results_cell_tmp h, hp]
  simp [asAddr, Result.andThen, run_loadVar_row w g t ty cs (0, 0) d hg hu hd hi]
end

theorem z24_one : z24.all (·.oneCell') = true := by kernel_rfl
theorem info_b : (Try.prog.info? 114).map (fun i => (i.zero, i.size)) = some (some (.agg z24), 24) := by kernel_rfl
theorem zero_b : ∀ w, (zeroValue 114).run Try.prog w = .ok (.agg z24) w := by
  intro w
  cases hq : Try.prog.info? 114 with
  | none => have h := info_b; simp [hq] at h
  | some i => have h := info_b; simp [hq] at h; simp [zeroValue, typeInfo, hq, h.1]
theorem size_b : (Try.prog.info? 114).map (·.size) = some 24 := by kernel_rfl
theorem built_b : Try.prog.built 114 [] = some z24 := by kernel_rfl

section
variable {w w' : World} {B B' g : Nat} {cs : Array Value} {s : List (List Int)} {t : TypeId}
theorem Row.setRow (h : Row w g t cs) (c' : Array Value) : Row (w.setRow g c') g t c' := setRow_heap w g cs c' t (0, 0) h
theorem grown_setRow (w : World) (g : Nat) (c' : Array Value) : w.grownBy (w.setRow g c') (some g) :=
  ⟨rfl, rfl, rfl, by simp, fun k _ hk => setRow_other w g k c' (fun e => hk (by rw [e]))⟩

end
end Go.Proofs.Ytkmhnkljigncmaa.whole
end

section
/-
  PLAIN MATHEMATICS of impl's matching: pattern and term are read in step; a pattern is matched at a place of a term just where it is matched with the subterm there; all terms valid. Conditions: none. By an AI agent.
-/
namespace Go.Proofs.Ytkmhnkljigncmaa.takeMath
open Go.Proofs.Ytkmhnkljigncmaa.sig Go.Proofs.Ytkmhnkljigncmaa.term Go.Proofs.Ytkmhnkljigncmaa.termOk Go.Proofs.Ytkmhnkljigncmaa.termFacts Go.Proofs.Ytkmhnkljigncmaa.endAt Go.Proofs.Ytkmhnkljigncmaa.sub Go.Proofs.Ytkmhnkljigncmaa.termMath Go.Proofs.Ytkmhnkljigncmaa.fillMath Go.Proofs.Ytkmhnkljigncmaa.posMath Go.Proofs.Ytkmhnkljigncmaa.renMath Go.Proofs.Ytkmhnkljigncmaa.matchMath

/-- as many terms are missing in the pattern as in the term -/
def Sync (sg p t : List Int) (i k : Nat) : Prop := ∃ q, scan sg q (p.drop i) = some (p.length - i) ∧ ∃ j, scan sg q (t.drop k) = some j
section
variable {sg p t : List Int} {i k : Nat} {x : Int}
theorem Sync.start (h1 : termOkB sg p = true) (h2 : termOkB sg t = true) (ha : k < t.length) : Sync sg p t 0 k :=
  ⟨1, by rw [List.drop_zero, Nat.sub_zero]; exact (term_parts h1).2.2, _, (term_at h2 ha).1⟩
theorem Sync.lt (h : Sync sg p t i k) (hi : i < p.length) : k < t.length := by
  obtain ⟨q, h1, j, h2⟩ := h
  cases q with
  | zero => rw [scan_zero] at h1; injection h1 with h1; omega
  | succ q =>
    have a := scan_pos h2
    have b := scan_le h2
    rw [List.length_drop] at b
    omega
theorem Sync.sym (h : Sync sg p t i k) (hi : i < p.length) (hx : p.getD i 0 = x) (hy : t.getD k 0 = x) : Sync sg p t (i + 1) (k + 1) := by
  have hk := h.lt hi
  obtain ⟨q, h1, j, h2⟩ := h
  rw [drop_cons hi, hx] at h1
  rw [drop_cons hk, hy] at h2
  cases q with
  | zero => rw [scan_zero] at h1; injection h1 with h1; omega
  | succ q =>
    by_cases hn : ar sg x < 0
    · rw [scan_bad hn] at h1; cases h1
    · rw [scan_step hn, Option.map_eq_some_iff] at h1 h2
      obtain ⟨a, e1, e2⟩ := h1
      obtain ⟨b, e3, e4⟩ := h2
      exact ⟨_, by rw [e1]; congr 1; omega, b, e3⟩
theorem Sync.var (h : Sync sg p t i k) (hi : i < p.length) (hx : p.getD i 0 = x) (h0 : -24 ≤ x) (h1 : x < 0) (hok : termOkB sg t = true) : Sync sg p t (i + 1) (k + (subL sg t k).length) := by
  have hk := h.lt hi
  have hl := (sub_len1 hok hk).1
  obtain ⟨q, h1, j, h2⟩ := h
  rw [drop_cons hi, hx] at h1
  cases q with
  | zero => rw [scan_zero] at h1; injection h1 with h1; omega
  | succ q =>
    have hz : ar sg x = 0 := ar_var (by omega)
    rw [scan_step (by omega), hz, Option.map_eq_some_iff] at h1
    obtain ⟨a, e1, e2⟩ := h1
    obtain ⟨j1, g1, _, _, g2⟩ := scan_first h2
    rw [hl, len1_eq g1]
    exact ⟨q, by rw [show p.length - (i + 1) = a by omega]; exact e1, _, g2⟩
end

/-- at a place of the term: just where the subterm there is an instance -/
theorem mst_at {sg p t : List Int} {k : Nat} (h1 : termOkB sg p = true) (h2 : termOkB sg t = true) (hk : k < t.length) : (mst sg t p k s0).isSome = instB sg p (subL sg t k) := by
  have hx : ∀ x ∈ p, -24 ≤ x := fun x hx => (term_mem h1 hx).1
  have hs := (sub_term h2 hk).1
  obtain ⟨_, e2, e3⟩ := sub_len1 h2 hk
  rw [Bool.eq_iff_iff, inst_iff h1 hs, Option.isSome_iff_exists]
  constructor
  · rintro ⟨s', h⟩
    obtain ⟨⟨rest, e⟩, hv⟩ := mst_sound h2 h (by rfl) hx
    refine ⟨fun i => s'.getD i [], ?_, hv⟩
    have a := scan_append (r := rest) (scan_fill (L := fun i => s'.getD i []) (term_parts h1).2.2 hv)
    rw [← e] at a
    unfold subL
    rw [len1_eq a, e, List.take_left' rfl]
  · rintro ⟨L, hL, hv⟩
    obtain ⟨s', m1, _⟩ := mst_full (sg := sg) (t := t) (L := L) (p := p) (k := k) (s := s0) (rest := t.drop (k + (subL sg t k).length)) (by rw [hL]; exact e2) (by rfl) hx hv (fun i hi => by rw [s0_get] at hi; exact absurd rfl hi)
    exact ⟨s', m1⟩

/-- at most 12, all of them terms -/
def termsB (sg : List Int) (ps : List (List Int)) : Bool := decide (ps.length ≤ 12) && ps.all (termOkB sg)
theorem terms_long {sg : List Int} {ps : List (List Int)} (h : 12 < ps.length) : termsB sg ps = false := by unfold termsB; rw [decide_eq_false (by omega)]; rfl
theorem terms_bad {sg : List Int} {ps : List (List Int)} {i : Nat} (hi : i < ps.length) (h : termOkB sg (ps.getD i []) = false) : termsB sg ps = false := by
  unfold termsB
  have : ps.all (termOkB sg) = false := by
    rw [List.all_eq_false]
    exact ⟨ps[i], List.getElem_mem hi, by simpa [List.getD, hi] using h⟩
  rw [this, Bool.and_false]
theorem terms_good {sg : List Int} {ps : List (List Int)} (h2 : ps.length ≤ 12) (h : ∀ i, i < ps.length → termOkB sg (ps.getD i []) = true) : termsB sg ps = true := by
  unfold termsB
  rw [decide_eq_true h2, Bool.true_and, List.all_eq_true]
  intro x hx
  obtain ⟨i, hi, rfl⟩ := List.getElem_of_mem hx
  have := h i hi
  simpa [List.getD, hi] using this
theorem terms_parts {sg : List Int} {ps : List (List Int)} (h : termsB sg ps = true) : ps.length ≤ 12 ∧ ∀ i, i < ps.length → termOkB sg (ps.getD i []) = true := by
  unfold termsB at h
  rw [Bool.and_eq_true, decide_eq_true_eq, List.all_eq_true] at h
  refine ⟨h.1, fun i hi => ?_⟩
  have := h.2 _ (List.getElem_mem hi)
  simpa [List.getD, hi] using this
end Go.Proofs.Ytkmhnkljigncmaa.takeMath
end

section
/-
  CONTRACT: impl's (*bindings).take. Conditions: the slices read as lists ('Seg') below the bindings' block, the cursor's block is the next one, the term is valid, the place lies in it, the pattern's number is at least -24. By an AI agent.
-/
namespace Go.Proofs.Ytkmhnkljigncmaa.take
open Go.RowKit Go.Proofs.Ytkmhnkljigncmaa.base Go.Proofs.Ytkmhnkljigncmaa.ints Go.Proofs.Ytkmhnkljigncmaa.sig Go.Proofs.Ytkmhnkljigncmaa.same Go.Proofs.Ytkmhnkljigncmaa.term Go.Proofs.Ytkmhnkljigncmaa.termOk Go.Proofs.Ytkmhnkljigncmaa.endAt Go.Proofs.Ytkmhnkljigncmaa.marks Go.Proofs.Ytkmhnkljigncmaa.app Go.Proofs.Ytkmhnkljigncmaa.sym Go.Proofs.Ytkmhnkljigncmaa.sub Go.Proofs.Ytkmhnkljigncmaa.segs Go.Proofs.Ytkmhnkljigncmaa.termFacts Go.Proofs.Ytkmhnkljigncmaa.termMath Go.Proofs.Ytkmhnkljigncmaa.posMath Go.Proofs.Ytkmhnkljigncmaa.cursor Go.Proofs.Ytkmhnkljigncmaa.matchMath Go.Proofs.Ytkmhnkljigncmaa.matchSpec Go.Proofs.Ytkmhnkljigncmaa.whole Go.Proofs.Ytkmhnkljigncmaa.takeMath Go.Proofs.Ytkmhnkljigncmaa.curO
set_option maxRecDepth 100000

theorem set_same {s : List (List Int)} {v : Nat} {ys : List Int} (h : s.getD v [] = ys) (hv : v < s.length) : s.set v ys = s := by
  refine List.ext_getElem (by simp) fun i h1 h2 => ?_
  rw [List.getElem_set]
  split
  · rename_i e
    subst e
    rw [← h]
    simp [List.getD, hv]
  · rfl

/-- bindings in block g, cursor in the next one -/
structure Tk (w : World) (g : Nat) (A : Option Addr) (n c : Nat) (Q : Option Addr) (m mc : Nat) (sg t : List Int) (k : Nat) (s : List (List Int)) : Prop where
  row : Row w (g + 1) 83 #[.slice A n c, .slice Q m mc, .int .i64 k]
  tab : ∃ cs, Row w g 114 cs ∧ TabR w g cs s
  ss : Seg w g A n sg
  st : Seg w g Q m t
  le : k ≤ m
  hn : n ≤ 1048576
  hm : m ≤ 1048576
  ars : Arities sg
  hs : ∀ j, (s.getD j []).length ≤ m
section
variable {w w' : World} {g : Nat} {A : Option Addr} {n c : Nat} {Q : Option Addr} {m mc : Nat} {sg t : List Int} {k k' : Nat} {s : List (List Int)}
theorem Tk.cur (h : Tk w g A n c Q m mc sg t k s) : Cur w (g + 1) A n c Q m mc sg t k := ⟨h.row, h.ss.more (Nat.le_succ _), h.st.more (Nat.le_succ _), h.le, h.hn, h.hm, h.ars⟩
theorem Tk.lt (h : Tk w g A n c Q m mc sg t k s) : g + 1 < w.heap.size := h.row.lt
theorem keep_of {B : Nat} {r : Option Nat} (hg : w.grownBy w' r) (hB : B ≤ w.heap.size) (hr : ∀ k, r = some k → B ≤ k) : ∀ p : Addr, p.block < B → w'.cell? p = w.cell? p :=
  fun q hq => World.cell?_of_block (hg.block q.block (by omega) (fun e => by have := hr _ e.symm; omega))
/-- the cursor has moved -/
theorem Tk.move (h : Tk w g A n c Q m mc sg t k s) (hg : w.grownBy w' (some (g + 1))) (hr : Row w' (g + 1) 83 #[.slice A n c, .slice Q m mc, .int .i64 k']) (hk : k' ≤ m) : Tk w' g A n c Q m mc sg t k' s := by
  have hl := h.lt
  have hk0 := keep_of (B := g) hg (by omega) (fun k e => by injection e; omega)
  obtain ⟨cs, h1, h2⟩ := h.tab
  refine ⟨hr, ⟨cs, (hg.block g (by omega) (fun e => by injection e; omega)).trans h1, h2.keep hk0⟩, h.ss.keep hk0, h.st.keep hk0, hk, h.hn, h.hm, h.ars, h.hs⟩
theorem Tk.drewN (h : Tk w g A n c Q m mc sg t k s) (d : Nat) : Tk (w.drewN d) g A n c Q m mc sg t k s := ⟨h.row, h.tab, h.ss, h.st, h.le, h.hn, h.hm, h.ars, h.hs⟩
/-- a binding is written -/
theorem Tk.put (h : Tk w g A n c Q m mc sg t k s) {j : Nat} (hj : j < 24) {D : Option Addr} {dn dc : Nat} {ys : List Int} (hs : Seg w g D dn ys) (hc : Cap D dn dc) (hl : ys.length ≤ m) :
    Tk (w.setCell ⟨g, j, none⟩ (.slice D dn dc)) g A n c Q m mc sg t k (s.set j ys) := by
  have hlt := h.lt
  have hg : w.grownBy (w.setCell ⟨g, j, none⟩ (.slice D dn dc)) (some g) := grown_put (World.grownBy.refl _ _) _ _
  have hk0 := keep_of (B := g) hg (by omega) (fun k e => by injection e; omega)
  obtain ⟨cs, h1, h2⟩ := h.tab
  exact ⟨h.row.far (show g + 1 ≠ g by omega) _, ⟨_, h1.put j _, (h2.put hj hs hc).keep hk0⟩, h.ss.keep hk0, h.st.keep hk0, h.le, h.hn, h.hm, h.ars, fun i => by rw [set_get]; split; exact hl; exact h.hs i⟩
theorem Tk.held (h : Tk w g A n c Q m mc sg t k s) {j : Nat} (hj : j < 24) : ∃ D dn dc, w.cell? ⟨g, j, none⟩ = some (.slice D dn dc) ∧ Seg w g D dn (s.getD j []) ∧ w.frozen? ⟨g, j, none⟩ = false := by
  obtain ⟨cs, h1, h2⟩ := h.tab
  obtain ⟨D, dn, dc, e, hs, _⟩ := h2.2.2 j hj
  exact ⟨D, dn, dc, by rw [h1.cell j, e], hs, h1.free j⟩
theorem Tk.len (h : Tk w g A n c Q m mc sg t k s) : s.length = 24 := by obtain ⟨cs, h1, h2⟩ := h.tab; exact h2.2.1
end

theorem btw_drewN (lo hi : Nat) (w : World) (d : Nat) : Btw lo hi w (w.drewN d) := ⟨rfl, rfl, rfl, Nat.le_refl _, fun _ _ _ => rfl⟩
/-- what take gives: a step of the walk -/
def AnsTake (w : World) (g : Nat) (A : Option Addr) (n c : Nat) (Q : Option Addr) (m mc : Nat) (sg t : List Int) (k : Nat) (s : List (List Int)) (x : Int) (e : Ending) (w' : World) : Prop :=
  Btw g (g + 2) w w' ∧ ((∃ k' s', e = .returned (.bool true) ∧ Tk w' g A n c Q m mc sg t k' s' ∧ ((0 ≤ x ∧ t.getD k 0 = x ∧ k' = k + 1) ∨ (x < 0 ∧ k' = k + (subL sg t k).length)) ∧ ∀ r, mst sg t (x :: r) k s = mst sg t r k' s') ∨
    (e = .returned (.bool false) ∧ ∀ r, mst sg t (x :: r) k s = none))

set_option maxHeartbeats 1000000 in
theorem take (g : Nat) (A Q : Option Addr) (n c m mc : Nat) (sg t : List Int) (k : Nat) (s : List (List Int)) (x : Int) (w : World) (h : Tk w g A n c Q m mc sg t k s) (hk : k < m) (hmc : m ≤ mc) (hmc2 : mc ≤ 9223372036854775807) (hx : -24 ≤ x) (hok : termOkB sg t = true) :
    Calls Try.prog 140 #[.pointer (some ⟨g, 0, none⟩), .int .i64 x, .pointer (some ⟨g + 1, 0, none⟩)] w (AnsTake w g A n c Q m mc sg t k s x) := by
  have HT := Lib.hid hok
  have HL := Lib.hid h.st.1
  have hkt : ¬ t.length ≤ k := by rw [HL.out]; omega
  have hm := h.hm
  have c1 : w.cell? ⟨g + 1, 1, none⟩ = some (.slice Q m mc) := h.row.cell 1
  have c2 : w.cell? ⟨g + 1, 2, none⟩ = some (.int .i64 k) := h.row.cell 2
  have f2 : w.frozen? ⟨g + 1, 2, none⟩ = false := h.row.free 2
  obtain ⟨b, off, y, rfl, hbb, hy, ey⟩ := h.st.spot hk
  have i0 : (0 : Int) ≤ (k : Int) := by omega
  have i1 : (k : Int) < (m : Int) := by omega
  clear hok
  by_cases hx0 : 0 ≤ x
  · have g0 : w.grownBy (w.setCell ⟨g + 1, 2, none⟩ (.int .i64 ((k : Int) + 1))) (some (g + 1)) := grown_put (World.grownBy.refl _ _) _ _
    have M := Lib.hid (h.move (k' := k + 1) g0 (by have r := h.row.put 2 (.int .i64 ((k : Int) + 1)); have e : (.int .i64 ((k : Int) + 1) : Value) = .int .i64 ((k + 1 : Nat) : Int) := by simp
                                                   rw [← e]; exact r) hk)
    have B := Lib.hid (Btw.of_grown (lo := g) (hi := g + 2) g0 (fun k e => by injection e; omega))
    have hy1 : (w.setCell ⟨g + 1, 2, none⟩ (.int .i64 ((k : Int) + 1))).cell? ⟨b, off + k, none⟩ = some (.int .i64 y) := (World.cell?_setCell_far w ⟨g + 1, 2, none⟩ ⟨b, off + k, none⟩ _ (by show g + 1 ≠ b; omega)).trans hy
    by_cases hxy : x = y
    · subst hxy
      have F := fun d => (show AnsTake w g A n c (some ⟨b, off, none⟩) m mc sg t k s x (.returned (.bool true)) ((w.setCell ⟨g + 1, 2, none⟩ (.int .i64 ((k : Int) + 1))).drewN d) from
        ⟨B.out.trans (btw_drewN _ _ _ d), .inl ⟨k + 1, s, rfl, M.out.drewN d, .inl ⟨hx0, ey.out, rfl⟩, fun r => mst_sym hkt hx0 ey.out.symm⟩⟩)
      have HF := Lib.hid F
      clear F M B g0 h ey
      go_enter Try.func140, Try.ntmps140
      go_wp2
      go_quiet (fail)
      go_wp2
      go_ret
      exact HF.out _
    · have hd : (y == x) = false := by simp; exact fun e => hxy e.symm
      have F := fun d => (show AnsTake w g A n c (some ⟨b, off, none⟩) m mc sg t k s x (.returned (.bool false)) ((w.setCell ⟨g + 1, 2, none⟩ (.int .i64 ((k : Int) + 1))).drewN d) from
        ⟨B.out.trans (btw_drewN _ _ _ d), .inr ⟨rfl, fun r => mst_symNo hkt hx0 (by rw [ey.out]; exact hxy)⟩⟩)
      have HF := Lib.hid F
      clear F M B g0 h ey
      go_enter Try.func140, Try.ntmps140
      go_wp2
      go_quiet (fail)
      go_wp2
      go_ret
      exact HF.out _
  · obtain ⟨v, hv⟩ : ∃ v : Nat, x = -1 - (v : Int) := ⟨(-1 - x).toNat, by omega⟩
    subst hv
    have hv24 : v < 24 := by omega
    have HVR := Lib.hid (show vr (-1 - (v : Int)) = v by unfold vr; omega)
    obtain ⟨t1, t2, t3⟩ := term_at HT.out (show k < t.length by rw [HL.out]; exact hk)
    rw [HL.out] at t3
    obtain ⟨j, hj⟩ : ∃ j, len1 sg t k = j := ⟨_, rfl⟩
    have hsl := (sub_len1 HT.out (show k < t.length by rw [HL.out]; exact hk)).1
    have hsub : subL sg t k = (t.drop k).take j := by unfold subL; rw [hj]
    rw [hj] at t1 t2 t3 hsl
    obtain ⟨ys, hys⟩ : ∃ ys, subL sg t k = ys := ⟨_, rfl⟩
    rw [hys] at hsl hsub
    have HYS := Lib.hid hys
    have HSUB := Lib.hid hsub
    have HSL := Lib.hid hsl
    have T1 := Lib.hid t1
    have C := Lib.hid h.cur
    have HH := Lib.hid h
    have HKT := Lib.hid hkt
    have a1 : (k : Int) ≤ (k : Int) + (j : Int) := by omega
    have a2 : (k : Int) + (j : Int) ≤ (mc : Int) := by omega
    have a3 : ¬ mc = k := by omega
    have a4 : k + j ≤ mc := by omega
    have w1 : IntKind.i64.wrap (-1 - (-1 - (v : Int))) = (v : Int) := by rw [IntKind.wrap_i64]; omega
    have w2 : IntKind.i64.wrap (v : Int) = (v : Int) := by rw [IntKind.wrap_i64]; omega
    have j0 : (0 : Int) ≤ (v : Int) := by omega
    have j1 : (v : Int) < 24 := by omega
    clear hj hys hsub hsl t1 hy ey f2 hkt h
    go_enter Try.func140, Try.ntmps140
    have C2 := Lib.hid (C.out.drewN 1)
    go_wp2_with fail
    go_region_held3 (fun _ => True) (trivial)
      (first
        | (go_at_call 116; refine (partC (g + 1) A n c b off m mc sg t k j w.drew C2.out T1.out t3 t2 hmc hmc2).mono ?_; rintro e w3 ⟨rfl, hg0, hc⟩))
    · have hg : w.grownBy w3 (some (g + 1)) := grown_trans (World.grownBy.refl w _) ⟨hg0.os, hg0.tape, hg0.output, hg0.size, hg0.block⟩
      have M := HH.out.move hg hc.row t3
      have b3 := Btw.of_grown (lo := g) (hi := g + 2) hg (fun k e => by injection e; omega)
      obtain ⟨D, dn, dc, ch, sh, fh⟩ := M.held hv24
      obtain ⟨os, hos⟩ : ∃ os, s.getD v [] = os := ⟨_, rfl⟩
      have hdn : dn ≤ 1048576 := by rw [← sh.1]; exact Nat.le_trans (M.hs v) hm
      rw [hos] at sh
      have HOS := Lib.hid hos
      have HSH := Lib.hid sh
      have HM := Lib.hid M
      have HB := Lib.hid b3
      have cut := Lib.hid (Seg.cut (a := k) (j := j) M.st t3)
      clear hc hg hg0 hos sh b3 M C C2 c1 c2
      have HC := Lib.hid (show Cap (some ⟨b, off + k, none⟩) j (mc - k) from ⟨by omega, by omega, fun e => by cases e⟩)
      have hj60 : j ≤ 1048576 := by omega
      have HJ := Lib.hid (show 1 ≤ j from t2)
      by_cases hd0 : dn = 0
      · subst hd0
        have hno : ¬ ((s.getD (vr (-1 - (v : Int))) []).length ≠ 0 ∧ s.getD (vr (-1 - (v : Int))) [] ≠ subL sg t k) := by
          rw [HVR.out, HOS.out, HSH.out.1]
          exact fun e => e.1 rfl
        have R := Lib.hid (fun r => mst_var (sg := sg) (r := r) HKT.out (show ¬ 0 ≤ -1 - (v : Int) by omega) hno)
        have P := Lib.hid (HM.out.put (j := v) (D := some ⟨b, off + k, none⟩) (dn := j) (dc := mc - k) (ys := ys) hv24 (by rw [HSUB.out]; exact cut.out) HC.out (by rw [HSL.out]; omega))
        have BP := Lib.hid (HB.out.trans (Btw.of_grown (lo := g) (hi := g + 2) (grown_put (World.grownBy.refl w3 (some g)) v (.slice (some ⟨b, off + k, none⟩) j (mc - k))) (fun k e => by injection e; omega)))
        have ce := World.cell?_setCell_same w3 ⟨g, v, none⟩ (.slice (some ⟨b, off + k, none⟩) j (mc - k)) (show w3.cell? ⟨g, v, none⟩ = some (.slice D 0 dc) from ch)
        have PS := Lib.hid (show Seg (w3.setCell ⟨g, v, none⟩ (.slice (some ⟨b, off + k, none⟩) j (mc - k))) (w3.setCell ⟨g, v, none⟩ (.slice (some ⟨b, off + k, none⟩) j (mc - k))).heap.size (some ⟨b, off + k, none⟩) j ys from by
          have q := cut.out.put (p := ⟨g, v, none⟩) (Nat.le_refl _) (.slice (some ⟨b, off + k, none⟩) j (mc - k))
          rw [← HSUB.out] at q
          exact q.more (by have := P.out.lt; omega))
        clear HM HB hno
        go_wp2_with fail
        refine (implSame _ _ j j _ _ ys ys _ PS.out PS.out hj60 hj60).mono ?_
        rintro e w5 ⟨rfl, d, rfl⟩
        rw [decide_eq_true (show ys = ys from rfl)]
        have F : AnsTake w g A n c (some ⟨b, off, none⟩) m mc sg t k s (-1 - (v : Int)) (.returned (.bool true)) ((w3.setCell ⟨g, v, none⟩ (.slice (some ⟨b, off + k, none⟩) j (mc - k))).drewN d) :=
          ⟨BP.out.trans (btw_drewN _ _ _ d), .inl ⟨k + j, s.set v ys, rfl, P.out.drewN d, .inr ⟨by omega, by rw [HYS.out, HSL.out]⟩, fun r => by rw [R.out r, HVR.out, HYS.out, HSL.out]⟩⟩
        have HF := Lib.hid F
        clear F R P BP ce PS cut
        go_wp2
        go_ret
        exact HF.out
      · have hdz : ((dn : Int) == 0) = false := by simp; omega
        have hwg := Lib.hid (show g ≤ w3.heap.size by have := HM.out.lt; omega)
        have PS := Lib.hid (show Seg w3 w3.heap.size (some ⟨b, off + k, none⟩) j ys from by
          have q := cut.out
          rw [← HSUB.out] at q
          exact q.more hwg.out)
        have PO := Lib.hid (show Seg w3 w3.heap.size D dn os from HSH.out.more hwg.out)
        by_cases hoy : os = ys
        · have hno : ¬ ((s.getD (vr (-1 - (v : Int))) []).length ≠ 0 ∧ s.getD (vr (-1 - (v : Int))) [] ≠ subL sg t k) := by
            rw [HVR.out, HOS.out, HYS.out]
            exact fun e => e.2 hoy
          have R := Lib.hid (fun r => mst_var (sg := sg) (r := r) HKT.out (show ¬ 0 ≤ -1 - (v : Int) by omega) hno)
          have SS := Lib.hid (show s.set v ys = s from set_same (HOS.out.trans hoy) (by rw [HM.out.len]; exact hv24))
          have DS := Lib.hid (decide_eq_true hoy)
          clear cut hno hoy
          go_wp2_with fail
          refine (implSame _ _ dn j _ _ os ys _ PO.out PS.out hdn hj60).mono ?_
          rintro e w5 ⟨rfl, d, rfl⟩
          rw [DS.out]
          have F : AnsTake w g A n c (some ⟨b, off, none⟩) m mc sg t k s (-1 - (v : Int)) (.returned (.bool true)) (w3.drewN d) :=
            ⟨HB.out.trans (btw_drewN _ _ _ d), .inl ⟨k + j, s, rfl, HM.out.drewN d, .inr ⟨by omega, by rw [HYS.out, HSL.out]⟩, fun r => by rw [R.out r, HVR.out, HYS.out, HSL.out, SS.out]⟩⟩
          have HF := Lib.hid F
          clear F R SS DS PS PO HM HB
          go_wp2
          go_ret
          exact HF.out
        · have hyes : (s.getD (vr (-1 - (v : Int))) []).length ≠ 0 ∧ s.getD (vr (-1 - (v : Int))) [] ≠ subL sg t k := by
            rw [HVR.out, HOS.out, HYS.out]
            exact ⟨by rw [HSH.out.1]; exact hd0, hoy⟩
          have R := Lib.hid (fun r => mst_varNo (sg := sg) (r := r) HKT.out (show ¬ 0 ≤ -1 - (v : Int) by omega) hyes)
          have DS := Lib.hid (decide_eq_false hoy)
          clear cut hyes hoy
          go_wp2_with fail
          refine (implSame _ _ dn j _ _ os ys _ PO.out PS.out hdn hj60).mono ?_
          rintro e w5 ⟨rfl, d, rfl⟩
          rw [DS.out]
          have F : AnsTake w g A n c (some ⟨b, off, none⟩) m mc sg t k s (-1 - (v : Int)) (.returned (.bool false)) (w3.drewN d) :=
            ⟨HB.out.trans (btw_drewN _ _ _ d), .inr ⟨rfl, R.out⟩⟩
          have HF := Lib.hid F
          clear F R DS PS PO HM HB
          go_wp2
          go_ret
          exact HF.out
end Go.Proofs.Ytkmhnkljigncmaa.take
end

section
/-
  CONTRACTS: impl's (bindings).extended, (bindings).plain. Conditions: the slices read as lists ('Seg', 'TabR'), pattern and term are valid, the place lies in the term. By an AI agent.
-/
namespace Go.Proofs.Ytkmhnkljigncmaa.extended
open Go.RowKit Go.Proofs.Ytkmhnkljigncmaa.base Go.Proofs.Ytkmhnkljigncmaa.ints Go.Proofs.Ytkmhnkljigncmaa.sig Go.Proofs.Ytkmhnkljigncmaa.same Go.Proofs.Ytkmhnkljigncmaa.term Go.Proofs.Ytkmhnkljigncmaa.termOk Go.Proofs.Ytkmhnkljigncmaa.endAt Go.Proofs.Ytkmhnkljigncmaa.marks Go.Proofs.Ytkmhnkljigncmaa.app Go.Proofs.Ytkmhnkljigncmaa.sym Go.Proofs.Ytkmhnkljigncmaa.sub Go.Proofs.Ytkmhnkljigncmaa.segs Go.Proofs.Ytkmhnkljigncmaa.termFacts Go.Proofs.Ytkmhnkljigncmaa.termMath Go.Proofs.Ytkmhnkljigncmaa.posMath Go.Proofs.Ytkmhnkljigncmaa.cursor Go.Proofs.Ytkmhnkljigncmaa.matchMath Go.Proofs.Ytkmhnkljigncmaa.matchSpec Go.Proofs.Ytkmhnkljigncmaa.whole Go.Proofs.Ytkmhnkljigncmaa.takeMath Go.Proofs.Ytkmhnkljigncmaa.take Go.Proofs.Ytkmhnkljigncmaa.segsHelp Go.Proofs.Ytkmhnkljigncmaa.kinds Go.Proofs.Ytkmhnkljigncmaa.plainMath Go.Proofs.Ytkmhnkljigncmaa.plain Go.Proofs.Ytkmhnkljigncmaa.plainOf Go.Proofs.Ytkmhnkljigncmaa.gives Go.Proofs.Ytkmhnkljigncmaa.look Go.Proofs.Ytkmhnkljigncmaa.fillMath
set_option maxRecDepth 100000

/-- what extended gives: the bindings by value, and whether there are any -/
def AnsExt (w : World) (R : Option (List (List Int))) (e : Ending) (w' : World) : Prop :=
  ∃ cs, e = .returned (.tuple #[.agg cs, .bool R.isSome]) ∧ TabR w' w.heap.size cs (R.getD s0) ∧ (∀ j, ((R.getD s0).getD j []).length ≤ 60) ∧ Below w.heap.size w w'
/-- the head of its loop -/
def HeadX (w : World) (A : Option Addr) (n c : Nat) (Q : Option Addr) (m mc : Nat) (sg t : List Int) (P : Option Addr) (pn : Nat) (p : List Int) (R : Option (List (List Int))) (i : Value) (wr : World) : Prop :=
  ∃ (j k : Nat) (s : List (List Int)), i = .int .i64 j ∧ j ≤ pn ∧ Tk wr w.heap.size A n c Q m mc sg t k s ∧ Row wr (w.heap.size + 1 + 1) 114 z24 ∧ Seg wr w.heap.size P pn p ∧ Below w.heap.size w wr ∧ Sync sg p t j k ∧ mst sg t (p.drop j) k s = R
theorem seg_btw {w w' : World} {lo hi : Nat} {A : Option Addr} {n : Nat} {xs : List Int} (h : Seg w lo A n xs) (hb : Btw lo hi w w') (hl : lo ≤ w.heap.size) : Seg w' lo A n xs :=
  h.keep fun p hp => World.cell?_of_block (hb.block p.block (by omega) (.inl hp))

set_option maxHeartbeats 1000000 in
theorem extended (A P Q : Option Addr) (n c pn pc m mc : Nat) (sg p t : List Int) (at_ : Nat) (cs : Array Value) (s : List (List Int)) (w : World) (h : Seg w w.heap.size A n sg) (hp : Seg w w.heap.size P pn p) (ht : Seg w w.heap.size Q m t)
    (hn : n ≤ 1048576) (hpn : pn ≤ 60) (hm : m ≤ 60) (hmc : m ≤ mc) (hmc2 : mc ≤ 9223372036854775807) (hat : at_ < m) (hokp : termOkB sg p = true) (hokt : termOkB sg t = true) (htab : TabR w w.heap.size cs s) (hs : ∀ j, (s.getD j []).length ≤ m) :
    Calls Try.prog 120 #[.agg cs, .slice P pn pc, .agg #[.slice A n c, .slice Q m mc, .int .i64 (at_ : Int)]] w (AnsExt w (mst sg t p at_ s)) := by
  obtain ⟨W, hW⟩ : ∃ W, W = ((w.alloc (.cells cs 114)).alloc (.cells #[.slice A n c, .slice Q m mc, .int .i64 (at_ : Int)] 83)).alloc (.cells z24 114) := ⟨_, rfl⟩
  have b0 : Below w.heap.size w W := by rw [hW]; exact (((Below.refl _ _).alloc (Nat.le_refl _) _).alloc (by simp) _).alloc (by simp; omega) _
  have r0 : Row W w.heap.size 114 cs := by rw [hW]; exact ((Row.new w _ _).alloc _).alloc _
  have r1 : Row W (w.heap.size + 1) 83 #[.slice A n c, .slice Q m mc, .int .i64 (at_ : Int)] := by
    rw [hW]
    have := (Row.new (w.alloc (.cells cs 114)) 83 #[.slice A n c, .slice Q m mc, .int .i64 (at_ : Int)]).alloc (.cells z24 114)
    simpa using this
  have r2 : Row W (w.heap.size + 1 + 1) 114 z24 := by
    rw [hW]
    have := Row.new ((w.alloc (.cells cs 114)).alloc (.cells #[.slice A n c, .slice Q m mc, .int .i64 (at_ : Int)] 83)) 114 z24
    simpa using this
  have HX : HeadX w A n c Q m mc sg t P pn p (mst sg t p at_ s) (.int .i64 0) W :=
    ⟨0, at_, s, rfl, Nat.zero_le _, ⟨r1, ⟨cs, r0, htab.below b0⟩, h.below b0, ht.below b0, Nat.le_of_lt hat, hn, by omega, (sig_arities (termOk_parts hokt).1).1, hs⟩, r2, hp.below b0, b0, Sync.start hokp hokt (by rw [ht.1]; exact hat), by rw [List.drop_zero]⟩
  have HH := Lib.hid HX
  have HW := Lib.hid hW
  have HT := Lib.hid hokt
  have HL := Lib.hid ht.1
  have HPL := Lib.hid hp.1
  have HPM : Hid (∀ i, i < pn → -24 ≤ p.getD i 0) := Lib.hid (fun i hi => (term_num hokp (by rw [hp.1]; exact hi)).1)
  generalize mst sg t p at_ s = R at *
  clear hW HX r0 r1 r2 b0 htab hs hokt hokp h hp ht
  go_enter Try.func120, Try.ntmps120
  go_wp2_with (first
    | (refine rowBox rfl 114 _ rfl cs rfl ?_)
    | (refine rowAlloc rfl 114 rfl z24 zero_b ?_))
  rw [← HW.out]
  go_loopw [12] (fun i wr => HeadX w A n c Q m mc sg t P pn p R i wr) (fun i _ => pn - (intOf i).toNat)
  case atStart => exact HH.out
  case round =>
    obtain ⟨j, k, s, rfl, hj, M, r2, sp, hb, hsy, hm1⟩ := hrel
    clear HH
    have HM1 := Lib.hid hm1
    have HSY := Lib.hid hsy
    clear hm1 hsy
    by_cases hlt : j < pn
    · obtain ⟨bp, op, x, rfl, hbp, hx, ex⟩ := sp.spot hlt
      have hx24 : -24 ≤ x := by rw [← ex.out]; exact HPM.out j hlt
      have hkm : k < m := by have := HSY.out.lt (by rw [HPL.out]; exact hlt); rw [HL.out] at this; exact this
      have HD := Lib.hid (show p.drop j = x :: p.drop (j + 1) by rw [drop_cons (by rw [HPL.out]; exact hlt), ex.out])
      have LT := Lib.hid (take w.heap.size A Q n c m mc sg t k s x wr M hkm hmc hmc2 hx24 HT.out)
      have gl := M.lt
      have HR := Lib.hid r2
      have HB := Lib.hid hb
      have HP := Lib.hid sp
      clear M r2 hb sp
      go_wp2_with fail
      refine LT.out.mono ?_
      rintro e w2 ⟨bb, ⟨k', s', rfl, M, hmv, hr⟩ | ⟨rfl, hr⟩⟩
      · have hsync : Sync sg p t (j + 1) k' := by
          rcases hmv with ⟨h0, h1, rfl⟩ | ⟨h0, rfl⟩
          · exact HSY.out.sym (by rw [HPL.out]; exact hlt) ex.out h1
          · exact HSY.out.var (by rw [HPL.out]; exact hlt) ex.out hx24 h0 HT.out
        have S : HeadX w A n c Q m mc sg t (some ⟨bp, op, none⟩) pn p R (.int .i64 ((j : Int) + 1)) w2 :=
          ⟨j + 1, k', s', by simp, hlt, M, segs.Row.btw HR.out bb (.inr (Nat.le_refl _)), seg_btw HP.out bb (by omega), Below.btw HB.out bb (Nat.le_refl _) (by omega), hsync, by rw [← hr, ← HD.out]; exact HM1.out⟩
        have HS := Lib.hid S
        clear S M hsync hmv hr bb HR HP HB LT ex HD hx
        go_wp2
        go_roundw
        case rel => exact HS.out
        case measure => simp [intOf]; omega
      · have hR : R = none := by rw [← HM1.out, HD.out]; exact hr _
        have r2 := segs.Row.btw HR.out bb (.inr (Nat.le_refl _))
        have b2 := Below.btw HB.out bb (Nat.le_refl _) (by omega)
        have hz := r2
        unfold Row at hz
        have r3 := Row.setRow r2 z24
        have F : AnsExt w R (.returned (.tuple #[.agg z24, .bool false])) (w2.setRow (w.heap.size + 1 + 1) z24) :=
          ⟨z24, by rw [hR]; rfl, by rw [hR]; exact TabR.new _ _, fun i => by rw [hR]; simp only [Option.getD_none]; rw [s0_get]; simp, Below.btw b2 (Btw.of_grown (lo := w.heap.size) (hi := w.heap.size + 1 + 1 + 1) (grown_setRow w2 (w.heap.size + 1 + 1) z24) (fun k e => by injection e; omega)) (Nat.le_refl _) b2.size⟩
        have HF := Lib.hid F
        have H3 := Lib.hid r3
        have HZ := Lib.hid hz
        clear F r3 r2 b2 hz hr bb HR HP HB LT ex HD hx hR
        go_wp2_with (first
          | (refine rowBuild rfl 114 rfl z24 built_b ?_)
          | (refine rowStore rfl 114 _ _ rfl (w.heap.size + 1 + 1) z24 z24 114 rfl rfl HZ.out (by rw [z24_size]; exact size_b) rfl z24_one ?_))
        (try simp only [Exit.inBlock, Exit.then])
        refine bodyPost_ret (v := .tuple #[.agg z24, .bool false]) ?_ rfl HF.out
        exact results_row_tmp Try.results120 _ (w.heap.size + 1 + 1) 114 z24 _ rfl H3.out Try.underlying114 rfl (by rw [z24_size]; exact size_b)
    · have hjp : j = pn := by omega
      have hR : R = some s := by rw [← HM1.out, hjp, List.drop_eq_nil_of_le (by rw [HPL.out]; exact Nat.le_refl _)]; rfl
      obtain ⟨cs', h1, h2⟩ := M.tab
      have hz1 := h1
      have hz2 := r2
      unfold Row at hz1 hz2
      have r3 := Row.setRow r2 cs'
      have hl := M.lt
      have F : AnsExt w R (.returned (.tuple #[.agg cs', .bool true])) (wr.setRow (w.heap.size + 1 + 1) cs') :=
        ⟨cs', by rw [hR]; rfl, by rw [hR]; exact h2.keep (keep_of (grown_setRow wr (w.heap.size + 1 + 1) cs') (by omega) (fun k e => by injection e; omega)), by rw [hR]; exact fun j => Nat.le_trans (M.hs j) hm,
          Below.btw hb (Btw.of_grown (lo := w.heap.size) (hi := w.heap.size + 1 + 1 + 1) (grown_setRow wr (w.heap.size + 1 + 1) cs') (fun k e => by injection e; omega)) (Nat.le_refl _) hb.size⟩
      have HF := Lib.hid F
      have H3 := Lib.hid r3
      have HZ1 := Lib.hid hz1
      have HZ2 := Lib.hid hz2
      have HSZ := Lib.hid h2.1
      have HON := Lib.hid h2.one
      clear F r3 r2 hz1 hz2 h1 h2 hR M sp hb hjp
      go_wp2_with (first
        | (refine wpList_load_row rfl 114 _ rfl w.heap.size rfl 114 cs' (0, 0) _ HZ1.out Try.underlying114 rfl (by rw [HSZ.out]; exact size_b) ?_)
        | (refine rowStore rfl 114 _ _ rfl (w.heap.size + 1 + 1) cs' z24 114 rfl rfl HZ2.out (by rw [HSZ.out]; exact size_b) (by rw [HSZ.out]; rfl) HON.out ?_))
      (try simp only [Exit.inBlock, Exit.then])
      refine bodyPost_ret (v := .tuple #[.agg cs', .bool true]) ?_ rfl HF.out
      exact results_row_tmp Try.results120 _ (w.heap.size + 1 + 1) 114 cs' _ rfl H3.out Try.underlying114 rfl (by rw [HSZ.out]; exact size_b)

set_option maxHeartbeats 1000000 in
theorem plainB (cs : Array Value) (s : List (List Int)) (w : World) (htab : TabR w w.heap.size cs s) (hs : ∀ j, (s.getD j []).length ≤ 60) :
    Calls Try.prog 121 #[.agg cs] w (AnsSubst w (plainL (givesL s) 24)) := by
  obtain ⟨W, hW⟩ : ∃ W, W = (w.alloc (.cells cs 114)).alloc (.cells #[.slice none 0 0] 31) := ⟨_, rfl⟩
  have b0 : Below w.heap.size w W := by rw [hW]; exact ((Below.refl _ _).alloc (Nat.le_refl _) _).alloc (by simp) _
  have r0 : Row W w.heap.size 114 cs := by rw [hW]; exact (Row.new w _ _).alloc _
  have r1 : Row W (w.heap.size + 1) 31 #[.slice none 0 0] := by
    rw [hW]
    have := Row.new (w.alloc (.cells cs 114)) 31 #[.slice none 0 0]
    simpa using this
  have s1 : Segs W W.heap.size (some ⟨w.heap.size, 0, none⟩) 24 s := (htab.below b0).segs r0 b0.size
  have HW := Lib.hid hW
  have HG := Lib.hid (show ∀ i, (givesL s i).length ≤ 60 from fun i => by
    unfold givesL
    split
    · simp [vt]
    · exact hs i)
  clear hW htab hs r0
  go_enter Try.func121, Try.ntmps121
  go_wp2_with (first
    | (refine rowBox rfl 114 _ rfl cs rfl ?_))
  rw [← HW.out]
  refine (lookupIn (some ⟨w.heap.size, 0, none⟩) 24 24 W).mono ?_
  rintro e w3 ⟨rfl, hw3⟩
  have b3 : Below W.heap.size W w3 := by rw [hw3]; exact (Below.refl _ _).alloc (Nat.le_refl _) _
  have r3 : Row w3 W.heap.size 31 #[.slice (some ⟨w.heap.size, 0, none⟩) 24 24] := by rw [hw3]; exact Row.new _ _ _
  replace s1 := s1.next b3
  replace b0 := next_trans b0 b3
  replace r1 := r1.next b3
  have L3 := Lib.hid (plain 112 #[.pointer (some ⟨W.heap.size, 0, none⟩)] (enters_of Try.func112 (by kernel_rfl) rfl) (givesL s) w3 (lookSubst W.heap.size (some ⟨w.heap.size, 0, none⟩) 24 24 s w3 r3 s1 (by omega)) (gives_pos s) (fun i => Nat.le_trans (HG.out i) (by omega)))
  clear hw3 b3 r3 s1
  go_wp2_with fail
  refine L3.out.mono ?_
  rintro e w4 ⟨O, on, oc, rfl, ho, b4⟩
  have z1 := r1.lt
  have z0 := b0.size
  replace r1 := r1.next b4
  replace b0 := next_trans b0 b4
  have cR : w4.cell? ⟨w.heap.size + 1, 0, none⟩ = some (.slice none 0 0) := r1.cell 0
  have fR : w4.frozen? ⟨w.heap.size + 1, 0, none⟩ = false := r1.free 0
  have F : AnsSubst w (plainL (givesL s) 24) (.returned (.agg #[.slice O on oc])) (w4.setCell ⟨w.heap.size + 1, 0, none⟩ (.slice O on oc)) :=
    ⟨O, on, oc, rfl, (owns_put ho r1 (by omega) 0 _).wider z0 (by simp), b0.setCell (p := ⟨w.heap.size + 1, 0, none⟩) (show w.heap.size ≤ w.heap.size + 1 by omega) _⟩
  have HF := Lib.hid F
  clear F ho r1 b0 b4 L3
  go_wp2
  exact bodyPost_ret (v := .agg #[.slice O on oc]) (by simp [results, Try.results121, go_sem, cR]) rfl HF.out
end Go.Proofs.Ytkmhnkljigncmaa.extended
end

section
/-
  CONTRACTS: spec.AboveOf, spec.l3Path, spec.PathOf. Conditions: the slices read as lists ('Seg'), at most 1048576 numbers; the places are int64. By an AI agent.
-/
namespace Go.Proofs.Ytkmhnkljigncmaa.pathSpec
open Go.RowKit Go.Proofs.Ytkmhnkljigncmaa.base Go.Proofs.Ytkmhnkljigncmaa.ints Go.Proofs.Ytkmhnkljigncmaa.sig Go.Proofs.Ytkmhnkljigncmaa.term Go.Proofs.Ytkmhnkljigncmaa.arity Go.Proofs.Ytkmhnkljigncmaa.endOf Go.Proofs.Ytkmhnkljigncmaa.cursor Go.Proofs.Ytkmhnkljigncmaa.termOk Go.Proofs.Ytkmhnkljigncmaa.endAt Go.Proofs.Ytkmhnkljigncmaa.inside Go.Proofs.Ytkmhnkljigncmaa.marks Go.Proofs.Ytkmhnkljigncmaa.app Go.Proofs.Ytkmhnkljigncmaa.appAt Go.Proofs.Ytkmhnkljigncmaa.sym Go.Proofs.Ytkmhnkljigncmaa.args Go.Proofs.Ytkmhnkljigncmaa.posMath
set_option maxRecDepth 100000

theorem own_lt {w : World} {base : Nat} {A : Option Addr} {n c : Nat} {xs : List Int} (h : Own w base (.slice A n c) xs) : ∀ k, blk A = some k → base ≤ k ∧ k < w.heap.size := fun k hk => World.ownsRow.lt h k (by rw [blk_own]; exact hk)
def aboveI (sg t : List Int) (x : Int) : List Int := if thereB sg t x = true then aboveL sg t x.toNat else []
theorem above_no {sg t : List Int} {x : Int} (h : thereB sg t x = false) : aboveI sg t x = [] := by unfold aboveI; rw [if_neg (by rw [h]; simp)]
theorem above_yes {sg t : List Int} {a : Nat} (h : thereB sg t (a : Int) = true) : aboveI sg t (a : Int) = upTo sg t a 0 a := by unfold aboveI aboveL; rw [if_pos h, Int.toNat_natCast]
/-- the path of a place; none where there is no such place -/
def PathIs (sg t : List Int) (x : Int) (pa : List Int) : Prop := (thereB sg t x = true ∧ ∃ ab, Trail sg t x.toNat 0 ab pa) ∨ (thereB sg t x = false ∧ pa = [])
theorem path_ex (sg t : List Int) (x : Int) : ∃ pa, PathIs sg t x pa := by
  cases h : thereB sg t x with
  | false => exact ⟨[], .inr ⟨h, rfl⟩⟩
  | true =>
    obtain ⟨hok, h0, h1⟩ := there_parts h
    obtain ⟨ab, pa, hw⟩ := way_root hok (show x.toNat < t.length by omega)
    exact ⟨pa, .inl ⟨h, ab, hw⟩⟩
theorem PathIs.one {sg t : List Int} {x : Int} {pa pa' : List Int} (h : PathIs sg t x pa) (h' : PathIs sg t x pa') : pa = pa' := by
  rcases h with ⟨e, ab, hw⟩ | ⟨e, rfl⟩ <;> rcases h' with ⟨e', ab', hw'⟩ | ⟨e', rfl⟩
  · exact (hw.one hw').2
  · rw [e] at e'; cases e'
  · rw [e] at e'; cases e'
  · rfl
theorem PathIs.len {sg t : List Int} {x : Int} {pa : List Int} (h : PathIs sg t x pa) : pa.length ≤ 60 := by
  rcases h with ⟨e, ab, hw⟩ | ⟨e, rfl⟩
  · obtain ⟨hok, h0, h1⟩ := there_parts e
    have := hw.le
    have := (termOk_parts hok).2.1
    omega
  · simp
theorem ins_nat {sg t : List Int} (hok : termOkB sg t = true) {k a : Nat} (hk : k < t.length) : insI sg t (k : Int) (a : Int) = decide (k ≤ a ∧ a < k + len1 sg t k) := by
  unfold insI
  rw [Int.toNat_natCast, end_at hok hk]
  exact decide_eq_decide.2 ⟨fun h => ⟨by omega, by omega⟩, fun h => ⟨by omega, by omega⟩⟩
theorem up_yes {sg t : List Int} (hok : termOkB sg t = true) {k a : Nat} (ha : a < t.length) (hk : k < a) (h : insI sg t (k : Int) (a : Int) = true) : upTo sg t a 0 (k + 1) = upTo sg t a 0 k ++ [(k : Int)] := by
  rw [ins_nat hok (by omega), decide_eq_true_eq] at h
  rw [upTo_snoc, Nat.zero_add, if_pos h.2]
theorem up_no {sg t : List Int} (hok : termOkB sg t = true) {k a : Nat} (ha : a < t.length) (hk : k < a) (h : insI sg t (k : Int) (a : Int) = false) : upTo sg t a 0 (k + 1) = upTo sg t a 0 k := by
  rw [ins_nat hok (by omega), decide_eq_false_iff_not] at h
  rw [upTo_snoc, Nat.zero_add, if_neg (by omega), List.append_nil]
theorem up_len {sg t : List Int} {a : Nat} : ∀ n p, (upTo sg t a p n).length ≤ n
  | 0, _ => by simp [upTo]
  | n + 1, p => by
    have := up_len (sg := sg) (t := t) (a := a) n (p + 1)
    simp only [upTo, List.length_append]
    split <;> simp <;> omega
theorem list_of {w w' : World} {xs ys : List Int} {A : Option Addr} {n c base : Nat} (e : ys = xs) (ho : Own w' base (.slice A n c) xs) (hB : w.heap.size ≤ base) (hb : Below w.heap.size w w') : AnsList w ys (.returned (.slice A n c)) w' :=
  ⟨A, n, c, rfl, by rw [e]; exact Own.lower ho hB, hb⟩
theorem there_dec {sg t : List Int} {x : Int} {m : Nat} (hm : t.length = m) (hok : termOkB sg t = true) : thereB sg t x = decide (0 ≤ x ∧ x < (m : Int)) := by
  unfold thereB inB
  rw [hok, hm]
  rfl

def HeadAb (w : World) (A : Option Addr) (n c : Nat) (sg : List Int) (A' : Option Addr) (m : Nat) (t : List Int) (a : Nat) (out p : Value) (wr : World) : Prop :=
  ∃ (k : Nat) (O : Option Addr) (on oc : Nat), p = .int .i64 k ∧ k ≤ a ∧ out = .slice O on oc ∧ Own wr (w.heap.size + 1) (.slice O on oc) (upTo sg t a 0 k) ∧ Fr w wr A n c sg A' m t

/-- an append of one number: where it lies, and that nothing else has turned -/
theorem app1At {w : World} {ops : Array Oper} {rest : List Oper} {o : Oper} {a : Act} {Q : Exit → Act → World → Prop} (hgd : o.guard = none) (s x : Operand)
    (ho : o.op = .call { callee := .builtin .append, args := #[s, x], argTypes := #[24, 24] })
    (base : Nat) (A : Option Addr) (n c : Nat) (xs : List Int) (hs : a.eval s = .slice A n c) (hown : Own w base (.slice A n c) xs)
    (g c2 : Nat) (y : Int) (hx : a.eval x = .slice (some ⟨g, 0, none⟩) 1 c2) (hy : w.cell? ⟨g, 0, none⟩ = some (.int .i64 y)) (hn : n ≤ 2097152) (hbase : base ≤ w.heap.size)
    (h : ∀ A' c' w', Own w' base (.slice A' (n + 1) c') (xs ++ [y]) → w.grownBy w' (blk A) → (blk A' = blk A ∨ blk A' = some w.heap.size) → wpList Try.prog ops Q rest (a.put o.dst (.slice A' (n + 1) c')) w') : wpList Try.prog ops Q (o :: rest) a w :=
  appAllAt hgd s x ho base A n c xs hs hown (some ⟨g, 0, none⟩) 1 c2 (g + 1) [y] hx ⟨rfl, fun _ => ⟨g, 0, rfl, Nat.lt_succ_self _, fun j hj => by
    obtain rfl : j = 0 := by omega
    exact hy⟩⟩ (Nat.le_refl _) hn (by omega) hbase h
theorem Trail.split {sg t : List Int} {a q : Nat} {ab pa : List Int} (h : Trail sg t a q ab pa) (hne : q ≠ a) : ∃ (k : Nat) (ab' pa' : List Int), ab = (q : Int) :: ab' ∧ pa = (k : Int) :: pa' ∧ q < a ∧ k < arN sg t q ∧ argP sg t k (q + 1) ≤ a ∧ a < argP sg t k (q + 1) + len1 sg t (argP sg t k (q + 1)) ∧ q < argP sg t k (q + 1) ∧ Trail sg t a (argP sg t k (q + 1)) ab' pa' := by
  cases h with
  | here => exact absurd rfl hne
  | @down _ k ab' pa' h1 h2 h3 h4 h5 h6 hw => exact ⟨k, ab', pa', rfl, rfl, h1, h2, h3, h4, h5, hw⟩
theorem argsL_get {sg t : List Int} {q k : Nat} (h : k < arN sg t q) : (argsL sg t q).getD k 0 = (argP sg t k (q + 1) : Int) := places_get h
theorem argsL_arN {sg t : List Int} {q : Nat} : (argsL sg t q).length = arN sg t q := places_len _ _
theorem own_cell {w : World} {base : Nat} {A : Option Addr} {n c : Nat} {xs : List Int} (h : Own w base (.slice A n c) xs) {k : Nat} (hk : k < n) : ∃ g off, A = some ⟨g, off, none⟩ ∧ base ≤ g ∧ w.cell? ⟨g, off + k, none⟩ = some (.int .i64 (xs.getD k 0)) := by
  obtain ⟨b, off, e, _, hc⟩ := (Own.seg h).round hk
  subst e
  exact ⟨b, off, rfl, (own_lt h b rfl).1, hc⟩
theorem cell_kept {w w' : World} {r : Option Nat} {p : Addr} {v : Value} (hg : w.grownBy w' r) (hr : ∀ k, r = some k → p.block ≠ k) (hp : p.block < w.heap.size) (h : w.cell? p = some v) : w'.cell? p = some v := by
  exact hg.cell h (fun e => hr _ e.symm rfl)

def HeadPa (w : World) (A : Option Addr) (n c : Nat) (sg : List Int) (A' : Option Addr) (m : Nat) (t : List Int) (a : Nat) (pa : List Int) (g : Nat) (out p : Value) (wr : World) : Prop :=
  ∃ (q : Nat) (O : Option Addr) (on oc : Nat) (ys ab' pa' : List Int), p = .int .i64 q ∧ q + g = a ∧ out = .slice O on oc ∧ Own wr (w.heap.size + 1) (.slice O on oc) ys ∧ Trail sg t a q ab' pa' ∧ ys ++ pa' = pa ∧ Fr w wr A n c sg A' m t
def InPa (w : World) (A : Option Addr) (n c : Nat) (sg : List Int) (A' : Option Addr) (m : Nat) (t : List Int) (k0 B : Nat) (O : Option Addr) (on oc : Nat) (ys : List Int) (A2 : Option Addr) (n2 c2 : Nat) (L : List Int) (g : Nat) (k : Value) (wr : World) : Prop :=
  ∃ j : Nat, k = .int .i64 j ∧ j + g = k0 ∧ Own wr (w.heap.size + 1) (.slice O on oc) ys ∧ (∀ b, blk O = some b → b < B) ∧ Own wr B (.slice A2 n2 c2) L ∧ Fr w wr A n c sg A' m t ∧ B ≤ wr.heap.size

end Go.Proofs.Ytkmhnkljigncmaa.pathSpec
end

section
/-
  CONTRACTS: spec.MoreGeneral, l4All, MatchedAll, EmbedsIn. Conditions: the slices read as lists ('Seg', 'Segs'), at most 1048576 numbers. By an AI agent.
-/
namespace Go.Proofs.Ytkmhnkljigncmaa.matchList
open Go.RowKit Go.Proofs.Ytkmhnkljigncmaa.base Go.Proofs.Ytkmhnkljigncmaa.ints Go.Proofs.Ytkmhnkljigncmaa.sig Go.Proofs.Ytkmhnkljigncmaa.term Go.Proofs.Ytkmhnkljigncmaa.termOk Go.Proofs.Ytkmhnkljigncmaa.endAt Go.Proofs.Ytkmhnkljigncmaa.inside Go.Proofs.Ytkmhnkljigncmaa.marks Go.Proofs.Ytkmhnkljigncmaa.app Go.Proofs.Ytkmhnkljigncmaa.sym Go.Proofs.Ytkmhnkljigncmaa.sub Go.Proofs.Ytkmhnkljigncmaa.segs Go.Proofs.Ytkmhnkljigncmaa.segsHelp Go.Proofs.Ytkmhnkljigncmaa.termFacts Go.Proofs.Ytkmhnkljigncmaa.termMath Go.Proofs.Ytkmhnkljigncmaa.posMath Go.Proofs.Ytkmhnkljigncmaa.pathSpec Go.Proofs.Ytkmhnkljigncmaa.matchMath Go.Proofs.Ytkmhnkljigncmaa.matchSpec
set_option maxRecDepth 100000

theorem keep_alloc {w : World} {a : Addr} {v : Value} {o : Obj} (h : w.cell? a = some v) : (w.alloc o).cell? a = some v := (World.cell?_alloc_some w a o (by rw [h]; rfl)).trans h
theorem keep_set {w : World} {p a : Addr} {u v : Value} (hne : p.block ≠ a.block) (h : w.cell? a = some v) : (w.setCell p u).cell? a = some v := (World.cell?_setCell_far w p a u hne).trans h

/-- the places where the pattern stands, of the first k -/
def embN (sg p t : List Int) : Nat → List Int
  | 0 => []
  | k + 1 => embN sg p t k ++ (if instB sg p (subL sg t k) = true then [(k : Int)] else [])
theorem emb_len {sg p t : List Int} : ∀ k, (embN sg p t k).length ≤ k
  | 0 => by simp [embN]
  | k + 1 => by
    have := emb_len (sg := sg) (p := p) (t := t) k
    simp only [embN, List.length_append]
    split <;> simp <;> omega
def embI (sg p t : List Int) : List Int := if (termOkB sg p && termOkB sg t) = true then embN sg p t t.length else []
theorem emb_no {sg p t : List Int} (h : termOkB sg p = false ∨ termOkB sg t = false) : embI sg p t = [] := by
  unfold embI
  rw [if_neg]
  rcases h with h | h <;> rw [h] <;> simp
theorem emb_yes {sg p t : List Int} (h1 : termOkB sg p = true) (h2 : termOkB sg t = true) : embI sg p t = embN sg p t t.length := by unfold embI; rw [if_pos (by rw [h1, h2]; rfl)]

def HeadE (w : World) (A : Option Addr) (n c : Nat) (sg : List Int) (P : Option Addr) (pn : Nat) (p : List Int) (Q : Option Addr) (m : Nat) (t : List Int) (g : Nat) (out k : Value) (wr : World) : Prop :=
  ∃ (i : Nat) (O : Option Addr) (on oc : Nat), k = .int .i64 i ∧ i + g = m ∧ out = .slice O on oc ∧ Own wr (w.heap.size + 1) (.slice O on oc) (embN sg p t i) ∧ Fr w wr A n c sg Q m t ∧ Seg wr w.heap.size P pn p

def allB (sg : List Int) (ps : List (List Int)) : Bool := sigOkB sg && (decide (ps.length ≤ 12) && ps.all (termOkB sg))
theorem all_sig {sg : List Int} {ps : List (List Int)} (h : sigOkB sg = false) : allB sg ps = false := by unfold allB; rw [h]; rfl
theorem all_long {sg : List Int} {ps : List (List Int)} (h : 12 < ps.length) : allB sg ps = false := by unfold allB; rw [decide_eq_false (by omega)]; simp
theorem all_bad {sg : List Int} {ps : List (List Int)} {i : Nat} (hi : i < ps.length) (h : termOkB sg (ps.getD i []) = false) : allB sg ps = false := by
  unfold allB
  have : ps.all (termOkB sg) = false := by
    rw [List.all_eq_false]
    refine ⟨ps.getD i [], ?_, by rw [h]; simp⟩
    simp [List.getD, hi]
  rw [this]; simp
theorem all_good {sg : List Int} {ps : List (List Int)} (h1 : sigOkB sg = true) (h2 : ps.length ≤ 12) (h : ∀ i, i < ps.length → termOkB sg (ps.getD i []) = true) : allB sg ps = true := by
  unfold allB
  rw [h1, decide_eq_true h2]
  have : ps.all (termOkB sg) = true := by
    rw [List.all_eq_true]
    intro x hx
    obtain ⟨i, hi, rfl⟩ := List.getElem_of_mem hx
    have := h i hi
    simpa [List.getD, hi] using this
  rw [this]; rfl
theorem all_parts {sg : List Int} {ps : List (List Int)} (h : allB sg ps = true) : sigOkB sg = true ∧ ps.length ≤ 12 ∧ ∀ i, i < ps.length → termOkB sg (ps.getD i []) = true := by
  unfold allB at h
  simp only [Bool.and_eq_true, decide_eq_true_eq, List.all_eq_true] at h
  refine ⟨h.1, h.2.1, fun i hi => h.2.2 _ ?_⟩
  simp [List.getD, hi]

/-- what stands in the course of a call with a boxed signature and a list of lists -/
structure Fs (w wr : World) (A : Option Addr) (n c : Nat) (sg : List Int) (P : Option Addr) (pn : Nat) (ps : List (List Int)) : Prop where
  r : Row wr w.heap.size 26 #[.slice A n c]
  s : Seg wr w.heap.size A n sg
  s' : Segs wr w.heap.size P pn ps
  b : Below w.heap.size w wr
section
variable {w wr w' : World} {A : Option Addr} {n c : Nat} {sg : List Int} {P : Option Addr} {pn : Nat} {ps : List (List Int)}
theorem Fs.start (h : Seg w w.heap.size A n sg) (h' : Segs w w.heap.size P pn ps) : Fs w (w.alloc (.cells #[.slice A n c] 26)) A n c sg P pn ps :=
  have b : Below w.heap.size w (w.alloc (.cells #[.slice A n c] 26)) := (Below.refl _ _).alloc (Nat.le_refl _) _
  ⟨Row.new _ _ _, h.below b, h'.below b, b⟩
theorem Fs.next (f : Fs w wr A n c sg P pn ps) (hb : Below wr.heap.size wr w') : Fs w w' A n c sg P pn ps :=
  have b : Below w.heap.size wr w' := hb.mono (Nat.le_of_lt f.r.lt)
  ⟨f.r.next hb, f.s.below b, f.s'.below b, f.b.trans b⟩
theorem Fs.over (f : Fs w wr A n c sg P pn ps) (hb : Below (w.heap.size + 1) wr w') : Fs w w' A n c sg P pn ps :=
  have b : Below w.heap.size wr w' := hb.mono (Nat.le_succ _)
  ⟨f.r.below hb (Nat.lt_succ_self _), f.s.below b, f.s'.below b, f.b.trans b⟩
theorem Fs.alloc (f : Fs w wr A n c sg P pn ps) (o : Obj) : Fs w (wr.alloc o) A n c sg P pn ps := f.next ((Below.refl _ _).alloc (Nat.le_refl _) _)
theorem Fs.drew (f : Fs w wr A n c sg P pn ps) : Fs w wr.drew A n c sg P pn ps := f.over (Below.refl _ _).drew
theorem Fs.cell (f : Fs w wr A n c sg P pn ps) : wr.cell? ⟨w.heap.size, 0, none⟩ = some (.slice A n c) := f.r.cell 0
theorem Fs.s1 (f : Fs w wr A n c sg P pn ps) : Seg wr wr.heap.size A n sg := f.s.more (Nat.le_of_lt f.r.lt)
theorem Fs.size (f : Fs w wr A n c sg P pn ps) : w.heap.size < wr.heap.size := f.r.lt
end

set_option maxHeartbeats 1000000 in
theorem l4All (A P : Option Addr) (n c pn pc : Nat) (sg : List Int) (ps : List (List Int)) (w : World) (h : Seg w w.heap.size A n sg) (hp : Segs w w.heap.size P pn ps) (hn : n ≤ 1048576) (ht : tot ps ≤ 1048576) :
    Calls Try.prog 85 #[.agg #[.slice A n c], .slice P pn pc] w (Tells w (allB sg ps)) := by
  obtain ⟨W, hW⟩ : ∃ W, W = w.alloc (.cells #[.slice A n c] 26) := ⟨_, rfl⟩
  have f : Fs w W A n c sg P pn ps := by rw [hW]; exact Fs.start h hp
  have HW := Lib.hid hW
  have HL := Lib.hid hp.1
  have HE := Lib.hid (tot_each ht)
  have hpn : pn ≤ 1048576 := tot_len hp.1 ht
  have L := Lib.hid (specSigOk A n c sg W f.s1 hn)
  clear hW h hp ht
  cases hsig : sigOkB sg with
  | false =>
    have HS := Lib.hid hsig
    have HF := Lib.hid (all_sig (ps := ps) hsig)
    clear hsig
    go_enter Try.func85, Try.ntmps85
    go_wp2_with fail
    rw [← HW.out]
    refine L.out.mono ?_
    rintro e w1 ⟨he, bb⟩
    rw [HS.out] at he
    subst he
    have F := Lib.hid (show Tells w (allB sg ps) (.returned (.bool false)) w1 from ⟨by rw [HF.out], (f.next bb).b⟩)
    clear f L bb
    go_wp2
    go_ret
    exact F.out
  | true =>
    have HS := Lib.hid hsig
    clear hsig
    by_cases hlong : 12 < pn
    · have HF := Lib.hid (all_long (sg := sg) (ps := ps) (by rw [HL.out]; exact hlong))
      have h12 : (12 : Int) < (pn : Int) := by omega
      go_enter Try.func85, Try.ntmps85
      go_wp2_with fail
      rw [← HW.out]
      refine L.out.mono ?_
      rintro e w1 ⟨he, bb⟩
      rw [HS.out] at he
      subst he
      have F := Lib.hid (show Tells w (allB sg ps) (.returned (.bool false)) w1 from ⟨by rw [HF.out], (f.next bb).b⟩)
      clear f L bb
      go_wp2
      go_ret
      exact F.out
    · have h12 : ¬ (12 : Int) < (pn : Int) := by omega
      go_enter Try.func85, Try.ntmps85
      go_wp2_with fail
      rw [← HW.out]
      refine L.out.mono ?_
      rintro e w1 ⟨he, bb⟩
      rw [HS.out] at he
      subst he
      have HM0 := Lib.hid (f.next bb)
      clear f L bb
      go_wp2_with fail
      go_loopg [5] pn (fun g i wr => ∃ k : Nat, i = .int .i64 k ∧ k + g = pn ∧ (∀ j, j < k → termOkB sg (ps.getD j []) = true) ∧ Fs w wr A n c sg P pn ps)
      case atStart => exact ⟨0, rfl, by omega, fun j hj => absurd hj (Nat.not_lt_zero _), HM0.out⟩
      case round =>
        obtain ⟨k, rfl, hk, hall, f⟩ := hrel
        clear HM0
        have HK := Lib.hid hk
        have HA := Lib.hid hall
        clear hk hall
        by_cases hkp : k < pn
        · obtain ⟨b, off, D, dn, dc, rfl, hbb, hc, hsg, hcap⟩ := f.s'.spot hkp
          have hdn : dn ≤ 1048576 := by have := HE.out k; rw [hsg.1] at this; exact this
          have hgk := Lib.hid (show gk - 1 < gk ∧ k + 1 + (gk - 1) = pn by have := HK.out; omega)
          obtain ⟨bk, hbk⟩ : ∃ b, termOkB sg (ps.getD k []) = b := ⟨_, rfl⟩
          have HB := Lib.hid hbk
          have sd : Seg wr.drew wr.drew.heap.size D dn (ps.getD k []) := (hsg.more (Nat.le_of_lt f.size)).drew
          obtain ⟨ys, hys⟩ : ∃ ys, ps.getD k [] = ys := ⟨_, rfl⟩
          rw [hys] at sd HB
          have HYS := Lib.hid hys
          have z0 := f.size
          replace f := f.drew
          have cA := f.cell
          have cy : wr.drew.cell? ⟨b, off + k, none⟩ = some (.slice D dn dc) := hc
          clear hsg hcap hc hbk hys
          go_wp2_with fail
          go_region_held3 (fun w' => w'.cell? ⟨w.heap.size, 0, none⟩ = some (.slice A n c) ∧ w'.cell? ⟨b, off + k, none⟩ = some (.slice D dn dc))
            (first | exact ⟨by assumption, by assumption⟩ | go_keep)
            (first
              | (go_at_call 62; refine (specTermOk A D n c dn dc sg ys _ f.s1 sd hn hdn).mono ?_; rintro e w2 ⟨he, bb⟩; rw [HB.out] at he; subst he; have f2 := f.next bb; have cA2 := f2.cell; have cy2 : w2.cell? ⟨b, off + k, none⟩ = some (.slice D dn dc) := (bb.cell (p := ⟨b, off + k, none⟩) (Nat.lt_trans hbb z0)).trans cy))
          clear cA cA2 cy cy2 f sd bb
          cases bk with
          | false =>
            have F := Lib.hid (show Tells w (allB sg ps) (.returned (.bool false)) w2 from ⟨by rw [all_bad (i := k) (by rw [HL.out]; exact hkp) (by rw [HYS.out]; exact HB.out)], f2.b⟩)
            clear f2
            go_wp2
            go_ret
            exact F.out
          | true =>
            have HM := Lib.hid f2
            clear f2
            go_wp2
            go_roundg (gk - 1)
            case measure => exact hgk.out.1
            case rel => exact ⟨k + 1, by simp, hgk.out.2, fun j hj => by
              by_cases e : j = k
              · subst e; rw [HYS.out]; exact HB.out
              · exact HA.out j (by omega), HM.out⟩
        · have F := Lib.hid (show Tells w (allB sg ps) (.returned (.bool true)) wr from ⟨by rw [all_good HS.out (by rw [HL.out]; omega) (fun i hi => HA.out i (by rw [HL.out] at hi; omega))], f.b⟩)
          clear f
          go_wp2
          go_ret
          exact F.out
/-- the indexes of the patterns of which t is an instance, of the first k -/
def maN (sg : List Int) (ps : List (List Int)) (t : List Int) : Nat → List Int
  | 0 => []
  | k + 1 => maN sg ps t k ++ (if instB sg (ps.getD k []) t = true then [(k : Int)] else [])
theorem ma_len {sg : List Int} {ps : List (List Int)} {t : List Int} : ∀ k, (maN sg ps t k).length ≤ k
  | 0 => by simp [maN]
  | k + 1 => by
    have := ma_len (sg := sg) (ps := ps) (t := t) k
    simp only [maN, List.length_append]
    split <;> simp <;> omega
def maI (sg : List Int) (ps : List (List Int)) (t : List Int) : List Int := if (allB sg ps && termOkB sg t) = true then maN sg ps t ps.length else []
theorem ma_no {sg : List Int} {ps : List (List Int)} {t : List Int} (h : allB sg ps = false ∨ termOkB sg t = false) : maI sg ps t = [] := by
  unfold maI
  rw [if_neg]
  rcases h with h | h <;> rw [h] <;> simp
theorem ma_yes {sg : List Int} {ps : List (List Int)} {t : List Int} (h1 : allB sg ps = true) (h2 : termOkB sg t = true) : maI sg ps t = maN sg ps t ps.length := by unfold maI; rw [if_pos (by rw [h1, h2]; rfl)]

def HeadMa (w : World) (A : Option Addr) (n c : Nat) (sg : List Int) (P : Option Addr) (pn : Nat) (ps : List (List Int)) (Q : Option Addr) (m : Nat) (t : List Int) (g : Nat) (out k : Value) (wr : World) : Prop :=
  ∃ (i : Nat) (O : Option Addr) (on oc : Nat), k = .int .i64 i ∧ i + g = pn ∧ out = .slice O on oc ∧ Own wr (w.heap.size + 1) (.slice O on oc) (maN sg ps t i) ∧ Fs w wr A n c sg P pn ps ∧ Seg wr w.heap.size Q m t

end Go.Proofs.Ytkmhnkljigncmaa.matchList
end

section
/-
  CONTRACTS: spec.l1Has, l2Order, l2By, l2Renamed, Renamed; slices.Index. Conditions: the slices read as lists ('Seg'), at most 1048576 numbers. By an AI agent.
-/
namespace Go.Proofs.Ytkmhnkljigncmaa.rename
open Go.RowKit Go.Proofs.Ytkmhnkljigncmaa.base Go.Proofs.Ytkmhnkljigncmaa.ints Go.Proofs.Ytkmhnkljigncmaa.sig Go.Proofs.Ytkmhnkljigncmaa.term Go.Proofs.Ytkmhnkljigncmaa.termOk Go.Proofs.Ytkmhnkljigncmaa.marks Go.Proofs.Ytkmhnkljigncmaa.app Go.Proofs.Ytkmhnkljigncmaa.sym Go.Proofs.Ytkmhnkljigncmaa.segs Go.Proofs.Ytkmhnkljigncmaa.termFacts Go.Proofs.Ytkmhnkljigncmaa.varsMath Go.Proofs.Ytkmhnkljigncmaa.varsOf Go.Proofs.Ytkmhnkljigncmaa.renMath
set_option maxRecDepth 100000

theorem mem_of_get {t : List Int} {k : Nat} {x : Int} (hk : k < t.length) (hx : t.getD k 0 = x) : x ∈ t := by
  rw [← hx]
  simp [List.getD, hk]
theorem not_mem_of {t : List Int} {x : Int} (h : ∀ j, j < t.length → t.getD j 0 ≠ x) : x ∉ t := fun hx => by
  obtain ⟨j, hj, e⟩ := List.getElem_of_mem hx
  exact h j hj (by simp [List.getD, hj, e])

/-- the first k are other numbers -/
def HeadNo (n : Nat) (xs : List Int) (x : Int) (i : Value) : Prop := ∃ k : Nat, k ≤ n ∧ i = .int .i64 k ∧ ∀ j, j < k → xs.getD j 0 ≠ x
theorem headNo_step {n k : Nat} {xs : List Int} {x y : Int} (hk : k < n) (h : ∀ j, j < k → xs.getD j 0 ≠ x) (hy : Hid (xs.getD k 0 = y)) (hne : ¬ y = x) : HeadNo n xs x (.int .i64 ((k : Int) + 1)) :=
  ⟨k + 1, hk, by simp, fun j hj => by
    by_cases e : j = k
    · subst e; rw [hy.out]; exact hne
    · exact h j (by omega)⟩

set_option maxHeartbeats 1000000 in
theorem l1Has (A : Option Addr) (n c : Nat) (xs : List Int) (x : Int) (w : World) (h : Seg w w.heap.size A n xs) (hn : n ≤ 1048576) :
    Calls Try.prog 104 #[.slice A n c, .int .i64 x] w fun e w' => w = w' ∧ e = .returned (.bool (decide (x ∈ xs))) := by
  have HX := Lib.hid h.1
  go_enter Try.func104, Try.ntmps104
  go_wp2
  go_loop [5] (fun i => HeadNo n xs x i) (fun i => n - (intOf i).toNat)
  case atStart => exact ⟨0, Nat.zero_le _, rfl, fun j hj => absurd hj (Nat.not_lt_zero _)⟩
  case round =>
    obtain ⟨k, hk, rfl, hlow⟩ := hrel
    by_cases hlt : k < n
    · obtain ⟨b, off, y, rfl, -, hy, ey⟩ := h.spot hlt
      by_cases he : y = x
      · subst he
        have F := Lib.hid (show y ∈ xs from mem_of_get (by rw [HX.out]; exact hlt) ey.out)
        have e1 : (y == y) = true := by simp
        clear h ey hlow
        go_wp2
        go_ret
        exact ⟨rfl, by rw [decide_eq_true F.out]; rfl⟩
      · have S := Lib.hid (headNo_step hlt hlow ey he)
        have e1 : (y == x) = false := by simp [he]
        clear h ey hlow
        go_wp2
        go_round
        case rel => exact S.out
        case measure => simp [intOf]; omega
    · have F := Lib.hid (not_mem_of (t := xs) (x := x) (fun j hj => hlow j (by rw [HX.out] at hj; omega)))
      clear h hlow
      go_wp2
      go_ret
      exact ⟨rfl, by rw [decide_eq_false F.out]; rfl⟩

/-- what slices.Index answers -/
def indexI (xs : List Int) (x : Int) : Int := if x ∈ xs then (idx xs x : Int) else -1
set_option maxHeartbeats 1000000 in
theorem indexOf (A : Option Addr) (n c : Nat) (xs : List Int) (x : Int) (w : World) (h : Seg w w.heap.size A n xs) (hn : n ≤ 1048576) :
    Calls Try.prog 123 #[.slice A n c, .int .i64 x] w fun e w' => w = w' ∧ e = .returned (.int .i64 (indexI xs x)) := by
  have HX := Lib.hid h.1
  go_enter Try.func123, Try.ntmps123
  go_wp2
  go_loop [8] (fun i => HeadNo n xs x i) (fun i => n - (intOf i).toNat)
  case atStart => exact ⟨0, Nat.zero_le _, rfl, fun j hj => absurd hj (Nat.not_lt_zero _)⟩
  case round =>
    obtain ⟨k, hk, rfl, hlow⟩ := hrel
    by_cases hlt : k < n
    · obtain ⟨b, off, y, rfl, -, hy, ey⟩ := h.spot hlt
      by_cases he : y = x
      · subst he
        have F := Lib.hid (show indexI xs y = (k : Int) by
          have hkl : k < xs.length := by rw [HX.out]; exact hlt
          unfold indexI
          rw [if_pos (mem_of_get hkl ey.out), idx_first hkl hlow ey.out])
        have e1 : (y == y) = true := by simp
        clear h ey hlow
        go_wp2
        go_ret
        exact ⟨rfl, by rw [F.out]; rfl⟩
      · have S := Lib.hid (headNo_step hlt hlow ey he)
        have e1 : (x == y) = false := by simp; exact fun e => he e.symm
        clear h ey hlow
        go_wp2
        go_round
        case rel => exact S.out
        case measure => simp [intOf]; omega
    · have F := Lib.hid (show indexI xs x = -1 by unfold indexI; rw [if_neg (not_mem_of (fun j hj => hlow j (by rw [HX.out] at hj; omega)))])
      clear h hlow
      go_wp2
      go_ret
      exact ⟨rfl, by rw [F.out]; rfl⟩

/-- the head of l2Order's loop -/
def HeadOrd (w : World) (m : Nat) (t : List Int) (out i : Value) (wr : World) : Prop :=
  ∃ (k : Nat) (O : Option Addr) (on oc : Nat), k ≤ m ∧ i = .int .i64 k ∧ out = .slice O on oc ∧ Own wr w.heap.size (.slice O on oc) (orderL (t.take k)) ∧ Below w.heap.size w wr

set_option maxHeartbeats 2000000 in
theorem l2Order (A : Option Addr) (m c : Nat) (t : List Int) (w : World) (h : Seg w w.heap.size A m t) (hm : m ≤ 1048576) :
    Calls Try.prog 125 #[.slice A m c] w (AnsList w (orderL t)) := by
  have HL := Lib.hid h.1
  have S0 : HeadOrd w m t (.slice (some ⟨w.heap.size, 0, none⟩) 0 0) (.int .i64 0) (w.alloc (.cells #[] 2)) :=
    ⟨0, _, _, _, Nat.zero_le _, rfl, rfl, by simpa [orderL] using own_empty w w.heap.size (Nat.le_refl _), (Below.refl _ _).alloc (Nat.le_refl _) _⟩
  have HS0 := Lib.hid S0
  clear S0
  go_enter Try.func125, Try.ntmps125
  go_wp2_with fail
  go_loopw [3, 4] (fun out i wr => HeadOrd w m t out i wr) (fun _ i _ => m - (intOf i).toNat)
  case atStart => exact HS0.out
  case round =>
    obtain ⟨k, O, on, oc, hk, rfl, rfl, ho, hb⟩ := hrel
    clear HS0
    have hon : on ≤ m := by have h1 := Own.len ho; have h2 := order_len (t.take k); simp at h2; have h3 := HL.out; omega
    by_cases hlt : k < m
    · obtain ⟨b, off, x, rfl, hbb, hx, ex⟩ := h.spot hlt
      have hx1 : wr.cell? ⟨b, off + k, none⟩ = some (.int .i64 x) := (hb.cell (p := ⟨b, off + k, none⟩) hbb).trans hx
      have E := Lib.hid (order_take (t := t) (k := k) (by rw [HL.out]; exact hlt) ex.out)
      have hsz := hb.size
      clear hx h ex
      by_cases hneg : x < 0
      · have L := Lib.hid (l1Has O on oc _ x wr (Own.seg ho) (by omega))
        by_cases hin : x ∈ orderL (t.take k)
        · have R := Lib.hid (show extV (orderL (t.take k)) x = orderL (t.take k) by unfold extV ext; rw [if_pos hneg, if_pos hin])
          rw [decide_eq_true hin] at L
          have S : HeadOrd w m t (.slice O on oc) (.int .i64 ((k : Int) + 1)) wr := ⟨k + 1, O, on, oc, hlt, by simp, rfl, by rw [E.out, R.out]; exact ho, hb⟩
          replace S := Lib.hid S
          clear ho hb hin R E
          go_wp2_with fail
          refine L.out.mono ?_
          rintro e w' ⟨rfl, rfl⟩
          clear L
          go_wp2
          go_roundw
          case rel => exact S.out
          case measure => simp [intOf]; omega
        · have R := Lib.hid (show extV (orderL (t.take k)) x = orderL (t.take k) ++ [x] by unfold extV ext; rw [if_pos hneg, if_neg hin])
          rw [decide_eq_false hin] at L
          clear hin
          go_wp2_with fail
          refine L.out.mono ?_
          rintro e w' ⟨rfl, rfl⟩
          clear L
          go_wp2_with (at_builtin; refine app1 rfl _ _ rfl w.heap.size O on oc (orderL (t.take k)) rfl (Own.alloc ho _) wr.heap.size 1 x rfl ((Row.new _ _ _).cell 0) (by omega) (by simp; omega) ?_; intro O' oc' w2 ho2 b2)
          have S : HeadOrd w m t (.slice O' (on + 1) oc') (.int .i64 ((k : Int) + 1)) w2 := ⟨k + 1, O', on + 1, oc', hlt, by simp, rfl, by rw [E.out, R.out]; exact ho2, (hb.alloc hsz _).trans b2⟩
          replace S := Lib.hid S
          clear ho2 b2 ho hb R E
          go_wp2
          go_roundw
          case rel => exact S.out
          case measure => simp [intOf]; omega
      · have R := Lib.hid (show extV (orderL (t.take k)) x = orderL (t.take k) by unfold extV; rw [if_neg hneg])
        have S : HeadOrd w m t (.slice O on oc) (.int .i64 ((k : Int) + 1)) wr := ⟨k + 1, O, on, oc, hlt, by simp, rfl, by rw [E.out, R.out]; exact ho, hb⟩
        replace S := Lib.hid S
        have d1 : decide (x < 0) = false := by simp; omega
        clear ho hb R E
        go_wp2
        go_roundw
        case rel => exact S.out
        case measure => simp [intOf]; omega
    · have F : AnsList w (orderL t) (.returned (.slice O on oc)) wr := by
        rw [List.take_of_length_le (by rw [HL.out]; omega)] at ho
        exact ⟨O, on, oc, rfl, ho, hb⟩
      have HF := Lib.hid F
      clear F ho hb h
      go_wp2
      go_ret
      exact HF.out

/-- a number, when the first q places of the order have been looked at -/
def upTo (o : List Int) (x : Int) (q : Nat) : Int := if idx o x < q then -1 - (idx o x : Int) else x
/-- the head of the inner loop -/
def HeadIn (wr : World) (pn : Nat) (o : List Int) (x : Int) (n k : Value) (wi : World) : Prop := ∃ q d : Nat, q ≤ pn ∧ k = .int .i64 q ∧ n = .int .i64 (upTo o x q) ∧ wi = wr.drewN d
theorem upTo_yes {o : List Int} (hd : o.Nodup) {x : Int} {q : Nat} (hq : q < o.length) (h : o.getD q 0 = x) : upTo o x (q + 1) = -1 - (q : Int) := by
  unfold upTo
  rw [idx_nodup hd hq h, if_pos (by omega)]
theorem upTo_no {o : List Int} {x y : Int} {q : Nat} (hq : q < o.length) (h : o.getD q 0 = y) (hne : ¬ y = x) : upTo o x (q + 1) = upTo o x q := by
  unfold upTo
  have h1 : idx o x ≠ q := fun e => by
    by_cases hx : x ∈ o
    · have := idx_get hx
      rw [e, h] at this
      exact hne this
    · have := idx_not hx
      omega
  by_cases h2 : idx o x < q
  · rw [if_pos h2, if_pos (by omega)]
  · rw [if_neg h2, if_neg (by omega)]
/-- the head of the outer loop -/
def HeadBy (w : World) (m : Nat) (t o : List Int) (out i : Value) (wr : World) : Prop :=
  ∃ (k : Nat) (O : Option Addr) (on oc : Nat), k ≤ m ∧ i = .int .i64 k ∧ out = .slice O on oc ∧ Own wr w.heap.size (.slice O on oc) ((t.take k).map (ren o)) ∧ Below w.heap.size w wr

set_option maxHeartbeats 4000000 in
theorem l2By (P A : Option Addr) (pn pc m c : Nat) (o t : List Int) (w : World) (hp : Seg w w.heap.size P pn o) (h : Seg w w.heap.size A m t) (hpn : pn ≤ 1048576) (hm : m ≤ 1048576) (hd : o.Nodup) (ho : ∀ x ∈ t, x < 0 → x ∈ o) :
    Calls Try.prog 124 #[.slice P pn pc, .slice A m c] w (AnsList w (t.map (ren o))) := by
  have HL := Lib.hid h.1
  have HP := Lib.hid hp.1
  have HO := Lib.hid ho
  have HD := Lib.hid hd
  have S0 : HeadBy w m t o (.slice (some ⟨w.heap.size, 0, none⟩) 0 0) (.int .i64 0) (w.alloc (.cells #[] 2)) :=
    ⟨0, _, _, _, Nat.zero_le _, rfl, rfl, by simpa using own_empty w w.heap.size (Nat.le_refl _), (Below.refl _ _).alloc (Nat.le_refl _) _⟩
  have HS0 := Lib.hid S0
  clear S0 ho hd
  go_enter Try.func124, Try.ntmps124
  go_wp2_with fail
  go_loopw [5, 6] (fun out i wr => HeadBy w m t o out i wr) (fun _ i _ => m - (intOf i).toNat)
  case atStart => exact HS0.out
  case round =>
    obtain ⟨k, O, on, oc, hk, rfl, rfl, hown, hb⟩ := hrel
    clear HS0
    have hon : on ≤ m := by have h1 := Own.len hown; simp at h1; omega
    obtain ⟨wo, rfl⟩ : ∃ wo : World, wo = wr := ⟨_, rfl⟩
    by_cases hlt : k < m
    · obtain ⟨b, off, x, rfl, hbb, hx, ex⟩ := h.spot hlt
      have hx1 : wo.cell? ⟨b, off + k, none⟩ = some (.int .i64 x) := (hb.cell (p := ⟨b, off + k, none⟩) hbb).trans hx
      have hmem := mem_of_get (by rw [HL.out]; exact hlt) ex.out
      have E := Lib.hid (show (t.take (k + 1)).map (ren o) = (t.take k).map (ren o) ++ [ren o x] by rw [take_snoc (by rw [HL.out]; exact hlt) ex.out, List.map_append]; rfl)
      have hsz := hb.size
      have hpo := hp.below hb
      clear hx h ex
      by_cases hneg : x < 0
      · have hin := HO.out x hmem hneg
        have I0 : HeadIn wo pn o x (.int .i64 x) (.int .i64 0) wo := ⟨0, 0, Nat.zero_le _, rfl, by simp [upTo], rfl⟩
        have HI0 := Lib.hid I0
        have R := Lib.hid (show upTo o x pn = ren o x by unfold upTo ren; rw [if_pos hneg, if_pos (by rw [← HP.out]; exact idx_lt hin)])
        have REST := Lib.hid (fun (d : Nat) (O' : Option Addr) (oc' : Nat) (w2 : World) (ho2 : Own w2 w.heap.size (.slice O' (on + 1) oc') ((t.take k).map (ren o) ++ [ren o x])) (b2 : Below w.heap.size ((wo.drewN d).alloc (.cells #[.int .i64 (ren o x)] 2)) w2) =>
          (show HeadBy w m t o (.slice O' (on + 1) oc') (.int .i64 ((k : Int) + 1)) w2 from ⟨k + 1, O', on + 1, oc', hlt, by simp, rfl, by rw [E.out]; exact ho2, ((below_drewN hb d).alloc hsz _).trans b2⟩))
        clear I0 hin hmem hb
        go_wp2_with fail
        go_loopw [7, 8] (fun n q wi => HeadIn wo pn o x n q wi) (fun _ q _ => pn - (intOf q).toNat)
        case atStart => exact HI0.out
        case round =>
          obtain ⟨q, d, hq, rfl, rfl, hw⟩ := hrel
          clear HI0
          have hxr : wr.cell? ⟨b, off + k, none⟩ = some (.int .i64 x) := by rw [hw]; exact hx1
          have hpr : Seg wr w.heap.size P pn o := by rw [hw]; exact hpo
          have HW := Lib.hid hw
          clear hw
          by_cases hq2 : q < pn
          · obtain ⟨b2, off2, y, rfl, -, hy, ey⟩ := hpr.spot hq2
            by_cases he : y = x
            · have U := Lib.hid (upTo_yes HD.out (by rw [HP.out]; exact hq2) (ey.out.trans he))
              have S : ∀ nq : Nat, HeadIn wo pn o x (.int .i64 (-1 - (q : Int))) (.int .i64 ((q : Int) + 1)) (wr.drewN nq) := fun nq => ⟨q + 1, d + nq, hq2, by simp, by rw [U.out], by rw [HW.out, World.drewN_drewN]⟩
              replace S := Lib.hid S
              have e1 : (y == x) = true := by simp [he]
              clear hpr ey U hpo hp hx1 hown
              generalize upTo o x q = z at *
              go_wp2_with fail
              go_quiet (fail)
              go_wp2
              go_roundw
              case rel => exact S.out _
              case measure => simp [intOf]; omega
            · have U := Lib.hid (upTo_no (x := x) (by rw [HP.out]; exact hq2) ey.out he)
              have S : ∀ nq : Nat, HeadIn wo pn o x (.int .i64 (upTo o x q)) (.int .i64 ((q : Int) + 1)) (wr.drewN nq) := fun nq => ⟨q + 1, d + nq, hq2, by simp, by rw [U.out], by rw [HW.out, World.drewN_drewN]⟩
              replace S := Lib.hid S
              have e1 : (y == x) = false := by simp [he]
              clear hpr ey U hpo hp hx1 hown
              generalize upTo o x q = z at *
              go_wp2_with fail
              go_quiet (fail)
              go_wp2
              go_roundw
              case rel => exact S.out _
              case measure => simp [intOf]; omega
          · have hqp : q = pn := by omega
            subst hqp
            have hown2 : Own wr w.heap.size (.slice O on oc) ((t.take k).map (ren o)) := by rw [HW.out]; exact hown
            have hszr : w.heap.size ≤ wr.heap.size := by rw [HW.out]; exact hsz
            rw [R.out]
            clear hpr hpo hp hx1 hown
            generalize hz : ren o x = z at *
            go_wp2_with (at_builtin; refine app1 rfl _ _ rfl w.heap.size O on oc ((t.take k).map (ren o)) rfl (Own.alloc hown2 _) wr.heap.size 1 z rfl ((Row.new _ _ _).cell 0) (by omega) (by simp; omega) ?_; intro O' oc' w2 ho2 b2)
            have S := Lib.hid (REST.out d O' oc' w2 ho2 (by rw [← HW.out]; exact b2))
            clear ho2 b2 hown2 REST
            go_wp2
            go_roundw
            case rel => exact S.out
            case measure => simp [intOf]; omega
      · have RH := Lib.hid (show ren o x = x by unfold ren; rw [if_neg hneg])
        have d1 : decide (x < 0) = false := by simp; omega
        have REST := Lib.hid (fun (O' : Option Addr) (oc' : Nat) (w2 : World) (ho2 : Own w2 w.heap.size (.slice O' (on + 1) oc') ((t.take k).map (ren o) ++ [x])) (b2 : Below w.heap.size (wo.alloc (.cells #[.int .i64 x] 2)) w2) =>
          (show HeadBy w m t o (.slice O' (on + 1) oc') (.int .i64 ((k : Int) + 1)) w2 from ⟨k + 1, O', on + 1, oc', hlt, by simp, rfl, by rw [E.out, RH.out]; exact ho2, (hb.alloc hsz _).trans b2⟩))
        clear hmem hpo hb
        by_cases hp0 : 0 < pn
        all_goals
          go_wp2_with fail
          go_loopw [7, 8] (fun n q wi => n = .int .i64 x ∧ q = .int .i64 0 ∧ wi = wo) (fun _ _ _ => 0)
          case atStart => exact ⟨rfl, rfl, rfl⟩
          case round =>
            obtain ⟨rfl, rfl, hw⟩ := hrel
            subst hw
            go_wp2_with (at_builtin; refine app1 rfl _ _ rfl w.heap.size O on oc ((t.take k).map (ren o)) rfl (Own.alloc hown _) wr.heap.size 1 x rfl ((Row.new _ _ _).cell 0) (by omega) (by simp; omega) ?_; intro O' oc' w2 ho2 b2)
            have S := Lib.hid (REST.out O' oc' w2 ho2 b2)
            clear ho2 b2 hown REST
            go_wp2
            go_roundw
            case rel => exact S.out
            case measure => simp [intOf]; omega
    · have F : AnsList w (t.map (ren o)) (.returned (.slice O on oc)) wo := by
        rw [List.take_of_length_le (by rw [HL.out]; omega)] at hown
        exact ⟨O, on, oc, rfl, hown, hb⟩
      have HF := Lib.hid F
      clear F hown hb h hp
      go_wp2
      go_ret
      exact HF.out

set_option maxHeartbeats 1000000 in
theorem l2Renamed (A : Option Addr) (m c : Nat) (t : List Int) (w : World) (h : Seg w w.heap.size A m t) (hm : m ≤ 1048576) :
    Calls Try.prog 86 #[.slice A m c] w (AnsList w (renL t)) := by
  have L := Lib.hid (l2Order A m c t w h hm)
  have HL := Lib.hid h.1
  go_enter Try.func86, Try.ntmps86
  go_wp2_with fail
  refine L.out.mono ?_
  rintro e w1 ⟨P, pn, pc, rfl, o1, bb⟩
  have hpn : pn ≤ 1048576 := by rw [Own.len o1]; have := order_len t; have := HL.out; omega
  have L2 := Lib.hid (l2By P A pn pc m c (orderL t) t w1 (Own.seg o1) (h.next bb) hpn hm (order_nodup t) (fun x hx h0 => order_mem.2 ⟨hx, h0⟩))
  clear L o1 h
  go_wp2_with fail
  refine L2.out.mono ?_
  rintro e w2 ⟨Q, qn, qc, rfl, o2, b2⟩
  have F : AnsList w (renL t) (.returned (.slice Q qn qc)) w2 := ⟨Q, qn, qc, rfl, Own.lower o2 bb.size, next_trans bb b2⟩
  have HF := Lib.hid F
  clear F o2 b2 bb L2
  go_wp2
  go_ret
  exact HF.out

end Go.Proofs.Ytkmhnkljigncmaa.rename
end
