/-
  MERGED: my texts GenSpec, GenRec, AnyOf, UnifDom, Then, HeldT, UnifRep, GenSt, CompMath, Max, CompSpec, one behind the other, as they are. By an AI agent.
-/
import Derived.Test.YtkmhnkljigncmaaMFnGeneralised5
import Derived.Deep.QuietTactic
import Derived.BigQuiet
import Derived.Shelf.Abstract
import Derived.Deep.DeepCutAuto
import Derived.Laws.NewBlocks
import Derived.Laws.EntriesVeiled
import Derived.OrdersHeld
import Derived.Deep.RegionHeld
import Derived.Deep.AppendLies
import Derived.Deep.RegionHeld3
section
/-
  CONTRACT: spec.l5General, where the two places do not hold one symbol: the pair is looked for in the tables, or put there. Conditions: the slices read as lists, the places begin subterms, the lists of the tables are at most 1048576 numbers long. (Written by tools/mkgen.py.) By an AI agent.
-/
namespace Go.Proofs.Ytkmhnkljigncmaa.genSpec
open Go.RowKit Go.Proofs.Ytkmhnkljigncmaa.base Go.Proofs.Ytkmhnkljigncmaa.ints Go.Proofs.Ytkmhnkljigncmaa.sig Go.Proofs.Ytkmhnkljigncmaa.cursor Go.Proofs.Ytkmhnkljigncmaa.marks Go.Proofs.Ytkmhnkljigncmaa.app Go.Proofs.Ytkmhnkljigncmaa.appAt Go.Proofs.Ytkmhnkljigncmaa.sym Go.Proofs.Ytkmhnkljigncmaa.segs Go.Proofs.Ytkmhnkljigncmaa.segsHelp Go.Proofs.Ytkmhnkljigncmaa.term Go.Proofs.Ytkmhnkljigncmaa.sub Go.Proofs.Ytkmhnkljigncmaa.look Go.Proofs.Ytkmhnkljigncmaa.plain Go.Proofs.Ytkmhnkljigncmaa.same Go.Proofs.Ytkmhnkljigncmaa.posMath Go.Proofs.Ytkmhnkljigncmaa.unifMath Go.Proofs.Ytkmhnkljigncmaa.genMath Go.Proofs.Ytkmhnkljigncmaa.genPos Go.Proofs.Ytkmhnkljigncmaa.genTab Go.Proofs.Ytkmhnkljigncmaa.appZ
set_option maxRecDepth 100000

theorem drewN_below (w : World) (d : Nat) : Below w.heap.size w (w.drewN d) := ⟨rfl, rfl, rfl, Nat.le_refl _, fun _ _ => rfl⟩
/-- what stands in the course of the call -/
structure Gw (w wr : World) (lo : Nat) (A : Option Addr) (n c : Nat) (sg : List Int) (P : Option Addr) (m : Nat) (a : List Int) (Q : Option Addr) (k : Nat) (b : List Int) (L : Option Addr) (ln lc : Nat) (R : Option Addr) (rc : Nat) (T : Tb) : Prop where
  r0 : Row wr w.heap.size 26 #[.slice A n c]
  s : Seg wr lo A n sg
  pa : Seg wr lo P m a
  qb : Seg wr lo Q k b
  t : Tabs wr lo L ln lc R rc T
  le : lo ≤ w.heap.size
  bel : Below w.heap.size w wr
section
variable {w wr w' : World} {lo : Nat} {A : Option Addr} {n c : Nat} {sg : List Int} {P : Option Addr} {m : Nat} {a : List Int} {Q : Option Addr} {k : Nat} {b : List Int} {L : Option Addr} {ln lc : Nat} {R : Option Addr} {rc : Nat} {T : Tb}
theorem Gw.next (h : Gw w wr lo A n c sg P m a Q k b L ln lc R rc T) (hb : Below wr.heap.size wr w') : Gw w w' lo A n c sg P m a Q k b L ln lc R rc T :=
  have hw : Below w.heap.size wr w' := hb.mono h.bel.size
  have hl : Below lo wr w' := hw.mono h.le
  ⟨h.r0.next hb, h.s.below hl, h.pa.below hl, h.qb.below hl, h.t.next hb, h.le, h.bel.trans hw⟩
theorem Gw.c0 (h : Gw w wr lo A n c sg P m a Q k b L ln lc R rc T) : wr.cell? ⟨w.heap.size, 0, none⟩ = some (.slice A n c) := h.r0.cell 0
theorem Gw.low (h : Gw w wr lo A n c sg P m a Q k b L ln lc R rc T) : lo ≤ wr.heap.size := Nat.le_trans h.le h.bel.size
theorem Gw.start (h : Seg w lo A n sg) (hp : Seg w lo P m a) (hq : Seg w lo Q k b) (ht : Tabs w lo L ln lc R rc T) (hl : lo ≤ w.heap.size) : Gw w (w.alloc (.cells #[.slice A n c] 26)) lo A n c sg P m a Q k b L ln lc R rc T := by
  have b0 : Below w.heap.size w (w.alloc (.cells #[.slice A n c] 26)) := (Below.refl _ _).alloc (Nat.le_refl _) _
  exact ⟨Row.new _ _ _, h.below (b0.mono hl), hp.below (b0.mono hl), hq.below (b0.mono hl), ht.next b0, hl, b0⟩
end
/-- a new list of one number -/
theorem one_own (w : World) (base : Nat) (x : Int) (hb : base ≤ w.heap.size) : Own (w.alloc (.cells #[.int .i64 x] 2)) base (.slice (some ⟨w.heap.size, 0, none⟩) 1 1) [x] :=
  Own.of_row (Row.new _ _ _) rfl rfl (Nat.le_refl _) (by omega) hb (fun j hj => by
    obtain rfl : j = 0 := by omega
    rfl)
theorem cell2 (w : World) (o : Obj) (v : Value) (t : TypeId) : ((w.alloc o).alloc (.cells #[v] t)).cell? ⟨w.heap.size + 1, 0, none⟩ = some v := by simp
theorem tb_at {T : Tb} {i : Nat} {u v : List Int} (hi : i < T.length) (h1 : (T.map Prod.fst).getD i [] = u) (h2 : (T.map Prod.snd).getD i [] = v) : T[i]? = some (u, v) := by
  simp [List.getD, hi] at h1 h2
  rw [List.getElem?_eq_getElem hi, ← h1, ← h2]
theorem tb_not {T : Tb} {i : Nat} {u v : List Int} (hi : i < T.length) (h : ¬ ((T.map Prod.fst).getD i [] = u ∧ (T.map Prod.snd).getD i [] = v)) : T[i]? ≠ some (u, v) := by
  intro e
  refine h ?_
  rw [List.getElem?_eq_getElem hi] at e
  injection e with e
  simp [List.getD, hi, e]
theorem tb_mem {T : Tb} {u v : List Int} (h : ∀ j, j < T.length → T[j]? ≠ some (u, v)) : (u, v) ∉ T := by
  intro hm
  obtain ⟨j, hj, e⟩ := List.getElem_of_mem hm
  exact h j hj (by rw [List.getElem?_eq_getElem hj, e])
theorem tb_len {T : Tb} {B i : Nat} (h : ∀ x ∈ T, x.1.length ≤ B ∧ x.2.length ≤ B) : ((T.map Prod.fst).getD i []).length ≤ B ∧ ((T.map Prod.snd).getD i []).length ≤ B := by
  by_cases hi : i < T.length
  · have := h T[i] (List.getElem_mem hi)
    simpa [List.getD, hi] using this
  · simp [List.getD, hi]

section
variable {w wr w' w6 w7 : World} {lo : Nat} {A : Option Addr} {n c : Nat} {sg : List Int} {P : Option Addr} {m : Nat} {a : List Int} {Q : Option Addr} {k : Nat} {b : List Int} {L : Option Addr} {ln lc : Nat} {R : Option Addr} {rc : Nat} {T : Tb} {u v : List Int}
theorem two_alloc (wr : World) (o1 o2 : Obj) : Below wr.heap.size wr ((wr.alloc o1).alloc o2) := ((Below.refl _ _).alloc (Nat.le_refl _) _).alloc (by simp) _
theorem st1 (G : Gw w wr lo A n c sg P m a Q k b L ln lc R rc T) (T0 : Tabs w lo L ln lc R rc T) (o1 o2 : Obj) : Owns ((wr.alloc o1).alloc o2) lo w.heap.size L ln lc (T.map Prod.fst) ∧ Owns ((wr.alloc o1).alloc o2) lo w.heap.size R ln rc (T.map Prod.snd) :=
  have bb := next_trans G.bel (two_alloc wr o1 o2)
  ⟨T0.l.next bb, T0.r.next bb⟩
theorem st2 {B xn xc : Nat} {X : Option Addr} (ox : Own wr B (.slice X xn xc) u) (hB : w.heap.size ≤ B) (o1 o2 : Obj) : Inn ((wr.alloc o1).alloc o2) w.heap.size ((wr.alloc o1).alloc o2).heap.size (.slice X xn xc) u :=
  ((inn_own ox).next (two_alloc wr o1 o2)).wider hB (two_alloc wr o1 o2).size
theorem st3 {wB : World} (hL : Owns wB lo w.heap.size L ln lc (T.map Prod.fst)) (hR : Owns wB lo w.heap.size R ln rc (T.map Prod.snd)) (T0 : Tabs w lo L ln lc R rc T) (hg : wB.grownBy w6 (blk L)) (o : Obj) : Owns (w6.alloc o) lo w.heap.size R ln rc (T.map Prod.snd) :=
  (keepTab hR (fun k hk => (topRow hL k hk).1) T0.ne hg).next ((Below.refl _ _).alloc (Nat.le_refl _) _)
theorem st4 {wB : World} {Y : Option Addr} {yn yc : Nat} (hL : Owns wB lo w.heap.size L ln lc (T.map Prod.fst)) (hy : Inn wB w.heap.size wB.heap.size (.slice Y yn yc) v) (hg : wB.grownBy w6 (blk L)) (o : Obj) : Inn (w6.alloc o) w.heap.size (w6.alloc o).heap.size (.slice Y yn yc) v := by
  have h1 : Inn w6 w.heap.size wB.heap.size (.slice Y yn yc) v := by
    refine hy.kept hg ?_
    cases e : blk L with
    | none => cases e' : (Value.slice Y yn yc).ownBlock with
      | none => exact .inl rfl
      | some k => exact .inr (fun h => by cases h)
    | some k =>
      obtain ⟨cs, hc⟩ := (topRow hL k e).1
      exact .inr (hy.ne hc)
  have b0 : Below w6.heap.size w6 (w6.alloc o) := (Below.refl _ _).alloc (Nat.le_refl _) _
  exact (h1.next b0).wider (Nat.le_refl _) (Nat.le_trans hg.size b0.size)
theorem avPush {Z : Nat → Prop} {w0 wB : World} {L L' : Option Addr} {nn hi : Nat} {x : Value} {xs : List Int} (hZ : ∀ z, Z z → z < w0.heap.size) (bel : Below w0.heap.size w0 wB) (topL : ∀ k, blk L = some k → k < w0.heap.size) (h : Avoid Z w0 L nn) (hv : Inn wB w0.heap.size hi x xs)
    (hcell : ∀ j b' u, j < nn + 1 → L' = some ⟨b', 0, none⟩ → w6.cell? ⟨b', j, none⟩ = some u → (∃ b, j < nn ∧ L = some ⟨b, 0, none⟩ ∧ wB.cell? ⟨b, j, none⟩ = some u) ∨ (j = nn ∧ u = x)) : Avoid Z w6 L' (nn + 1) := by
  intro j b' u hj e hc z hz
  rcases hcell j b' u hj e hc with ⟨b, hj', e2, hc2⟩ | ⟨_, rfl⟩
  · refine h j b u hj' e2 ?_ z hz
    rw [← hc2]
    exact (bel.cell (p := ⟨b, j, none⟩) (topL b (by rw [e2]; rfl))).symm
  · intro e3
    have := (hv.blk z e3).1
    have := hZ z hz
    omega
/-- nothing turned in the tables -/
theorem avSame {Z : Nat → Prop} {nn : Nat} {L : Option Addr} (bel : Below w.heap.size w w') (topL : ∀ k, blk L = some k → k < w.heap.size) (h : Avoid Z w L nn) : Avoid Z w' L nn :=
  h.keep fun b j e => bel.cell (p := ⟨b, j, none⟩) (topL b (by rw [e]; rfl))
/-- the end: both tables one pair longer -/
theorem st5 {L' R' : Option Addr} {lc' rc' : Nat} (x : Int) (o2 o3 : Obj) (G : Gw w wr lo A n c sg P m a Q k b L ln lc R rc T) (T0 : Tabs w lo L ln lc R rc T) (hgs : Gs sg T 1 u v [x] (T ++ [(u, v)]))
    (hg6 : ((wr.alloc (.cells #[.int .i64 x] 2)).alloc o2).grownBy w6 (blk L)) (ho6 : Owns w6 lo w6.heap.size L' (ln + 1) lc' (T.map Prod.fst ++ [u])) (hat6 : blk L' = blk L ∨ blk L' = some ((wr.alloc (.cells #[.int .i64 x] 2)).alloc o2).heap.size)
    (hg7 : (w6.alloc o3).grownBy w7 (blk R)) (ho7 : Owns w7 lo w7.heap.size R' (ln + 1) rc' (T.map Prod.snd ++ [v])) (hat7 : blk R' = blk R ∨ blk R' = some (w6.alloc o3).heap.size) {vX vY : Value}
    (hX : Inn ((wr.alloc (.cells #[.int .i64 x] 2)).alloc o2) w.heap.size ((wr.alloc (.cells #[.int .i64 x] 2)).alloc o2).heap.size vX u) (hY : Inn (w6.alloc o3) w.heap.size (w6.alloc o3).heap.size vY v)
    (hc6 : ∀ j b' z, j < ln + 1 → L' = some ⟨b', 0, none⟩ → w6.cell? ⟨b', j, none⟩ = some z → (∃ b, j < ln ∧ L = some ⟨b, 0, none⟩ ∧ ((wr.alloc (.cells #[.int .i64 x] 2)).alloc o2).cell? ⟨b, j, none⟩ = some z) ∨ (j = ln ∧ z = vX))
    (hc7 : ∀ j b' z, j < ln + 1 → R' = some ⟨b', 0, none⟩ → w7.cell? ⟨b', j, none⟩ = some z → (∃ b, j < ln ∧ R = some ⟨b, 0, none⟩ ∧ (w6.alloc o3).cell? ⟨b, j, none⟩ = some z) ∨ (j = ln ∧ z = vY)) :
    AnsGen sg w lo L R ln T u v (.returned (.tuple #[.slice (some ⟨wr.heap.size, 0, none⟩) 1 1, .slice L' (ln + 1) lc', .slice R' (ln + 1) rc'])) w7 := by
  have hz := G.bel.size
  have tL : ∀ k, blk L = some k → k < w.heap.size := T0.l.top
  have tR : ∀ k, blk R = some k → k < w.heap.size := T0.r.top
  obtain ⟨k1, k2⟩ := st1 G T0 (.cells #[.int .i64 x] 2) o2
  have k3 := st3 k1 k2 T0 hg6 o3
  have z1 : ((wr.alloc (.cells #[.int .i64 x] 2)).alloc o2).heap.size = wr.heap.size + 1 + 1 := by simp
  have z6 := hg6.size
  have b6 : Below w6.heap.size w6 (w6.alloc o3) := (Below.refl _ _).alloc (Nat.le_refl _) _
  have z7 := hg7.size
  have zb := b6.size
  have hne : ∀ k, blk R = some k → blk L' ≠ some k := fun k hk e => by
    rcases hat6 with h | h
    · rw [h] at e; exact T0.ne k e hk
    · rw [h] at e
      injection e with e
      have := tR k hk
      omega
  have o6 := (ho6.next b6).wider (Nat.le_refl lo) zb
  have o7 : Owns w7 lo w7.heap.size L' (ln + 1) lc' (T.map Prod.fst ++ [u]) := (keepTab o6 (fun k hk => (topRow k3 k hk).1) hne hg7).wider (Nat.le_refl lo) z7
  have hout : Own w7 w.heap.size (.slice (some ⟨wr.heap.size, 0, none⟩) 1 1) [x] := by
    have e0 := one_own wr w.heap.size x hz
    have e1 : Own ((wr.alloc (.cells #[.int .i64 x] 2)).alloc o2) w.heap.size (.slice (some ⟨wr.heap.size, 0, none⟩) 1 1) [x] := Own.next e0 ((Below.refl _ _).alloc (Nat.le_refl _) _)
    have e2 := Own.far e1 hg6 tL
    exact Own.far (Own.next e2 b6) hg7 tR
  have two0 : Two w ((wr.alloc (.cells #[.int .i64 x] 2)).alloc o2) L R := Two.of_below (next_trans G.bel (two_alloc _ _ _))
  have two1 : Two w w6 L R := two0.trans (Two.left (R := R) hg6) (fun k h _ => h) (fun k h _ => h)
  have two2 : Two w (w6.alloc o3) L R := two1.trans (L1 := L) (R1 := R) (Two.of_below b6) (fun k h _ => h) (fun k h _ => h)
  have two3 : Two w w7 L R := two2.trans (L1 := L) (R1 := R) (Two.right hg7) (fun k h _ => h) (fun k h _ => h)
  refine ⟨[x], T ++ [(u, v)], _, L', R', 1, 1, ln + 1, lc', rc', rfl, hout, hgs, ⟨by simpa using o7, by simpa using ho7, fun k hk => ?_⟩, two3, fun k hk hlt => ?_, fun k hk hlt => ?_, fun Z hZ a1 a2 => ⟨?_, ?_⟩⟩
  · rcases hat7 with e | e
    · rw [e]; exact fun h => hne k h hk
    · rw [e]
      intro h
      injection h with h
      have := ho6.top k hk
      omega
  · rcases hat6 with e | e
    · rw [← e]; exact hk
    · rw [e] at hk; injection hk with hk; omega
  · rcases hat7 with e | e
    · rw [← e]; exact hk
    · rw [e] at hk; injection hk with hk; omega
  · refine (avPush hZ (next_trans G.bel (two_alloc _ _ _)) tL a1 hX hc6).keep fun b j e => ?_
    have hb := ho6.top b (by rw [e]; rfl)
    have h1 : (w6.alloc o3).cell? ⟨b, j, none⟩ = w6.cell? ⟨b, j, none⟩ := b6.cell (p := ⟨b, j, none⟩) hb
    rw [← h1]
    exact World.cell?_of_block (hg7.block b (by omega) (fun e2 => hne b e2.symm (by rw [e]; rfl)))
  · have bR : Avoid Z (w6.alloc o3) R ln := by
      refine a2.keep fun b j e => ?_
      have hb := tR b (by rw [e]; rfl)
      have h0 : ((wr.alloc (.cells #[.int .i64 x] 2)).alloc o2).cell? ⟨b, j, none⟩ = w.cell? ⟨b, j, none⟩ := (next_trans G.bel (two_alloc _ _ _)).cell (p := ⟨b, j, none⟩) hb
      have h1 : (w6.alloc o3).cell? ⟨b, j, none⟩ = w6.cell? ⟨b, j, none⟩ := b6.cell (p := ⟨b, j, none⟩) (show b < w6.heap.size by omega)
      rw [h1, ← h0]
      exact World.cell?_of_block (hg6.block b (by omega) (fun e2 => T0.ne b e2.symm (by rw [e]; rfl)))
    intro j b' z hj e hc y hy
    rcases hc7 j b' z hj e hc with ⟨b, hj', e2, hc2⟩ | ⟨_, rfl⟩
    · exact bR j b z hj' e2 hc2 y hy
    · intro e3
      have := (hY.blk y e3).1
      have := hZ y hy
      omega
end

set_option maxHeartbeats 4000000 in
theorem apart (A P Q L R : Option Addr) (n c m mc k kc ln lc rc lo p q j j' : Nat) (sg a b : List Int) (T : Tb) (w : World) (h : Seg w lo A n sg) (hp : Seg w lo P m a) (hq : Seg w lo Q k b) (ht : Tabs w lo L ln lc R rc T) (hlo : lo ≤ w.heap.size) (hn : n ≤ 1048576) (hm : m ≤ 1048576) (hk : k ≤ 1048576) (hcm : m ≤ mc ∧ mc ≤ 9223372036854775807) (hck : k ≤ kc ∧ kc ≤ 9223372036854775807) (hln : ln ≤ 1048576)
    (hs : Arities sg) (hj : scan sg 1 (a.drop p) = some j) (hj' : scan sg 1 (b.drop q) = some j') (hT : ∀ x ∈ T, x.1.length ≤ 1048576 ∧ x.2.length ≤ 1048576) (hnot : ¬ (0 ≤ a.getD p 0 ∧ a.getD p 0 = b.getD q 0)) :
    Calls Try.prog 118 #[.agg #[.slice A n c], .slice P m mc, .int .i64 (p : Int), .slice Q k kc, .int .i64 (q : Int), .slice L ln lc, .slice R ln rc] w (AnsGen sg w lo L R ln T (subL sg a p) (subL sg b q)) := by
  have la := hp.1
  have lb := hq.1
  obtain ⟨_, rfl, hpm, _, _⟩ := scan_args hj
  obtain ⟨_, rfl, hqk, _, _⟩ := scan_args hj'
  have s2 := scan_le hj
  have s3 := scan_le hj'
  rw [List.length_drop] at s2 s3
  rw [la] at hpm s2
  rw [lb] at hqk s3
  have GS := Lib.hid (fun i (e : T[i]? = some (subL sg a p, subL sg b q)) => gp_old hj hj' hnot e)
  have GN := Lib.hid (fun (e : (subL sg a p, subL sg b q) ∉ T) => gp_new hj hj' hnot e)
  have lu : (subL sg a p).length ≤ 1048576 := by unfold subL; rw [List.length_take, List.length_drop]; omega
  have lv : (subL sg b q).length ≤ 1048576 := by unfold subL; rw [List.length_take, List.length_drop]; omega
  obtain ⟨W, hW⟩ : ∃ W, W = w.alloc (.cells #[.slice A n c] 26) := ⟨_, rfl⟩
  have G0 : Gw w W lo A n c sg P m a Q k b L ln lc R rc T := by rw [hW]; exact Gw.start h hp hq ht hlo
  have T0 := Lib.hid ht
  have LP := Lib.hid (fun w' (G : Gw w w' lo A n c sg P m a Q k b L ln lc R rc T) => l1Sub A P n c m mc sg a p _ w' (G.s.more G.low) (G.pa.more G.low) hn hm hcm.1 hcm.2 hs hpm hj (by omega) (by omega))
  have LQ := Lib.hid (fun w' (G : Gw w w' lo A n c sg P m a Q k b L ln lc R rc T) => l1Sub A Q n c k kc sg b q _ w' (G.s.more G.low) (G.qb.more G.low) hn hk hck.1 hck.2 hs hqk hj' (by omega) (by omega))
  obtain ⟨b1, o1, x, rfl, hb1, hx, ex⟩ := G0.pa.spot hpm
  obtain ⟨b2, o2, y, rfl, hb2, hy, ey⟩ := G0.qb.spot hqk
  rw [ex.out, ey.out] at hnot
  have i0 : (0 : Int) ≤ (p : Int) := by omega
  have i1 : (p : Int) < (m : Int) := by omega
  have j0 : (0 : Int) ≤ (q : Int) := by omega
  have j1 : (q : Int) < (k : Int) := by omega
  have HW := Lib.hid hW
  have HT := Lib.hid hT
  have HLT := Lib.hid ht.len
  generalize hu : subL sg a p = u at *
  generalize hv : subL sg b q = v at *
  clear hW h hp hq ht ex ey hT hj hj' s2 s3 hu hv la lb hs
  by_cases h0 : 0 ≤ x
  · have hxy : (x == y) = false := by simp; exact fun e => hnot ⟨h0, e⟩
    clear hnot
    go_enter Try.func118, Try.ntmps118
    go_wp2_with fail
    rw [← HW.out]
    go_quiet (fail)
    have G1 := G0.next (drewN_below W nq)
    have G1w := G1.bel.size
    clear G0 hx hy HW
    generalize W.drewN nq = w1 at *
    have G1z := Lib.hid G1w
    clear G1w
    have c0 := G1.c0
    go_wp2_with fail
    refine (LP.out w1 G1).mono ?_
    rintro e w2 ⟨X, xn, xc, rfl, ox, bb⟩
    have G2 := G1.next bb
    clear c0 G1
    have c0 := G2.c0
    go_wp2_with fail
    refine (LQ.out w2 G2).mono ?_
    rintro e w3 ⟨Y, yn, yc, rfl, oy, bb3⟩
    have G3 := G2.next bb3
    have ox3 := Own.next ox bb3
    have hxl := Lib.hid (Own.len ox)
    have hyl := Lib.hid (Own.len oy)
    have z12 := Lib.hid bb.size
    have z23 := Lib.hid bb3.size
    clear c0 G2 bb bb3 ox LP LQ
    go_wp2_with fail
    go_loopw [26] (fun i wr => ∃ i' d : Nat, i' ≤ ln ∧ i = .int .i64 i' ∧ wr = w3.drewN d ∧ ∀ j, j < i' → T[j]? ≠ some (u, v)) (fun i _ => ln - (intOf i).toNat)
    case atStart => exact ⟨0, 0, Nat.zero_le _, rfl, rfl, fun j hj => absurd hj (Nat.not_lt_zero _)⟩
    case round =>
      obtain ⟨i, d, hi, rfl, hwr, hno⟩ := hrel
      have HNO := Lib.hid hno
      clear hno
      have bd : Below w3.heap.size w3 wr := by rw [hwr]; exact drewN_below w3 d
      have G4 := G3.next bd
      have ox4 := Own.next ox3 bd
      have oy4 := Own.next oy bd
      have HWR := Lib.hid hwr
      have z34 := Lib.hid bd.size
      clear G3 ox3 oy hwr bd
      by_cases hlt : i < ln
      · have i3 : (0 : Int) ≤ (i : Int) := by omega
        have i4 : (i : Int) < (ln : Int) := by omega
        obtain ⟨b3, o3, A1, n1, c1, hLe, hb3, hc3, hs3, hcap3⟩ := G4.t.l.segs.spot hlt
        obtain ⟨b4, o4, A2, n2, c2, hRe, hb4, hc4, hs4, hcap4⟩ := G4.t.r.segs.spot hlt
        subst hLe hRe
        have L1 := Lib.hid (specSame A1 X n1 xn c1 xc _ u wr hs3 (Own.seg ox4) (by rw [← hs3.1]; exact (tb_len HT.out).1) (by rw [hxl.out]; exact lu))
        have L2 := Lib.hid (fun d5 => specSame A2 Y n2 yn c2 yc _ v (wr.drewN d5) (hs4.drewN d5) (Own.seg (Own.drewN oy4 d5)) (by rw [← hs4.1]; exact (tb_len HT.out).2) (by rw [hyl.out]; exact lv))
        have G5 := Lib.hid (fun d => G4.next (drewN_below wr d))
        have SR := Lib.hid (fun d' (hnx : T[i]? ≠ some (u, v)) => (show ∃ i' d : Nat, i' ≤ ln ∧ (.int .i64 ((i : Int) + 1) : Value) = .int .i64 i' ∧ wr.drewN d' = w3.drewN d ∧ ∀ j, j < i' → T[j]? ≠ some (u, v) from ⟨i + 1, d + d', hlt, by simp, by rw [HWR.out, World.drewN_drewN], fun j hj => by
          by_cases e : j = i
          · rw [e]; exact hnx
          · exact HNO.out j (by omega)⟩))
        have hiT : i < T.length := by rw [HLT.out]; exact hlt
        clear hs3 hs4 ox4 oy4 hcap3 hcap4 G4
        go_wp2_with fail
        refine L1.out.mono ?_
        rintro e w5 ⟨he, d5, rfl⟩
        clear L1
        by_cases e1 : (T.map Prod.fst).getD i [] = u
        · rw [decide_eq_true e1] at he
          subst he
          have hc5 : (wr.drewN d5).cell? ⟨b4, o4 + i, none⟩ = some (.slice A2 n2 c2) := hc4
          have L2 := Lib.hid (L2.out d5)
          clear hc3 hc4
          go_wp2_with fail
          refine L2.out.mono ?_
          rintro e w6 ⟨he, d6, rfl⟩
          clear L2
          rw [World.drewN_drewN]
          by_cases e2 : (T.map Prod.snd).getD i [] = v
          · rw [decide_eq_true e2] at he
            subst he
            have G6 := G5.out (d5 + d6)
            have F := Lib.hid (show AnsGen sg w lo (some ⟨b3, o3, none⟩) (some ⟨b4, o4, none⟩) ln T u v (.returned (.tuple #[.slice (some ⟨(wr.drewN (d5 + d6)).heap.size, 0, none⟩) 1 1, .slice (some ⟨b3, o3, none⟩) ln lc, .slice (some ⟨b4, o4, none⟩) ln rc])) ((wr.drewN (d5 + d6)).alloc (.cells #[.int .i64 (-1 - (i : Int))] 2)) from
              ⟨[-1 - (i : Int)], T, _, _, _, 1, 1, ln, lc, rc, rfl, one_own _ _ _ G6.bel.size, GS.out i (tb_at hiT e1 e2), G6.t.next ((Below.refl _ _).alloc (Nat.le_refl _) _), Two.of_below (next_trans G6.bel ((Below.refl _ _).alloc (Nat.le_refl _) _)), fun k h _ => h, fun k h _ => h, fun Z hZ a1 a2 => ⟨avSame (next_trans G6.bel ((Below.refl _ _).alloc (Nat.le_refl _) _)) T0.out.l.top a1, avSame (next_trans G6.bel ((Below.refl _ _).alloc (Nat.le_refl _) _)) T0.out.r.top a2⟩⟩)
            clear G6 G5 SR hc5
            generalize wr.drewN (d5 + d6) = w7 at *
            go_wp2
            go_ret3
            exact F.out
          · rw [decide_eq_false e2] at he
            subst he
            have S := Lib.hid (SR.out (d5 + d6) (tb_not hiT (fun h => e2 h.2)))
            clear SR G5 hc5
            generalize wr.drewN (d5 + d6) = w7 at *
            go_wp2
            go_roundw
            case rel => exact S.out
            case measure => simp [intOf]; omega
        · rw [decide_eq_false e1] at he
          subst he
          have S := Lib.hid (SR.out d5 (tb_not hiT (fun h => e1 h.1)))
          clear SR G5 L2 hc3 hc4
          generalize wr.drewN d5 = w7 at *
          go_wp2
          go_roundw
          case rel => exact S.out
          case measure => simp [intOf]; omega
      · obtain rfl : i = ln := by omega
        have hgs := GN.out (tb_mem (by rw [HLT.out]; exact HNO.out))
        rw [HLT.out] at hgs
        have z0 := G1z.out
        have K := Lib.hid (st1 G4 T0.out)
        have KX := Lib.hid (st2 (w := w) ox4 (by omega))
        have KY := Lib.hid (st2 (w := w) oy4 (by have := z12.out; omega))
        have K3 := Lib.hid (fun (o1 o2 o3 : Obj) w6 (hg : World.grownBy ((wr.alloc o1).alloc o2) w6 (blk L)) => st3 (K.out o1 o2).1 (K.out o1 o2).2 T0.out hg o3)
        have K4 := Lib.hid (fun (o1 o2 o3 : Obj) w6 (hg : World.grownBy ((wr.alloc o1).alloc o2) w6 (blk L)) => st4 (K.out o1 o2).1 (KY.out o1 o2) hg o3)
        have hzr := G4.bel.size
        have F := Lib.hid (fun (o2 o3 : Obj) (L' R' : Option Addr) (lc' rc' : Nat) (w6 w7 : World) (hg6 : World.grownBy ((wr.alloc (.cells #[.int .i64 (-1 - (i : Int))] 2)).alloc o2) w6 (blk L)) ho6 hat6 hg7 ho7 hat7 hX hY hc6 hc7 => st5 (w6 := w6) (w7 := w7) (L' := L') (R' := R') (lc' := lc') (rc' := rc') (-1 - (i : Int)) o2 o3 G4 T0.out hgs hg6 ho6 hat6 hg7 ho7 hat7 (vX := .slice X xn xc) (vY := .slice Y yn yc) hX hY hc6 hc7)
        clear hgs G4 ox4 oy4 GS GN HNO
        go_wp2_with (at_builtin; go_must (refine appS1Z rfl _ _ rfl lo w.heap.size L i lc (T.map Prod.fst) rfl (K.out _ _).1 _ 1 (.slice X xn xc) u rfl (cell2 _ _ _ _) (KX.out _ _) (by omega) (by omega) (by simp; omega) ?_; intro L' lc' w6 ho6 hg6 hat6 b6 hc6; refine (?_ : Hid _).out))
        refine Lib.hid ?_
        go_wp2_with (at_builtin; go_must (refine appS1Z rfl _ _ rfl lo w.heap.size R i rc (T.map Prod.snd) rfl (K3.out _ _ _ _ hg6) _ 1 (.slice Y yn yc) v rfl ((Row.new _ _ _).cell 0) (K4.out _ _ _ _ hg6) (by omega) (by omega) (by have := hg6.size; simp at this ⊢; omega) ?_; intro R' rc' w7 ho7 hg7 hat7 b7 hc7))
        go_wp2
        go_ret3
        exact F.out _ _ _ _ _ _ _ _ hg6 ho6 hat6 hg7 ho7 hat7 (KX.out _ _) (K4.out _ _ _ _ hg6) hc6 hc7
  · have hxd : decide (0 ≤ x) = false := decide_eq_false h0
    go_enter Try.func118, Try.ntmps118
    go_wp2_with fail
    rw [← HW.out]
    go_quiet (fail)
    have G1 := G0.next (drewN_below W nq)
    have G1w := G1.bel.size
    clear G0 hx hy HW
    generalize W.drewN nq = w1 at *
    have G1z := Lib.hid G1w
    clear G1w
    have c0 := G1.c0
    go_wp2_with fail
    refine (LP.out w1 G1).mono ?_
    rintro e w2 ⟨X, xn, xc, rfl, ox, bb⟩
    have G2 := G1.next bb
    clear c0 G1
    have c0 := G2.c0
    go_wp2_with fail
    refine (LQ.out w2 G2).mono ?_
    rintro e w3 ⟨Y, yn, yc, rfl, oy, bb3⟩
    have G3 := G2.next bb3
    have ox3 := Own.next ox bb3
    have hxl := Lib.hid (Own.len ox)
    have hyl := Lib.hid (Own.len oy)
    have z12 := Lib.hid bb.size
    have z23 := Lib.hid bb3.size
    clear c0 G2 bb bb3 ox LP LQ
    go_wp2_with fail
    go_loopw [26] (fun i wr => ∃ i' d : Nat, i' ≤ ln ∧ i = .int .i64 i' ∧ wr = w3.drewN d ∧ ∀ j, j < i' → T[j]? ≠ some (u, v)) (fun i _ => ln - (intOf i).toNat)
    case atStart => exact ⟨0, 0, Nat.zero_le _, rfl, rfl, fun j hj => absurd hj (Nat.not_lt_zero _)⟩
    case round =>
      obtain ⟨i, d, hi, rfl, hwr, hno⟩ := hrel
      have HNO := Lib.hid hno
      clear hno
      have bd : Below w3.heap.size w3 wr := by rw [hwr]; exact drewN_below w3 d
      have G4 := G3.next bd
      have ox4 := Own.next ox3 bd
      have oy4 := Own.next oy bd
      have HWR := Lib.hid hwr
      have z34 := Lib.hid bd.size
      clear G3 ox3 oy hwr bd
      by_cases hlt : i < ln
      · have i3 : (0 : Int) ≤ (i : Int) := by omega
        have i4 : (i : Int) < (ln : Int) := by omega
        obtain ⟨b3, o3, A1, n1, c1, hLe, hb3, hc3, hs3, hcap3⟩ := G4.t.l.segs.spot hlt
        obtain ⟨b4, o4, A2, n2, c2, hRe, hb4, hc4, hs4, hcap4⟩ := G4.t.r.segs.spot hlt
        subst hLe hRe
        have L1 := Lib.hid (specSame A1 X n1 xn c1 xc _ u wr hs3 (Own.seg ox4) (by rw [← hs3.1]; exact (tb_len HT.out).1) (by rw [hxl.out]; exact lu))
        have L2 := Lib.hid (fun d5 => specSame A2 Y n2 yn c2 yc _ v (wr.drewN d5) (hs4.drewN d5) (Own.seg (Own.drewN oy4 d5)) (by rw [← hs4.1]; exact (tb_len HT.out).2) (by rw [hyl.out]; exact lv))
        have G5 := Lib.hid (fun d => G4.next (drewN_below wr d))
        have SR := Lib.hid (fun d' (hnx : T[i]? ≠ some (u, v)) => (show ∃ i' d : Nat, i' ≤ ln ∧ (.int .i64 ((i : Int) + 1) : Value) = .int .i64 i' ∧ wr.drewN d' = w3.drewN d ∧ ∀ j, j < i' → T[j]? ≠ some (u, v) from ⟨i + 1, d + d', hlt, by simp, by rw [HWR.out, World.drewN_drewN], fun j hj => by
          by_cases e : j = i
          · rw [e]; exact hnx
          · exact HNO.out j (by omega)⟩))
        have hiT : i < T.length := by rw [HLT.out]; exact hlt
        clear hs3 hs4 ox4 oy4 hcap3 hcap4 G4
        go_wp2_with fail
        refine L1.out.mono ?_
        rintro e w5 ⟨he, d5, rfl⟩
        clear L1
        by_cases e1 : (T.map Prod.fst).getD i [] = u
        · rw [decide_eq_true e1] at he
          subst he
          have hc5 : (wr.drewN d5).cell? ⟨b4, o4 + i, none⟩ = some (.slice A2 n2 c2) := hc4
          have L2 := Lib.hid (L2.out d5)
          clear hc3 hc4
          go_wp2_with fail
          refine L2.out.mono ?_
          rintro e w6 ⟨he, d6, rfl⟩
          clear L2
          rw [World.drewN_drewN]
          by_cases e2 : (T.map Prod.snd).getD i [] = v
          · rw [decide_eq_true e2] at he
            subst he
            have G6 := G5.out (d5 + d6)
            have F := Lib.hid (show AnsGen sg w lo (some ⟨b3, o3, none⟩) (some ⟨b4, o4, none⟩) ln T u v (.returned (.tuple #[.slice (some ⟨(wr.drewN (d5 + d6)).heap.size, 0, none⟩) 1 1, .slice (some ⟨b3, o3, none⟩) ln lc, .slice (some ⟨b4, o4, none⟩) ln rc])) ((wr.drewN (d5 + d6)).alloc (.cells #[.int .i64 (-1 - (i : Int))] 2)) from
              ⟨[-1 - (i : Int)], T, _, _, _, 1, 1, ln, lc, rc, rfl, one_own _ _ _ G6.bel.size, GS.out i (tb_at hiT e1 e2), G6.t.next ((Below.refl _ _).alloc (Nat.le_refl _) _), Two.of_below (next_trans G6.bel ((Below.refl _ _).alloc (Nat.le_refl _) _)), fun k h _ => h, fun k h _ => h, fun Z hZ a1 a2 => ⟨avSame (next_trans G6.bel ((Below.refl _ _).alloc (Nat.le_refl _) _)) T0.out.l.top a1, avSame (next_trans G6.bel ((Below.refl _ _).alloc (Nat.le_refl _) _)) T0.out.r.top a2⟩⟩)
            clear G6 G5 SR hc5
            generalize wr.drewN (d5 + d6) = w7 at *
            go_wp2
            go_ret3
            exact F.out
          · rw [decide_eq_false e2] at he
            subst he
            have S := Lib.hid (SR.out (d5 + d6) (tb_not hiT (fun h => e2 h.2)))
            clear SR G5 hc5
            generalize wr.drewN (d5 + d6) = w7 at *
            go_wp2
            go_roundw
            case rel => exact S.out
            case measure => simp [intOf]; omega
        · rw [decide_eq_false e1] at he
          subst he
          have S := Lib.hid (SR.out d5 (tb_not hiT (fun h => e1 h.1)))
          clear SR G5 L2 hc3 hc4
          generalize wr.drewN d5 = w7 at *
          go_wp2
          go_roundw
          case rel => exact S.out
          case measure => simp [intOf]; omega
      · obtain rfl : i = ln := by omega
        have hgs := GN.out (tb_mem (by rw [HLT.out]; exact HNO.out))
        rw [HLT.out] at hgs
        have z0 := G1z.out
        have K := Lib.hid (st1 G4 T0.out)
        have KX := Lib.hid (st2 (w := w) ox4 (by omega))
        have KY := Lib.hid (st2 (w := w) oy4 (by have := z12.out; omega))
        have K3 := Lib.hid (fun (o1 o2 o3 : Obj) w6 (hg : World.grownBy ((wr.alloc o1).alloc o2) w6 (blk L)) => st3 (K.out o1 o2).1 (K.out o1 o2).2 T0.out hg o3)
        have K4 := Lib.hid (fun (o1 o2 o3 : Obj) w6 (hg : World.grownBy ((wr.alloc o1).alloc o2) w6 (blk L)) => st4 (K.out o1 o2).1 (KY.out o1 o2) hg o3)
        have hzr := G4.bel.size
        have F := Lib.hid (fun (o2 o3 : Obj) (L' R' : Option Addr) (lc' rc' : Nat) (w6 w7 : World) (hg6 : World.grownBy ((wr.alloc (.cells #[.int .i64 (-1 - (i : Int))] 2)).alloc o2) w6 (blk L)) ho6 hat6 hg7 ho7 hat7 hX hY hc6 hc7 => st5 (w6 := w6) (w7 := w7) (L' := L') (R' := R') (lc' := lc') (rc' := rc') (-1 - (i : Int)) o2 o3 G4 T0.out hgs hg6 ho6 hat6 hg7 ho7 hat7 (vX := .slice X xn xc) (vY := .slice Y yn yc) hX hY hc6 hc7)
        clear hgs G4 ox4 oy4 GS GN HNO
        go_wp2_with (at_builtin; go_must (refine appS1Z rfl _ _ rfl lo w.heap.size L i lc (T.map Prod.fst) rfl (K.out _ _).1 _ 1 (.slice X xn xc) u rfl (cell2 _ _ _ _) (KX.out _ _) (by omega) (by omega) (by simp; omega) ?_; intro L' lc' w6 ho6 hg6 hat6 b6 hc6; refine (?_ : Hid _).out))
        refine Lib.hid ?_
        go_wp2_with (at_builtin; go_must (refine appS1Z rfl _ _ rfl lo w.heap.size R i rc (T.map Prod.snd) rfl (K3.out _ _ _ _ hg6) _ 1 (.slice Y yn yc) v rfl ((Row.new _ _ _).cell 0) (K4.out _ _ _ _ hg6) (by omega) (by omega) (by have := hg6.size; simp at this ⊢; omega) ?_; intro R' rc' w7 ho7 hg7 hat7 b7 hc7))
        go_wp2
        go_ret3
        exact F.out _ _ _ _ _ _ _ _ hg6 ho6 hat6 hg7 ho7 hat7 (KX.out _ _) (K4.out _ _ _ _ hg6) hc6 hc7
end Go.Proofs.Ytkmhnkljigncmaa.genSpec
end

section
/-
  The loop of spec.l5General over the arguments: what stands at its head ('Hr'), and one round ('Hr.step'). By an AI agent.
-/
namespace Go.Proofs.Ytkmhnkljigncmaa.genRec
open Go.RowKit Go.Proofs.Ytkmhnkljigncmaa.base Go.Proofs.Ytkmhnkljigncmaa.ints Go.Proofs.Ytkmhnkljigncmaa.sig Go.Proofs.Ytkmhnkljigncmaa.cursor Go.Proofs.Ytkmhnkljigncmaa.marks Go.Proofs.Ytkmhnkljigncmaa.app Go.Proofs.Ytkmhnkljigncmaa.appAt Go.Proofs.Ytkmhnkljigncmaa.sym Go.Proofs.Ytkmhnkljigncmaa.segs Go.Proofs.Ytkmhnkljigncmaa.segsHelp Go.Proofs.Ytkmhnkljigncmaa.term Go.Proofs.Ytkmhnkljigncmaa.args Go.Proofs.Ytkmhnkljigncmaa.sub Go.Proofs.Ytkmhnkljigncmaa.look Go.Proofs.Ytkmhnkljigncmaa.plain Go.Proofs.Ytkmhnkljigncmaa.same Go.Proofs.Ytkmhnkljigncmaa.posMath Go.Proofs.Ytkmhnkljigncmaa.unifMath Go.Proofs.Ytkmhnkljigncmaa.genMath Go.Proofs.Ytkmhnkljigncmaa.genPos Go.Proofs.Ytkmhnkljigncmaa.genTab Go.Proofs.Ytkmhnkljigncmaa.appZ Go.Proofs.Ytkmhnkljigncmaa.genSpec

theorem gs_bnd {sg : List Int} {T T' : Tb} {n B : Nat} {u w g : List Int} (h : Gs sg T n u w g T') : (∀ x ∈ T, x.1.length ≤ B ∧ x.2.length ≤ B) → u.length ≤ B → w.length ≤ B → ∀ x ∈ T', x.1.length ≤ B ∧ x.2.length ≤ B := by
  induction h with
  | nil T => exact fun h _ _ => h
  | sym _ _ _ ih => exact fun h h1 h2 => ih h (by simp only [List.length_cons] at h1; omega) (by simp only [List.length_cons] at h2; omega)
  | old _ _ _ _ _ ih => exact fun h h1 h2 => ih h (by simp only [List.length_append] at h1; omega) (by simp only [List.length_append] at h2; omega)
  | new _ _ _ _ _ ih =>
    intro h h1 h2
    simp only [List.length_append] at h1 h2
    refine ih (fun x hx => ?_) (by omega) (by omega)
    rcases List.mem_append.mp hx with hx | hx
    · exact h x hx
    · simp only [List.mem_singleton] at hx
      subst hx
      exact ⟨by simp only; omega, by simp only; omega⟩
theorem gs_pos {sg : List Int} {T T' : Tb} {n : Nat} {u w g : List Int} (h : Gs sg T n u w g T') : n ≤ g.length := by
  induction h with
  | nil T => simp
  | sym _ _ _ ih => simp only [List.length_cons]; omega
  | old _ _ _ _ _ ih => simp only [List.length_cons]; omega
  | new _ _ _ _ _ ih => simp only [List.length_cons]; omega
theorem ownRow {w : World} {base n c : Nat} {A : Option Addr} {xs : List Int} (h : Own w base (.slice A n c) xs) : ∀ k, blk A = some k → (∃ cs, Row w k 2 cs) ∧ base ≤ k ∧ k < w.heap.size := fun k hk => by
  have hl := Own.len h
  subst hl
  rcases own_form (n := xs.length) (vs := xs.map (Value.int .i64)) h with ⟨rfl, _⟩ | ⟨g, cur, rfl, hb, hg, _⟩
  · cases hk
  · injection hk with hk
    subst hk
    exact ⟨⟨cur, hg⟩, hb, hg.lt⟩

/-- what stands at the loop's head -/
structure Hr (w wr : World) (lo : Nat) (A : Option Addr) (n c : Nat) (sg : List Int) (P : Option Addr) (m : Nat) (a : List Int) (Q : Option Addr) (k : Nat) (b : List Int) (L R : Option Addr) (ln p q : Nat) (T : Tb) (x : Int) (X : Option Addr) (xn xc : Nat) (Y : Option Addr) (yn yc i : Nat) (L' R' : Option Addr) (ln' lc' rc' : Nat) (O : Option Addr) (on oc : Nat) (g : List Int) (T' : Tb) : Prop where
  r0 : Row wr w.heap.size 26 #[.slice A n c]
  s : Seg wr lo A n sg
  pa : Seg wr lo P m a
  qb : Seg wr lo Q k b
  t : Tabs wr lo L' ln' lc' R' rc' T'
  le : lo ≤ w.heap.size
  two : Two w wr L R
  hl : ∀ k, blk L' = some k → k < w.heap.size → blk L = some k
  hr : ∀ k, blk R' = some k → k < w.heap.size → blk R = some k
  ox : Own wr w.heap.size (.slice X xn xc) (argsL sg a p)
  oy : Own wr w.heap.size (.slice Y yn yc) (argsL sg b q)
  oo : Own wr w.heap.size (.slice O on oc) (x :: g)
  nx : ∀ z, blk O = some z → blk X ≠ some z
  ny : ∀ z, blk O = some z → blk Y ≠ some z
  ga : Ga sg a b p q T i g T'
  av : ∀ Z : Nat → Prop, (∀ z, Z z → z < w.heap.size) → Avoid Z w L ln → Avoid Z w R ln → Avoid Z wr L' ln' ∧ Avoid Z wr R' ln'
  ao : Avoid (fun z => blk O = some z) wr L' ln' ∧ Avoid (fun z => blk O = some z) wr R' ln'
section
variable {w wr wd w5 w6 : World} {lo : Nat} {A : Option Addr} {n c : Nat} {sg : List Int} {P : Option Addr} {m : Nat} {a : List Int} {Q : Option Addr} {k : Nat} {b : List Int} {L R : Option Addr} {ln p q : Nat} {T : Tb} {x : Int} {X : Option Addr} {xn xc : Nat} {Y : Option Addr} {yn yc i : Nat} {L' R' : Option Addr} {ln' lc' rc' : Nat} {O : Option Addr} {on oc : Nat} {g : List Int} {T' : Tb}
theorem own_away {base r0 : Nat} {r : Option Nat} {A : Option Addr} {n c : Nat} {xs : List Int} (h : Own w5 base (.slice A n c) xs) (hg : w5.grownBy w6 r) (hne : ∀ z, r = some z → blk A ≠ some z) (_ : r0 = 0) : Own w6 base (.slice A n c) xs := by
  refine World.ownsRow.kept h hg ?_
  rw [blk_own]
  cases e : blk A with
  | none => exact .inl rfl
  | some z => exact .inr (fun e2 => hne z e2.symm e)
theorem Hr.step (h : Hr w wr lo A n c sg P m a Q k b L R ln p q T x X xn xc Y yn yc i L' R' ln' lc' rc' O on oc g T') {L2 R2 : Option Addr} {n2 lc2 rc2 : Nat} {g' : List Int} {T2 : Tb}
    (hgs : Gs sg T' 1 (subL sg a (argP sg a i (p + 1))) (subL sg b (argP sg b i (q + 1))) g' T2) (ht2 : Tabs w5 lo L2 n2 lc2 R2 rc2 T2) (htwo : Two wr w5 L' R') (hl2 : ∀ k, blk L2 = some k → k < wr.heap.size → blk L' = some k) (hr2 : ∀ k, blk R2 = some k → k < wr.heap.size → blk R' = some k)
    (hav : ∀ Z : Nat → Prop, (∀ z, Z z → z < wr.heap.size) → Avoid Z wr L' ln' → Avoid Z wr R' ln' → Avoid Z w5 L2 n2 ∧ Avoid Z w5 R2 n2)
    {O' : Option Addr} {on' oc' : Nat} (ho6 : Own w6 w.heap.size (.slice O' on' oc') ((x :: g) ++ g')) (hg6 : w5.grownBy w6 (blk O)) (hat6 : blk O' = blk O ∨ blk O' = some w5.heap.size) :
    Hr w w6 lo A n c sg P m a Q k b L R ln p q T x X xn xc Y yn yc (i + 1) L2 R2 n2 lc2 rc2 O' on' oc' (g ++ g') T2 := by
  have tO := ownRow h.oo
  have hzw := h.two.size
  have hz5 := htwo.size
  have hz6 := hg6.size
  have oo5 := htwo.own h.oo h.t.rowL h.t.rowR
  have tO5 := ownRow oo5
  have ox5 := htwo.own h.ox h.t.rowL h.t.rowR
  have oy5 := htwo.own h.oy h.t.rowL h.t.rowR
  have b5 : Below lo wr w5 := htwo.below h.t.loL h.t.loR (Nat.le_trans h.le hzw)
  have hOlo : ∀ z, blk O = some z → w.heap.size ≤ z := fun z hz => (tO z hz).2.1
  have hOL : ∀ z, blk L2 = some z → blk O ≠ some z := fun z hz e => by
    obtain ⟨cs, h1⟩ := ht2.rowL z hz
    obtain ⟨⟨cs2, h2⟩, _⟩ := tO5 z e
    exact Row.ne_ h2 h1 (by decide) rfl
  have hOR : ∀ z, blk R2 = some z → blk O ≠ some z := fun z hz e => by
    obtain ⟨cs, h1⟩ := ht2.rowR z hz
    obtain ⟨⟨cs2, h2⟩, _⟩ := tO5 z e
    exact Row.ne_ h2 h1 (by decide) rfl
  have r5 : Row w5 w.heap.size 26 #[.slice A n c] := htwo.row h.r0 (fun e => by obtain ⟨cs, h1⟩ := h.t.rowL _ e; exact Row.ne_ h.r0 h1 (by decide) rfl) (fun e => by obtain ⟨cs, h1⟩ := h.t.rowR _ e; exact Row.ne_ h.r0 h1 (by decide) rfl)
  have hOs : blk O ≠ some w.heap.size := fun e => by
    obtain ⟨⟨cs, h1⟩, _⟩ := tO5 _ e
    exact Row.ne_ r5 h1 (by decide) rfl
  have hfar : ∀ z, blk O = some z → lo ≤ z := fun z hz => Nat.le_trans h.le (hOlo z hz)
  have hlo5 : lo ≤ w5.heap.size := by have := h.le; omega
  obtain ⟨avO1, avO2⟩ := hav (fun z => blk O = some z) (fun z hz => (tO z hz).2.2) h.ao.1 h.ao.2
  have kL : ∀ b j, L2 = some ⟨b, 0, none⟩ → w6.cell? ⟨b, j, none⟩ = w5.cell? ⟨b, j, none⟩ := fun b j e => World.cell?_of_block (hg6.block b (ht2.l.top b (by rw [e]; rfl)) (fun e2 => hOL b (by rw [e]; rfl) e2.symm))
  have kR : ∀ b j, R2 = some ⟨b, 0, none⟩ → w6.cell? ⟨b, j, none⟩ = w5.cell? ⟨b, j, none⟩ := fun b j e => World.cell?_of_block (hg6.block b (ht2.r.top b (by rw [e]; rfl)) (fun e2 => hOR b (by rw [e]; rfl) e2.symm))
  have two5 : Two w w5 L R := h.two.trans htwo h.hl h.hr
  refine ⟨?_, Seg.far (h.s.below b5) hg6 hlo5 hfar, Seg.far (h.pa.below b5) hg6 hlo5 hfar, Seg.far (h.qb.below b5) hg6 hlo5 hfar, ⟨(Avoid.owns ht2.l avO1 hOL hg6).wider (Nat.le_refl _) hz6, (Avoid.owns ht2.r avO2 hOR hg6).wider (Nat.le_refl _) hz6, ht2.ne⟩, h.le, ?_, fun z hz hlt => h.hl z (hl2 z hz (by omega)) hlt, fun z hz hlt => h.hr z (hr2 z hz (by omega)) hlt, own_away (r0 := 0) ox5 hg6 h.nx rfl, own_away (r0 := 0) oy5 hg6 h.ny rfl, ho6, fun z hz => ?_, fun z hz => ?_, ga_succ h.ga hgs, fun Z hZ a1 a2 => ?_, ?_⟩
  · exact (hg6.block _ r5.lt (fun e => hOs e.symm)).trans r5
  · exact ⟨hg6.os.trans two5.os, hg6.tape.trans two5.tape, hg6.output.trans two5.output, Nat.le_trans two5.size hz6, fun z hz h1 h2 => (hg6.block z (by omega) (fun e => by have := hOlo z e.symm; omega)).trans (two5.block z hz h1 h2)⟩
  · rcases hat6 with e | e
    · exact h.nx z (by rw [← e]; exact hz)
    · intro e2
      rw [e] at hz
      injection hz with hz
      have := (ownRow ox5 z e2).2.2
      omega
  · rcases hat6 with e | e
    · exact h.ny z (by rw [← e]; exact hz)
    · intro e2
      rw [e] at hz
      injection hz with hz
      have := (ownRow oy5 z e2).2.2
      omega
  · obtain ⟨c1, c2⟩ := h.av Z hZ a1 a2
    obtain ⟨d1, d2⟩ := hav Z (fun z hz => by have := hZ z hz; omega) c1 c2
    exact ⟨d1.keep kL, d2.keep kR⟩
  · rcases hat6 with e | e
    · rw [e]; exact ⟨avO1.keep kL, avO2.keep kR⟩
    · refine ⟨(Avoid.fresh ht2.l (fun z hz => ?_)).keep kL, (Avoid.fresh ht2.r (fun z hz => ?_)).keep kR⟩
      · rw [e] at hz; injection hz with hz; omega
      · rw [e] at hz; injection hz with hz; omega
end
end Go.Proofs.Ytkmhnkljigncmaa.genRec
end

section
/-
  CONTRACTS: slices.IndexFunc, slices.ContainsFunc of a [][]int64, over whatever test ('Tests'). Conditions: the slices read as lists ('Segs'), at most 1048576 values. By an AI agent.
-/
namespace Go.Proofs.Ytkmhnkljigncmaa.anyOf
open Go.RowKit Go.Proofs.Ytkmhnkljigncmaa.base Go.Proofs.Ytkmhnkljigncmaa.ints Go.Proofs.Ytkmhnkljigncmaa.sig Go.Proofs.Ytkmhnkljigncmaa.segs Go.Proofs.Ytkmhnkljigncmaa.segsHelp Go.Proofs.Ytkmhnkljigncmaa.inside
set_option maxRecDepth 100000

/-- function g with what it has captured tests f, as long as what lies in w lies -/
def Tests (g : Nat) (lb : Array Value) (w : World) (f : List Int → Bool) : Prop :=
  ∀ (W : World) (D : Option Addr) (dn dc : Nat) (ys : List Int), Below w.heap.size w W → Seg W W.heap.size D dn ys → dn ≤ 1048576 → Cap D dn dc → Calls Try.prog g (#[.slice D dn dc] ++ lb) W (Tells W (f ys))
theorem Tests.next {g : Nat} {lb : Array Value} {w w' : World} {f : List Int → Bool} (h : Tests g lb w f) (hb : Below w.heap.size w w') : Tests g lb w' f :=
  fun W D dn dc ys hW hs hn hc => h W D dn dc ys (next_trans hb hW) hs hn hc

def AnsIx (w : World) (f : List Int → Bool) (xss : List (List Int)) (e : Ending) (w' : World) : Prop := ∃ z : Int, e = .returned (.int .i64 z) ∧ -1 ≤ z ∧ z ≤ 1048576 ∧ decide (0 ≤ z) = xss.any f ∧ Below w.heap.size w w'
def HeadIx (w : World) (n : Nat) (f : List Int → Bool) (xss : List (List Int)) (i : Value) (wr : World) : Prop := ∃ k : Nat, k ≤ n ∧ i = .int .i64 k ∧ (∀ j, j < k → f (xss.getD j []) = false) ∧ Below w.heap.size w wr
theorem any_at {f : List Int → Bool} {xss : List (List Int)} {k : Nat} (hk : k < xss.length) (h : f (xss.getD k []) = true) : xss.any f = true := by
  rw [List.any_eq_true]
  exact ⟨xss[k], List.getElem_mem hk, by simpa [List.getD, hk] using h⟩
theorem any_none {f : List Int → Bool} {xss : List (List Int)} (h : ∀ j, j < xss.length → f (xss.getD j []) = false) : xss.any f = false := by
  rw [List.any_eq_false]
  intro x hx
  obtain ⟨i, hi, rfl⟩ := List.getElem_of_mem hx
  have := h i hi
  simpa [List.getD, hi] using this

set_option maxHeartbeats 2000000 in
theorem indexFunc (g : Nat) (lb : Array Value) (eg : ∀ args w, (callFunc g args).run Try.prog w = .ok (.enter g args) w) (f : List Int → Bool) (A : Option Addr) (n c : Nat) (xss : List (List Int)) (w : World) (hT : Tests g lb w f)
    (h : Segs w w.heap.size A n xss) (hn : n ≤ 1048576) (hE : ∀ j, (xss.getD j []).length ≤ 1048576) :
    Calls Try.prog 114 #[.slice A n c, .func (.func g) #[] lb] w (AnsIx w f xss) := by
  have HE := Lib.hid hE
  have HL := Lib.hid h.1
  have HK := Lib.hid hT
  have HH : Hid (HeadIx w n f xss (.int .i64 0) w) := Lib.hid ⟨0, Nat.zero_le _, rfl, fun j hj => absurd hj (Nat.not_lt_zero _), Below.refl _ _⟩
  clear hE hT
  go_enter Try.func114, Try.ntmps114
  go_wp2_with fail
  go_loopw [8] (fun i wr => HeadIx w n f xss i wr) (fun i _ => n - (intOf i).toNat)
  case atStart => exact HH.out
  case round =>
    obtain ⟨k, hk, rfl, hlow, hb⟩ := hrel
    have HLOW := Lib.hid hlow
    clear hlow HH
    by_cases hlt : k < n
    · obtain ⟨b, off, A', n', cc, rfl, hbB, hx0, hseg, hcap⟩ := h.spot hlt
      have hx : wr.cell? ⟨b, off + k, none⟩ = some (.slice A' n' cc) := (hb.cell (p := ⟨b, off + k, none⟩) hbB).trans hx0
      have hn' : n' ≤ 1048576 := by rw [← hseg.1]; exact HE.out k
      obtain ⟨ys, hys⟩ : ∃ ys, xss.getD k [] = ys := ⟨_, rfl⟩
      rw [hys] at hseg
      have HY := Lib.hid hys
      have hcall := HK.out wr A' n' cc ys hb (hseg.below hb |>.more hb.size) hn' hcap
      obtain ⟨v, hv⟩ : ∃ v, f ys = v := ⟨_, rfl⟩
      rw [hv] at hcall
      have HV := Lib.hid hv
      have HC := Lib.hid hcall
      have i0 : (0 : Int) ≤ (k : Int) := by omega
      have i1 : (k : Int) < (n : Int) := by omega
      clear hseg hcap h hx0 hys hv hcall
      cases v with
      | true =>
        go_wp2_with (first
          | (go_at_fn g; refine HC.out.mono ?_; rintro e w1 ⟨rfl, bb⟩))
        have F : AnsIx w f xss (.returned (.int .i64 (k : Int))) w1 := ⟨k, rfl, by omega, by omega, by rw [decide_eq_true (by omega)]; exact (any_at (by rw [HL.out]; exact hlt) (by rw [HY.out]; exact HV.out)).symm, next_trans hb bb⟩
        have HF := Lib.hid F
        clear F hx bb hb HC
        go_wp2
        go_ret
        exact HF.out
      | false =>
        go_wp2_with (first
          | (go_at_fn g; refine HC.out.mono ?_; rintro e w1 ⟨rfl, bb⟩))
        have S1 : HeadIx w n f xss (.int .i64 ((k : Int) + 1)) w1 := ⟨k + 1, hlt, by simp, fun j hj => by
          by_cases e : j = k
          · rw [e, HY.out]; exact HV.out
          · exact HLOW.out j (by omega), next_trans hb bb⟩
        have HS1 := Lib.hid S1
        clear S1 hx bb hb HC
        go_wp2
        go_roundw
        case rel => exact HS1.out
        case measure => simp [intOf]; omega
    · have F : AnsIx w f xss (.returned (.int .i64 (-1))) wr := ⟨-1, rfl, by omega, by omega, (any_none (fun j hj => HLOW.out j (by rw [HL.out] at hj; omega))).symm, hb⟩
      have HF := Lib.hid F
      clear F h hb
      go_wp2
      go_ret
      exact HF.out
theorem containsFunc (g : Nat) (lb : Array Value) (eg : ∀ args w, (callFunc g args).run Try.prog w = .ok (.enter g args) w) (f : List Int → Bool) (A : Option Addr) (n c : Nat) (xss : List (List Int)) (w : World) (hT : Tests g lb w f)
    (h : Segs w w.heap.size A n xss) (hn : n ≤ 1048576) (hE : ∀ j, (xss.getD j []).length ≤ 1048576) :
    Calls Try.prog 76 #[.slice A n c, .func (.func g) #[] lb] w (Tells w (xss.any f)) := by
  have L := Lib.hid (indexFunc g lb eg f A n c xss w hT h hn hE)
  clear h hE hT
  go_enter Try.func76, Try.ntmps76
  go_wp2_with fail
  refine L.out.mono ?_
  rintro e w' ⟨z, rfl, h1, h2, hz, bb⟩
  have HZ := Lib.hid hz
  have HB := Lib.hid bb
  clear hz L bb
  go_wp2
  go_ret
  exact ⟨by rw [← HZ.out]; rfl, HB.out⟩
end Go.Proofs.Ytkmhnkljigncmaa.anyOf
end

section
/-
  PLAIN MATHEMATICS of unification: only variables of the two terms are replaced, and by terms of such variables ('Dom'); so nothing is longer than the two terms, filled; one step ('Go'). Conditions: none. By an AI agent.
-/
namespace Go.Proofs.Ytkmhnkljigncmaa.unifDom
open Go.Proofs.Ytkmhnkljigncmaa.sig Go.Proofs.Ytkmhnkljigncmaa.term Go.Proofs.Ytkmhnkljigncmaa.termOk Go.Proofs.Ytkmhnkljigncmaa.termFacts Go.Proofs.Ytkmhnkljigncmaa.endAt Go.Proofs.Ytkmhnkljigncmaa.sub Go.Proofs.Ytkmhnkljigncmaa.termMath Go.Proofs.Ytkmhnkljigncmaa.fillMath Go.Proofs.Ytkmhnkljigncmaa.posMath Go.Proofs.Ytkmhnkljigncmaa.renMath Go.Proofs.Ytkmhnkljigncmaa.matchMath Go.Proofs.Ytkmhnkljigncmaa.plainMath Go.Proofs.Ytkmhnkljigncmaa.unifMath

def InTwo (a b : List Int) (z : Int) : Prop := z ∈ a ∨ z ∈ b
structure Dom (a b : List Int) (L : Nat → List Int) : Prop where
  rng : ∀ z, InTwo a b z → z < 0 → ∀ y ∈ L (vr z), y < 0 → InTwo a b y
  out : ∀ i : Nat, ¬ InTwo a b (-1 - (i : Int)) → L i = vt i
section
variable {sg a b : List Int} {L : Nat → List Int}
theorem Dom.start (a b : List Int) : Dom a b vt := ⟨fun z hz h0 y hy _ => by rw [vt_vr h0, List.mem_singleton] at hy; rw [hy]; exact hz, fun _ _ => rfl⟩
theorem Dom.symm (h : Dom a b L) : Dom b a L := ⟨fun z hz h0 y hy h1 => (h.rng z hz.symm h0 y hy h1).symm, fun i hi => h.out i (fun e => hi e.symm)⟩
theorem Dom.fill (h : Dom a b L) {y : Int} (hy : y ∈ fillL L a ∨ y ∈ fillL L b) (h0 : y < 0) : InTwo a b y := by
  rcases hy with hy | hy
  · obtain ⟨z, h1, h2, h3⟩ := fill_mem hy h0
    exact h.rng z (.inl h1) h2 y h3 h0
  · obtain ⟨z, h1, h2, h3⟩ := fill_mem hy h0
    exact h.rng z (.inr h1) h2 y h3 h0
theorem Dom.bind (h : Dom a b L) {p : Int} {t : List Int} (hp : InTwo a b p) (h0 : p < 0) (ht : ∀ y ∈ t, y < 0 → InTwo a b y) : Dom a b (fun m => fillL (ones (vr p) t) (L m)) := by
  refine ⟨fun z hz hz0 y hy hy0 => ?_, fun i hi => ?_⟩
  · change y ∈ fillL (ones (vr p) t) (L (vr z)) at hy
    obtain ⟨q, h1, h2, h3⟩ := fill_mem hy hy0
    unfold ones at h3
    split at h3
    · exact ht y h3 hy0
    · rw [vt_vr h2, List.mem_singleton] at h3
      rw [h3]
      exact h.rng z hz hz0 q h1 h2
  · show fillL (ones (vr p) t) (L i) = vt i
    rw [h.out i hi, fill_vti]
    unfold ones
    rw [if_neg]
    intro e
    subst e
    exact hi (by rw [vr_neg h0]; exact hp)
theorem mem_len {x : Int} : ∀ {t : List Int}, x ∈ t → x < 0 → (L (vr x)).length ≤ (fillL L t).length
  | [], hx, _ => absurd hx (List.not_mem_nil)
  | y :: r, hx, h0 => by
    rw [fill_cons, List.length_append]
    rcases List.mem_cons.1 hx with rfl | hx
    · rw [rep_vr h0]; omega
    · have := mem_len hx h0; omega
theorem Dom.each (h : Dom a b L) (ha : (fillL L a).length ≤ 60) (hb : (fillL L b).length ≤ 60) (i : Nat) : (L i).length ≤ 60 := by
  by_cases hi : InTwo a b (-1 - (i : Int))
  · rcases hi with hi | hi
    · have := mem_len (L := L) hi (by omega)
      rw [vr_vt] at this
      omega
    · have := mem_len (L := L) hi (by omega)
      rw [vr_vt] at this
      omega
  · rw [h.out i hi]; simp [vt]
end

/-- what is known on the way: x and y are the two terms, filled -/
structure Wy (sg a b : List Int) (L : Nat → List Int) (x y : List Int) : Prop where
  ta : termOkB sg a = true
  tb : termOkB sg b = true
  part : Part sg a b L
  dom : Dom a b L
  ex : x = fillL L a
  ey : y = fillL L b
  lx : x.length ≤ 60
  ly : y.length ≤ 60
section
variable {sg a b x y : List Int} {L : Nat → List Int}
theorem Wy.symm (h : Wy sg a b L x y) : Wy sg b a L y x := ⟨h.tb, h.ta, h.part.symm, h.dom.symm, h.ey, h.ex, h.ly, h.lx⟩
theorem Wy.start (ha : termOkB sg a = true) (hb : termOkB sg b = true) : Wy sg a b vt a b :=
  ⟨ha, hb, Part.start sg a b, Dom.start a b, (fill_vt a).symm, (fill_vt b).symm, (term_len ha).2, (term_len hb).2⟩
theorem Wy.tx (h : Wy sg a b L x y) : Trm sg x := by rw [h.ex]; exact h.part.sub.fill (term_parts h.ta).2.2
theorem Wy.okx (h : Wy sg a b L x y) : termOkB sg x = true := term_mk (term_parts h.ta).1 h.lx h.tx
theorem Wy.each (h : Wy sg a b L x y) (i : Nat) : (L i).length ≤ 60 := h.dom.each (by rw [← h.ex]; exact h.lx) (by rw [← h.ey]; exact h.ly) i
theorem Wy.done (h : Wy sg a b L x y) (e : x = y) : IsU sg a b true (plainL L 24) :=
  isU_mg h.ta h.tb (h.part.done (by rw [← h.ex, ← h.ey]; exact e)) h.each (by rw [← h.ex]; exact h.lx)
/-- the first index at which they differ -/
theorem Wy.spot (h : Wy sg a b L x y) {k : Nat} (e : x.take k = y.take k) (kx : k < x.length) (ky : k < y.length) (ne : x.getD k 0 ≠ y.getD k 0) : Spot sg a b L k :=
  ⟨(term_parts h.ta).2.2, (term_parts h.tb).2.2, by rw [← h.ex, ← h.ey]; exact e, by rw [← h.ex]; exact kx, by rw [← h.ey]; exact ky, by rw [← h.ex, ← h.ey]; exact ne⟩
theorem Wy.clash (h : Wy sg a b L x y) {k : Nat} (s : Spot sg a b L k) (h1 : 0 ≤ x.getD k 0) (h2 : 0 ≤ y.getD k 0) : ∀ M, ¬ Short sg a b M := fun M hM =>
  s.clash h.part (by rw [← h.ex]; exact h1) (by rw [← h.ey]; exact h2) M hM.toUni
theorem Wy.occurs (h : Wy sg a b L x y) {k : Nat} (s : Spot sg a b L k) (h1 : x.getD k 0 < 0) (h2 : x.getD k 0 ∈ subL sg y k) : ∀ M, ¬ Short sg a b M := fun M hM =>
  s.occurs h.part (by rw [← h.ex]; exact h1) (by rw [← h.ex, ← h.ey]; exact h2) M hM.toUni
/-- a step: the variable at k becomes the other side's subterm -/
theorem Wy.step (h : Wy sg a b L x y) {k : Nat} (s : Spot sg a b L k) (h1 : x.getD k 0 < 0) (h2 : x.getD k 0 ∉ subL sg y k) (h3 : 0 ≤ y.getD k 0 ∨ x.getD k 0 < y.getD k 0) :
    (fillL (ones (vr (x.getD k 0)) (subL sg y k)) x).length ≤ 60 → (fillL (ones (vr (x.getD k 0)) (subL sg y k)) y).length ≤ 60 →
      Wy sg a b (fun m => fillL (ones (vr (x.getD k 0)) (subL sg y k)) (L m)) (fillL (ones (vr (x.getD k 0)) (subL sg y k)) x) (fillL (ones (vr (x.getD k 0)) (subL sg y k)) y) ∧
      free (fun m => fillL (ones (vr (x.getD k 0)) (subL sg y k)) (L m)) < free L := fun l1 l2 => by
  have hx := h.ex
  have hy := h.ey
  subst hx
  subst hy
  have hm : (fillL L a).getD k 0 ∈ fillL L a := by have := s.kx; simp [List.getD, this]
  exact ⟨⟨h.ta, h.tb, s.bind h.part h1 h2 h3, h.dom.bind (h.dom.fill (.inl hm) h1) h1 (fun z hz h0 => h.dom.fill (.inr (sub_mem hz)) h0), fill_fill _, fill_fill _, l1, l2⟩, free_bind s h.part h1 h2⟩
/-- where one becomes too long there is no short unifier -/
theorem Wy.long (h : Wy sg a b L x y) {k : Nat} (s : Spot sg a b L k) (h1 : x.getD k 0 < 0) (h2 : x.getD k 0 ∉ subL sg y k) (h3 : 0 ≤ y.getD k 0 ∨ x.getD k 0 < y.getD k 0)
    (hl : ¬ ((fillL (ones (vr (x.getD k 0)) (subL sg y k)) x).length ≤ 60 ∧ (fillL (ones (vr (x.getD k 0)) (subL sg y k)) y).length ≤ 60)) : ∀ M, ¬ Short sg a b M := fun M hM => by
  have hx := h.ex
  have hy := h.ey
  subst hx
  subst hy
  have hl2 := (s.bind h.part h1 h2 h3).len hM
  rw [← fill_fill, ← fill_fill] at hl2
  exact hl hl2
end
end Go.Proofs.Ytkmhnkljigncmaa.unifDom
end

section
/-
  CONTRACTS: impl.lookup.then and what it returns, impl.varTerm as a look-up. 'LooksE x': a look-up that goes on as it does whatever is written into block x. Conditions: the values of the first look-up are terms of at most 60 numbers. (The closure's region by wip/tools/reg.py.) By an AI agent.
-/
namespace Go.Proofs.Ytkmhnkljigncmaa.thn
open Go.RowKit Go.Proofs.Ytkmhnkljigncmaa.base Go.Proofs.Ytkmhnkljigncmaa.ints Go.Proofs.Ytkmhnkljigncmaa.cursor Go.Proofs.Ytkmhnkljigncmaa.marks Go.Proofs.Ytkmhnkljigncmaa.app Go.Proofs.Ytkmhnkljigncmaa.sym Go.Proofs.Ytkmhnkljigncmaa.segs Go.Proofs.Ytkmhnkljigncmaa.fillMath Go.Proofs.Ytkmhnkljigncmaa.look
set_option maxRecDepth 100000

/-- as 'Looks', and whatever is written into block x -/
def LooksE (x : Option Nat) (g : Nat) (lb : Array Value) (w : World) (L : Nat → List Int) (N : Nat) : Prop :=
  ∀ (W : World) (i : Nat), w.grownBy W x → i < N → Calls Try.prog g (#[.int .i64 (i : Int)] ++ lb) W (AnsLook w.heap.size W (L i))
section
variable {x : Option Nat} {g : Nat} {lb : Array Value} {w w' : World} {L L' : Nat → List Int} {N : Nat}
theorem LooksE.next (h : LooksE x g lb w L N) (hg : w.grownBy w' x) : LooksE x g lb w' L N :=
  fun W i hW hi => (h W i (grown_trans hg hW) hi).mono fun _ _ ⟨A, n, c, he, h1, h2, h3, h4⟩ => ⟨A, n, c, he, h1, h2, fun k hk => by have := h3 k hk; have := hg.size; omega, h4⟩
theorem LooksE.looks (h : LooksE x g lb w L N) : Looks g lb w L N := fun W i hW hi => h W i (grown_below hW x) hi
theorem LooksE.ext (h : LooksE x g lb w L N) (e : ∀ i, i < N → L i = L' i) : LooksE x g lb w L' N := fun W i hW hi => by rw [← e i hi]; exact h W i hW hi
theorem grown_drew {a b : World} {r : Option Nat} (h : a.grownBy b r) : a.grownBy b.drew r := ⟨h.os, h.tape, h.output, h.size, h.block⟩
theorem lookVar (x : Option Nat) (w : World) : LooksE x 59 #[] w vt 24 := fun W i _ hi =>
  (varTerm (i : Int) W (by omega) (by omega)).mono fun _ _ ⟨A, n, c, he, ho, hb⟩ => by subst he; exact look_new ho hb
end
/-- what then returns: first the one, and what the other makes of it -/
theorem lookThen (x : Option Nat) (b1 b2 g1 g2 : Nat) (lb1 lb2 : Array Value) (e1 : ∀ args w, (callFunc g1 args).run Try.prog w = .ok (.enter g1 args) w) (e2 : ∀ args w, (callFunc g2 args).run Try.prog w = .ok (.enter g2 args) w) (L1 L2 : Nat → List Int) (w : World)
    (z1 : b1 < w.heap.size) (z2 : b2 < w.heap.size) (n1 : x ≠ some b1) (n2 : x ≠ some b2) (c1 : w.cell? ⟨b1, 0, none⟩ = some (.func (.func g1) #[] lb1)) (c2 : w.cell? ⟨b2, 0, none⟩ = some (.func (.func g2) #[] lb2))
    (h1 : LooksE x g1 lb1 w L1 24) (h2 : LooksE x g2 lb2 w L2 24) (hl1 : ∀ i, i < 24 → (L1 i).length ≤ 60) (hv : ∀ i, i < 24 → ∀ y ∈ L1 i, -24 ≤ y) (hl2 : ∀ i, (L2 i).length ≤ 4096) :
    LooksE x 113 #[.pointer (some ⟨b2, 0, none⟩), .pointer (some ⟨b1, 0, none⟩)] w (fun i => fillL L2 (L1 i)) 24 := by
  intro W i hb hi
  have hsz := hb.size
  have p1 : W.cell? ⟨b1, 0, none⟩ = some (.func (.func g1) #[] lb1) := hb.cell c1 (fun e => n1 e.symm)
  have p2 : W.cell? ⟨b2, 0, none⟩ = some (.func (.func g2) #[] lb2) := hb.cell c2 (fun e => n2 e.symm)
  have HL1 := Lib.hid (h1 W.drew i (grown_drew hb) hi)
  have LU := (h2.next (grown_drew hb)).looks
  have h60 := Lib.hid (hl1 i hi)
  have HV := Lib.hid (hv i hi)
  have hM2 := Lib.hid hl2
  clear hb z1 z2 c1 c2 h1 h2 hl1 hv hl2
  show Calls Try.prog 113 #[.int .i64 (i : Int), .pointer (some ⟨b2, 0, none⟩), .pointer (some ⟨b1, 0, none⟩)] W _
  go_enter Try.func113, Try.ntmps113
  go_wp2_with fail
  refine wp_region_held_drew (S := (fun w' => w'.cell? ⟨b1, 0, none⟩ = some (.func (.func g1) #[] lb1) ∧ w'.cell? ⟨b2, 0, none⟩ = some (.func (.func g2) #[] lb2))) (by kernel_rfl) ⟨p1, p2⟩ (fun hHeld => ?_)
  refine wpAnyH_take (i := 0) (v := ?_) rfl (by kernel_rfl) (by kernel_rfl) (by kernel_rfl) (fun _ _ _ h => h) (Or.inl ⟨by rfl, ?_⟩) (by assumption) ?_
  rotate_left 1
  · (intro w0 hSw; (try dsimp only at hSw); go_simp; try with_reducible rfl)
  try simp only [Act.put, List.setIfInBounds_toArray, List.set_cons_zero, List.set_cons_succ, List.getElem_toArray, List.getElem_cons_zero, List.getElem_cons_succ]
  refine wpAnyH_take (i := 1) (v := ?_) rfl (by kernel_rfl) (by kernel_rfl) (by kernel_rfl) (fun _ _ _ h => h) (Or.inl ⟨by rfl, ?_⟩) (by assumption) ?_
  rotate_left 1
  · (intro w0 hSw; (try dsimp only at hSw); go_simp; try with_reducible rfl)
  try simp only [Act.put, List.setIfInBounds_toArray, List.set_cons_zero, List.set_cons_succ, List.getElem_toArray, List.getElem_cons_zero, List.getElem_cons_succ]
  refine wpAnyH_take (i := 2) (v := ?_) rfl (by kernel_rfl) (by kernel_rfl) (by kernel_rfl) (fun _ _ _ h => h) (Or.inl ⟨by rfl, ?_⟩) (by assumption) ?_
  rotate_left 1
  · (intro w0 hSw; (try dsimp only at hSw); go_simp; try with_reducible rfl)
  try simp only [Act.put, List.setIfInBounds_toArray, List.set_cons_zero, List.set_cons_succ, List.getElem_toArray, List.getElem_cons_zero, List.getElem_cons_succ]
  refine wpAnyH_ready (rs := [3]) (by kernel_rfl) (by simp) (AllReadyH.cons rfl (fun K hK => ?_) AllReadyH.nil)
  go_simp
  refine HL1.out.mono ?_; rintro e w3 ⟨X, xn, xc, rfl, s1, -, -, b1'⟩; have x1 : w3.cell? ⟨b1, 0, none⟩ = some (.func (.func g1) #[] lb1) := (b1'.cell (p := ⟨b1, 0, none⟩) (World.block_lt_of_cell? _ _ p1)).trans p1; have x2 : w3.cell? ⟨b2, 0, none⟩ = some (.func (.func g2) #[] lb2) := (b1'.cell (p := ⟨b2, 0, none⟩) (World.block_lt_of_cell? _ _ p2)).trans p2; go_wp2_with fail
  refine hK.out _ _ ?_ (fun hHeld => ?_)
  · first | assumption | (dsimp only; assumption) | exact ⟨by assumption, by assumption⟩
  clear hK K
  try simp only [Act.put, List.setIfInBounds_toArray, List.set_cons_zero, List.set_cons_succ, List.getElem_toArray, List.getElem_cons_zero, List.getElem_cons_succ]
  refine wpAnyH_ready (rs := [4]) (by kernel_rfl) (by simp) (AllReadyH.cons rfl (fun K hK => ?_) AllReadyH.nil)
  go_simp
  refine (fill g2 lb2 e2 X xn xc (L1 i) L2 w3 (LU.next b1') s1 (by rw [← s1.1]; exact h60.out) HV.out hM2.out).mono ?_; rintro e w4 ⟨Y, yn, yc, rfl, oy, b2'⟩; have y1 := (b2'.cell (p := ⟨b1, 0, none⟩) (World.block_lt_of_cell? _ _ x1)).trans x1; have y2 := (b2'.cell (p := ⟨b2, 0, none⟩) (World.block_lt_of_cell? _ _ x2)).trans x2; go_wp2_with fail
  refine hK.out _ _ ?_ (fun hHeld => ?_)
  · first | assumption | (dsimp only; assumption) | exact ⟨by assumption, by assumption⟩
  clear hK K
  try simp only [Act.put, List.setIfInBounds_toArray, List.set_cons_zero, List.set_cons_succ, List.getElem_toArray, List.getElem_cons_zero, List.getElem_cons_succ]
  refine wpAnyH_take (i := 5) (v := ?_) rfl (by kernel_rfl) (by kernel_rfl) (by kernel_rfl) (fun _ _ _ h => h) (Or.inl ⟨by rfl, ?_⟩) (by assumption) ?_
  rotate_left 1
  · (intro w0 hSw; (try dsimp only at hSw); go_simp; try with_reducible rfl)
  try simp only [Act.put, List.setIfInBounds_toArray, List.set_cons_zero, List.set_cons_succ, List.getElem_toArray, List.getElem_cons_zero, List.getElem_cons_succ]
  refine wpAnyH_done (by kernel_rfl) ?_ _
  have F : AnsLook w.heap.size W (fillL L2 (L1 i)) (.returned (.slice Y yn yc)) w4 :=
    look_new (w := W) (Own.lower oy (show W.drew.heap.size ≤ w3.heap.size from b1'.size)) (next_trans ((Below.refl _ _).drew : Below W.heap.size W W.drew) (next_trans b1' b2'))
  have HF := Lib.hid F
  clear F oy s1 b1' b2' HL1 LU p1 p2 x1 x2
  go_wp2
  go_ret
  exact HF.out

/-- then: two new variables hold the look-ups -/
theorem thenC (g1 g2 : Nat) (lb1 lb2 : Array Value) (w : World) :
    Calls Try.prog 75 #[.func (.func g1) #[] lb1, .func (.func g2) #[] lb2] w fun e w' => e = .returned (.func (.func 113) #[] #[.pointer (some ⟨w.heap.size + 1, 0, none⟩), .pointer (some ⟨w.heap.size, 0, none⟩)]) ∧ w' = (w.alloc (.cells #[.func (.func g1) #[] lb1] 66)).alloc (.cells #[.func (.func g2) #[] lb2] 66) := by
  have hmf : ∀ (fn : Fn) (first cap : Array Value) (w : World), (Instr.makeFunc fn first cap).run Try.prog w = .ok (.func fn first cap) w := fun _ _ _ _ => rfl
  go_enter Try.func75, Try.ntmps75
  go_wp2
  go_ret
  exact ⟨rfl, rfl⟩
/-- the same, without the addresses -/
def AnsThen (w : World) (g1 g2 : Nat) (lb1 lb2 : Array Value) (e : Ending) (w' : World) : Prop :=
  ∃ b1 b2, e = .returned (.func (.func 113) #[] #[.pointer (some ⟨b2, 0, none⟩), .pointer (some ⟨b1, 0, none⟩)]) ∧ w.heap.size ≤ b1 ∧ w.heap.size ≤ b2 ∧ w'.cell? ⟨b1, 0, none⟩ = some (.func (.func g1) #[] lb1) ∧ w'.cell? ⟨b2, 0, none⟩ = some (.func (.func g2) #[] lb2) ∧ Below w.heap.size w w'
theorem thenB (g1 g2 : Nat) (lb1 lb2 : Array Value) (w : World) :
    Calls Try.prog 75 #[.func (.func g1) #[] lb1, .func (.func g2) #[] lb2] w (AnsThen w g1 g2 lb1 lb2) :=
  (thenC g1 g2 lb1 lb2 w).mono fun e w' ⟨h1, h2⟩ => by
    subst h2
    refine ⟨_, _, h1, Nat.le_refl _, Nat.le_succ _, ((Row.new w _ _).alloc _).cell 0, ?_, ((Below.refl _ _).alloc (Nat.le_refl _) _).alloc (by simp) _⟩
    simp
end Go.Proofs.Ytkmhnkljigncmaa.thn
end

section
/-
  A REGION THAT DRAWS ITS ORDER AND ENDS IN STORES TO CELLS THAT IT LOADS ('u.a, u.b = f(u.a), f(u.b)'): what is held of the world (S) is asked behind each operation but the late ones (the stores), and a load may be taken first where every late operation waits for it. Over any program. By an AI agent.
-/
namespace Go.Proofs.Ytkmhnkljigncmaa.heldT
section
variable {P : Program} {md : Region.Mode} {ops : Array Oper} {Q : Exit → Act → World → Prop} {S : World → Prop} {late : Nat → Bool}

/-- whatever order is picked from here on; each operation that is not late keeps S -/
def AnyT (P : Program) (md : Region.Mode) (ops : Array Oper) (Q : Exit → Act → World → Prop) (S : World → Prop) (late : Nat → Bool) : Nat → Array Bool → Act → World → Prop
  | 0, listed, a, w => Region.ready md ops listed = [] ∧ Q .normal a w
  | fuel + 1, listed, a, w => (Region.ready md ops listed = [] → Q .normal a w) ∧
    ∀ i ∈ Region.ready md ops listed, wpOp P ops Q i (fun a' w' => (late i = false → S w → S w') ∧ AnyT P md ops Q S late fuel (listed.setIfInBounds i true) a' w') a w
theorem AnyT.any : ∀ (fuel : Nat) (listed : Array Bool) (a : Act) (w : World), AnyT P md ops Q S late fuel listed a w → wpAny P md ops Q fuel listed a w
  | 0, _, _, _, h => h
  | fuel + 1, _, _, _, h => ⟨h.1, fun i hi => wpOp_mono (fun a' w' h' => AnyT.any fuel _ a' w' h'.2) (h.2 i hi)⟩

/-- every late operation that has not come up waits for number i -/
def Waits (md : Region.Mode) (ops : Array Oper) (late : Nat → Bool) (listed : Array Bool) (i : Nat) : Prop :=
  ∀ j o, ops[j]? = some o → late j = true → listed.getD j true = false → ∃ e ∈ o.after, Region.binds md e = true ∧ e.on = i
def waitsB (md : Region.Mode) (ops : Array Oper) (late : Nat → Bool) (listed : Array Bool) (i : Nat) : Bool :=
  (List.range ops.size).all fun j => !late j || listed.getD j true || ((ops[j]?).map fun o => o.after.any fun e => Region.binds md e && e.on == i).getD false
theorem waits_of {listed : Array Bool} {i : Nat} (h : waitsB md ops late listed i = true) : Waits md ops late listed i := by
  intro j o ho hl hu
  have hj : j < ops.size := by
    rcases Nat.lt_or_ge j ops.size with h' | h'
    · exact h'
    · rw [Array.getElem?_eq_none h'] at ho; cases ho
  have := List.all_eq_true.1 h j (List.mem_range.2 hj)
  rw [hl, hu, ho] at this
  simp only [Bool.not_true, Bool.false_or, Option.map_some, Option.getD_some, Array.any_eq_true', Bool.and_eq_true, beq_iff_eq] at this
  exact this
theorem AnyT.first {i : Nat} {oi : Oper} {v : Value} (hi : ops[i]? = some oi) (hsel : ∀ (j : Nat) (o : Oper) cs b, ops[j]? = some o → o.op ≠ .select cs b) (hQ : ∀ c a w, Q (.panic c) (a.put oi.dst v) w → Q (.panic c) a w) :
    ∀ (fuel : Nat) (listed : Array Bool) (a : Act) (w : World),
      (∀ j oj, ops[j]? = some oj → j ≠ i → listed.getD j true = false → (∀ e ∈ oj.after, Region.binds md e = true → e.on ≠ i) → oi.apart ops oj = true) → Waits md ops late listed i →
      i ∈ Region.ready md ops listed → YieldsIf P ops S oi v a → S w → AnyT P md ops Q S late fuel (listed.setIfInBounds i true) (a.put oi.dst v) w → AnyT P md ops Q S late (fuel + 1) listed a w := by
  intro fuel
  induction fuel with
  | zero =>
    intro listed a w _ _ hr hy hS H
    refine ⟨fun h => (by rw [h] at hr; cases hr), fun j hj => ?_⟩
    rcases Classical.em (j = i) with e | e
    · subst e; exact hy.wpOp hi hS ⟨fun _ h => h, H⟩
    · have := ready_mono hj e
      rw [H.1] at this
      cases this
  | succ fuel ih =>
    intro listed a w hfree hwait hr hy hS H
    refine ⟨fun h => (by rw [h] at hr; cases hr), fun j hj => ?_⟩
    rcases Classical.em (j = i) with e | hji
    · subst e; exact hy.wpOp hi hS ⟨fun _ h => h, H⟩
    have h1 := H.2 j (ready_mono hj hji)
    obtain ⟨hjun, oj, hoj, hall⟩ := mem_ready.1 hj
    have h0 := (mem_ready.1 hr).1
    have hnot : ∀ e ∈ oj.after, Region.binds md e = true → e.on ≠ i := fun e he hb heq => by
      have h1 := hall e he hb
      rw [heq] at h1
      rcases Nat.lt_or_ge i listed.size with h' | h'
      · simp [h'] at h0 h1; rw [h0] at h1; cases h1
      · simp [Array.getElem?_eq_none h'] at h1
    have hlj : late j = false := by
      cases e : late j with
      | false => rfl
      | true =>
        obtain ⟨x, hx, hb, ho⟩ := hwait j oj hoj e hjun
        exact absurd ho (hnot x hx hb)
    have far : ∀ {k : Nat}, j ≠ k → (listed.setIfInBounds j true).getD k true = false → listed.getD k true = false := fun hjk h => by rwa [getD_set_ne true hjk] at h
    have same : ∀ {k : Nat}, k = j → listed.getD k true = false := fun e => by rw [e]; exact hjun
    have un : ∀ (k : Nat), (listed.setIfInBounds j true).getD k true = false → listed.getD k true = false := fun k h => by
      rcases Classical.em (k = j) with e | e
      · exact same e
      · exact far (fun e' => e e'.symm) h
    have h2 := wpOp_putIf hoj (hfree j oj hoj hji hjun hnot) (fun cs b => hsel i oi cs b hi) (fun cs b => hsel j oj cs b hoj) hQ hy h1
    refine wpOp_mono (fun a' w' h3 => ⟨h3.2.1, ih (listed.setIfInBounds j true) a' w' (fun k ok hk hki hun hno => hfree k ok hk hki (un k hun) hno) (fun k o hk hl hu => hwait k o hk hl (un k hu)) (ready_mono hr (Ne.symm hji)) h3.1 (h3.2.1 hlj hS) ?_⟩) h2
    rw [Array.setIfInBounds_comm _ _ hji]
    exact h3.2.2
/-- take number i first: it yields v in every world that meets S, and every late one waits for it -/
theorem AnyT.take {i : Nat} {oi : Oper} {v : Value} {fuel : Nat} {listed : Array Bool} {a : Act} {w : World} (hi : ops[i]? = some oi) (hs : Region.noSelect ops = true) (hf : Region.free md ops listed i = true) (hw : waitsB md ops late listed i = true) (hr : (Region.ready md ops listed).contains i = true)
    (hQ : ∀ c a w, Q (.panic c) (a.put oi.dst v) w → Q (.panic c) a w) (hy : YieldsIf P ops S oi v a) (hS : S w) (h : AnyT P md ops Q S late fuel (listed.setIfInBounds i true) (a.put oi.dst v) w) : AnyT P md ops Q S late (fuel + 1) listed a w :=
  AnyT.first hi (Region.noSelect_spec hs) hQ fuel listed a w (Region.free_spec hi hf) (waits_of hw) (by simpa using hr) hy hS h
theorem AnyT.firstA {i : Nat} {oi : Oper} {v : Value} (hi : ops[i]? = some oi) (hsel : ∀ (j : Nat) (o : Oper) cs b, ops[j]? = some o → o.op ≠ .select cs b) (hQ : ∀ c a w, Q (.panic c) (a.put oi.dst v) w → Q (.panic c) a w) :
    ∀ (fuel : Nat) (listed : Array Bool) (a : Act) (w : World),
      (∀ j oj, ops[j]? = some oj → j ≠ i → listed.getD j true = false → (∀ e ∈ oj.after, Region.binds md e = true → e.on ≠ i) → oi.apart ops oj = true) →
      i ∈ Region.ready md ops listed → YieldsIf P ops (fun _ => True) oi v a → AnyT P md ops Q S late fuel (listed.setIfInBounds i true) (a.put oi.dst v) w → AnyT P md ops Q S late (fuel + 1) listed a w := by
  intro fuel
  induction fuel with
  | zero =>
    intro listed a w _ hr hy H
    refine ⟨fun h => (by rw [h] at hr; cases hr), fun j hj => ?_⟩
    rcases Classical.em (j = i) with e | e
    · subst e; exact hy.wpOp hi trivial ⟨fun _ h => h, H⟩
    · have := ready_mono hj e
      rw [H.1] at this
      cases this
  | succ fuel ih =>
    intro listed a w hfree hr hy H
    refine ⟨fun h => (by rw [h] at hr; cases hr), fun j hj => ?_⟩
    rcases Classical.em (j = i) with e | hji
    · subst e; exact hy.wpOp hi trivial ⟨fun _ h => h, H⟩
    have h1 := H.2 j (ready_mono hj hji)
    obtain ⟨hjun, oj, hoj, hall⟩ := mem_ready.1 hj
    have h0 := (mem_ready.1 hr).1
    have hnot : ∀ e ∈ oj.after, Region.binds md e = true → e.on ≠ i := fun e he hb heq => by
      have h1 := hall e he hb
      rw [heq] at h1
      rcases Nat.lt_or_ge i listed.size with h' | h'
      · simp [h'] at h0 h1; rw [h0] at h1; cases h1
      · simp [Array.getElem?_eq_none h'] at h1
    have un : ∀ (k : Nat), (listed.setIfInBounds j true).getD k true = false → listed.getD k true = false := fun k h => by
      rcases Classical.em (k = j) with e | e
      · rw [e]; exact hjun
      · rwa [getD_set_ne true (fun e' => e e'.symm)] at h
    have h2 := wpOp_putIf hoj (hfree j oj hoj hji hjun hnot) (fun cs b => hsel i oi cs b hi) (fun cs b => hsel j oj cs b hoj) hQ hy h1
    refine wpOp_mono (fun a' w' h3 => ⟨h3.2.1, ih (listed.setIfInBounds j true) a' w' (fun k ok hk hki hun hno => hfree k ok hk hki (un k hun) hno) (ready_mono hr (Ne.symm hji)) h3.1 ?_⟩) h2
    rw [Array.setIfInBounds_comm _ _ hji]
    exact h3.2.2
/-- take number i first: it yields v in whatever world -/
theorem AnyT.takeA {i : Nat} {oi : Oper} {v : Value} {fuel : Nat} {listed : Array Bool} {a : Act} {w : World} (hi : ops[i]? = some oi) (hs : Region.noSelect ops = true) (hf : Region.free md ops listed i = true) (hr : (Region.ready md ops listed).contains i = true)
    (hQ : ∀ c a w, Q (.panic c) (a.put oi.dst v) w → Q (.panic c) a w) (hy : YieldsIf P ops (fun _ => True) oi v a) (h : AnyT P md ops Q S late fuel (listed.setIfInBounds i true) (a.put oi.dst v) w) : AnyT P md ops Q S late (fuel + 1) listed a w :=
  AnyT.firstA hi (Region.noSelect_spec hs) hQ fuel listed a w (Region.free_spec hi hf) (by simpa using hr) hy h
/-- number i alone may come up: the way back is hidden behind K' -/
theorem AnyT.call {i : Nat} {o : Oper} {fuel : Nat} {listed : Array Bool} {a : Act} {w : World} (hr : Region.ready md ops listed = [i]) (ho : ops[i]? = some o)
    (h : ∀ K' : Act → World → Prop, Shut (∀ a w', (late i = false → S w → S w') → ((late i = false → S w → S w') → AnyT P md ops Q S late fuel (listed.setIfInBounds i true) a w') → K' a w') → if Region.wanted o (yielded ops a.tmps) = true then Oper.wp P o a w K' Q else K' (a.put o.dst undef) w) : AnyT P md ops Q S late (fuel + 1) listed a w :=
  ⟨fun h0 => absurd (hr ▸ h0) (by simp), fun j hj => by
    rw [hr, List.mem_singleton] at hj
    subst hj
    exact wpOp_step ho (fun K' hK => h K' (fun a w' hS hW => hK a w' ⟨hS, hW hS⟩))⟩
theorem AnyT.done {listed : Array Bool} {a : Act} {w : World} (hr : Region.ready md ops listed = []) (h : Q .normal a w) : ∀ fuel, AnyT P md ops Q S late fuel listed a w
  | 0 => ⟨hr, h⟩
  | _ + 1 => ⟨fun _ => h, by rw [hr]; simp⟩
theorem AnyT.start {id : Nat} {a : Act} {w : World} (late : Nat → Bool) (hm : P.follows .mixedOrders = true) (hS : S w.drew) (h : S w.drew → AnyT P .any ops Q S late ops.size (Array.replicate ops.size false) a w.drew) : (Code.region id ops true).wp P Q a w :=
  wp_region_any hm (AnyT.any _ _ _ _ (h hS))
end
end Go.Proofs.Ytkmhnkljigncmaa.heldT
end

section
/-
  CONTRACT: impl.unification.replace: one variable replaced in both terms and in the look-up; it panics where one becomes too long. Conditions: the slices read as lists ('Seg'), the terms have at most 60 numbers. By an AI agent.
-/
namespace Go.Proofs.Ytkmhnkljigncmaa.unifRep
open Go.RowKit Go.Proofs.Ytkmhnkljigncmaa.base Go.Proofs.Ytkmhnkljigncmaa.ints Go.Proofs.Ytkmhnkljigncmaa.sig Go.Proofs.Ytkmhnkljigncmaa.cursor Go.Proofs.Ytkmhnkljigncmaa.marks Go.Proofs.Ytkmhnkljigncmaa.app Go.Proofs.Ytkmhnkljigncmaa.sym Go.Proofs.Ytkmhnkljigncmaa.segs Go.Proofs.Ytkmhnkljigncmaa.fillMath Go.Proofs.Ytkmhnkljigncmaa.gives Go.Proofs.Ytkmhnkljigncmaa.unifMath Go.Proofs.Ytkmhnkljigncmaa.look Go.Proofs.Ytkmhnkljigncmaa.thn Go.Proofs.Ytkmhnkljigncmaa.heldT
set_option maxRecDepth 100000

/-- no cell holds a number -/
def NoInt (cs : Array Value) : Prop := ∀ (j : Nat) (z : Int), cs[j]? ≠ some (Value.int .i64 z)
theorem noInt4 {a b c d : Value} (h1 : ∀ z : Int, a ≠ .int .i64 z) (h2 : ∀ z : Int, b ≠ .int .i64 z) (h3 : ∀ z : Int, c ≠ .int .i64 z) (h4 : ∀ z : Int, d ≠ .int .i64 z) : NoInt #[a, b, c, d] := fun j z e => by
  rcases j with _ | _ | _ | _ | j
  · exact h1 z (by simpa using e)
  · exact h2 z (by simpa using e)
  · exact h3 z (by simpa using e)
  · exact h4 z (by simpa using e)
  · simp at e
theorem seg_ne {w : World} {B b off n : Nat} {xs : List Int} {g : Nat} {t : TypeId} {cs : Array Value} (h : Seg w B (some ⟨b, off, none⟩) n xs) (hn : 0 < n) (hr : Row w g t cs) (hno : NoInt cs) : b ≠ g := by
  rintro rfl
  obtain ⟨b', off', e, _, hc⟩ := h.2 hn
  injection e with e
  injection e with e1 e2
  subst e1 e2
  have := hc 0 hn
  rw [hr.cell] at this
  exact hno _ _ this
theorem segE {w w' : World} {n : Nat} {A : Option Addr} {xs : List Int} {g : Nat} {t : TypeId} {cs : Array Value} (h : Seg w w.heap.size A n xs) (hr : Row w g t cs) (hno : NoInt cs) (hg : w.grownBy w' (some g)) : Seg w' w'.heap.size A n xs := by
  refine ⟨h.1, fun hn => ?_⟩
  obtain ⟨b, off, rfl, hb, hc⟩ := h.2 hn
  have hne := seg_ne h hn hr hno
  exact ⟨b, off, rfl, Nat.lt_of_lt_of_le hb hg.size, fun j hj => hg.cell (hc j hj) (by show some b ≠ some g; exact fun e => hne (by injection e))⟩

/-- the unification in block g stands at x, y and the look-up L -/
structure Un (w : World) (g : Nat) (A : Option Addr) (n c : Nat) (sg : List Int) (P : Option Addr) (pn pc : Nat) (x : List Int) (Q : Option Addr) (qn qc : Nat) (y : List Int) (gl : Nat) (lb : Array Value) (L : Nat → List Int) : Prop where
  row : Row w g 68 #[.slice A n c, .slice P pn pc, .slice Q qn qc, .func (.func gl) #[] lb]
  s : Seg w w.heap.size A n sg
  p : Seg w w.heap.size P pn x
  q : Seg w w.heap.size Q qn y
  kp : Cap P pn pc
  kq : Cap Q qn qc
  eg : ∀ args w, (callFunc gl args).run Try.prog w = .ok (.enter gl args) w
  lk : LooksE (some g) gl lb w L 24
section
variable {w w' : World} {g : Nat} {A : Option Addr} {n c : Nat} {sg : List Int} {P : Option Addr} {pn pc : Nat} {x : List Int} {Q : Option Addr} {qn qc : Nat} {y : List Int} {gl : Nat} {lb : Array Value} {L : Nat → List Int}
theorem un_noInt : NoInt #[.slice A n c, .slice P pn pc, .slice Q qn qc, .func (.func gl) #[] lb] := noInt4 (fun _ e => by cases e) (fun _ e => by cases e) (fun _ e => by cases e) (fun _ e => by cases e)
theorem Un.next (h : Un w g A n c sg P pn pc x Q qn qc y gl lb L) (hb : Below w.heap.size w w') : Un w' g A n c sg P pn pc x Q qn qc y gl lb L :=
  ⟨h.row.next hb, h.s.next hb, h.p.next hb, h.q.next hb, h.kp, h.kq, h.eg, h.lk.next (grown_below hb _)⟩
theorem Un.c0 (h : Un w g A n c sg P pn pc x Q qn qc y gl lb L) : w.cell? ⟨g, 0, none⟩ = some (.slice A n c) := h.row.cell 0
theorem Un.c1 (h : Un w g A n c sg P pn pc x Q qn qc y gl lb L) : w.cell? ⟨g, 1, none⟩ = some (.slice P pn pc) := h.row.cell 1
theorem Un.c2 (h : Un w g A n c sg P pn pc x Q qn qc y gl lb L) : w.cell? ⟨g, 2, none⟩ = some (.slice Q qn qc) := h.row.cell 2
theorem Un.c3 (h : Un w g A n c sg P pn pc x Q qn qc y gl lb L) : w.cell? ⟨g, 3, none⟩ = some (.func (.func gl) #[] lb) := h.row.cell 3
end

/-- the look-up of one replacement -/
theorem lookOnce (o : Option Nat) (bi bt i : Nat) (T : Option Addr) (tn tc : Nat) (t : List Int) (w : World) (ni : o ≠ some bi) (nt : o ≠ some bt) (ci : w.cell? ⟨bi, 0, none⟩ = some (.int .i64 (i : Int))) (ct : w.cell? ⟨bt, 0, none⟩ = some (.slice T tn tc)) (hs : Seg w w.heap.size T tn t) (ht : 1 ≤ tn) (hc : Cap T tn tc) (hi : i < 24)
    (hk : ∀ W, w.grownBy W o → Seg W W.heap.size T tn t) :
    LooksE o 146 #[.pointer (some ⟨bi, 0, none⟩), .pointer (some ⟨bt, 0, none⟩)] w (ones i t) 24 := by
  intro W j hg hj
  have pi : W.cell? ⟨bi, 0, none⟩ = some (.int .i64 (i : Int)) := hg.cell ci (fun e => ni e.symm)
  have pt : W.cell? ⟨bt, 0, none⟩ = some (.slice T tn tc) := hg.cell ct (fun e => nt e.symm)
  show Calls Try.prog 146 #[.int .i64 (j : Int), .pointer (some ⟨bi, 0, none⟩), .pointer (some ⟨bt, 0, none⟩)] W _
  have HB : Hid (∀ k, blk T = some k → k < w.heap.size ∨ W.heap.size ≤ k) := Lib.hid fun k e => by
    obtain ⟨b, off, rfl, hb, _⟩ := hs.2 ht
    injection e with e
    exact .inl (by rw [← e]; exact hb)
  by_cases e : j = i
  · subst e
    have F : AnsLook w.heap.size W (ones j t j) (.returned (.slice T tn tc)) W := ⟨T, tn, tc, rfl, by unfold ones; rw [if_pos rfl]; exact hk W hg, hc, HB.out, Below.refl _ _⟩
    have HF := Lib.hid F
    clear F hg hk hs ci ct
    go_enter Try.func146, Try.ntmps146
    go_wp2
    go_ret
    exact HF.out
  · have hne : ((j : Int) == (i : Int)) = false := by simp; exact fun h => e (by omega)
    have HE := Lib.hid (show ones i t j = vt j by unfold ones; rw [if_neg e])
    clear hg hk hs ci ct
    go_enter Try.func146, Try.ntmps146
    go_wp2_with fail
    refine (varTerm (j : Int) W (by omega) (by omega)).mono ?_
    rintro e w' ⟨A, n, c, rfl, ho, hb⟩
    have F : AnsLook w.heap.size W (ones i t j) (.returned (.slice A n c)) w' := by rw [HE.out]; exact look_new ho hb
    have HF := Lib.hid F
    clear F ho hb
    go_wp2
    go_ret
    exact HF.out

/-- what replace leaves: the new state, or a panic where a term is too long -/
def AnsRep (w : World) (g : Nat) (A : Option Addr) (n c : Nat) (sg x y : List Int) (L : Nat → List Int) (e : Ending) (w' : World) : Prop :=
  w.grownBy w' (some g) ∧ ((x.length ≤ 60 ∧ y.length ≤ 60 ∧ e = .returned (.tuple #[]) ∧ ∃ P pn pc Q qn qc gl lb, Un w' g A n c sg P pn pc x Q qn qc y gl lb L) ∨
    (¬ (x.length ≤ 60 ∧ y.length ≤ 60) ∧ ∃ u v, e = .panicked [{ v := .iface u v, recovered := false }]))
/-- behind the assignment -/
def Put (w : World) (g : Nat) (A : Option Addr) (n c : Nat) (sg x y : List Int) (L : Nat → List Int) (w' : World) : Prop :=
  w.grownBy w' (some g) ∧ ∃ P pn pc Q qn qc gl lb, Un w' g A n c sg P pn pc x Q qn qc y gl lb L
theorem put_mk {w w2 w3 w4 w5 : World} {g : Nat} {A : Option Addr} {n c : Nat} {sg : List Int} {P : Option Addr} {pn pc : Nat} {x : List Int} {Q : Option Addr} {qn qc : Nat} {y : List Int} {gl : Nat} {lb : Array Value} {L : Nat → List Int} (h : Un w g A n c sg P pn pc x Q qn qc y gl lb L)
    {X : Option Addr} {xn xc : Nat} {x' : List Int} {Y : Option Addr} {yn yc : Nat} {y' : List Int} {g' : Nat} {lb' : Array Value} {L' : Nat → List Int} (b2 : Below w.heap.size w w2) (b3 : Below w2.heap.size w2 w3) (b4 : Below w3.heap.size w3 w4) (b5 : Below w4.heap.size w4 w5)
    (ox : Own w3 w2.heap.size (.slice X xn xc) x') (oy : Own w4 w3.heap.size (.slice Y yn yc) y') (eg : ∀ args w, (callFunc g' args).run Try.prog w = .ok (.enter g' args) w) (lk : LooksE (some g) g' lb' w5 L' 24) :
    Put w g A n c sg x' y' L' (((w5.setCell ⟨g, 1, none⟩ (.slice X xn xc)).setCell ⟨g, 2, none⟩ (.slice Y yn yc)).setCell ⟨g, 3, none⟩ (.func (.func g') #[] lb')) := by
  have b := next_trans b2 (next_trans b3 (next_trans b4 b5))
  have h5 := h.next b
  have hg : w5.grownBy (((w5.setCell ⟨g, 1, none⟩ (.slice X xn xc)).setCell ⟨g, 2, none⟩ (.slice Y yn yc)).setCell ⟨g, 3, none⟩ (.func (.func g') #[] lb')) (some g) := grown_put (grown_put (grown_put (World.grownBy.refl _ _) _ _) _ _) _ _
  refine ⟨grown_trans (grown_below b _) hg, X, xn, xc, Y, yn, yc, g', lb', ?_, segE h5.s h5.row un_noInt hg, segE ((Own.seg ox).next (next_trans b4 b5)) h5.row un_noInt hg, segE ((Own.seg oy).next b5) h5.row un_noInt hg, own_cap ox, own_cap oy, eg, lk.next hg⟩
  have r := ((h5.row.put 1 (.slice X xn xc)).put 2 (.slice Y yn yc)).put 3 (.func (.func g') #[] lb')
  simpa using r

set_option maxHeartbeats 4000000 in
theorem replace (g : Nat) (A P Q T : Option Addr) (n c pn pc qn qc tn tc gl : Nat) (lb : Array Value) (sg x y t : List Int) (L : Nat → List Int) (i : Nat) (w : World) (h : Un w g A n c sg P pn pc x Q qn qc y gl lb L) (hs : Seg w w.heap.size T tn t) (hc : Cap T tn tc) (ht : 1 ≤ tn) (ht60 : tn ≤ 60) (hi : i < 24) (hx : pn ≤ 60) (hy : qn ≤ 60)
    (vx : ∀ z ∈ x, -24 ≤ z) (vy : ∀ z ∈ y, -24 ≤ z) (hL : ∀ j, j < 24 → (L j).length ≤ 60) (vL : ∀ j, j < 24 → ∀ z ∈ L j, -24 ≤ z) :
    Calls Try.prog 136 #[.pointer (some ⟨g, 0, none⟩), .int .i64 (i : Int), .slice T tn tc] w (AnsRep w g A n c sg (fillL (ones i t) x) (fillL (ones i t) y) (fun m => fillL (ones i t) (L m))) := by
  have hgz := h.row.lt
  obtain ⟨W, hW⟩ : ∃ W, W = (w.alloc (.cells #[.int .i64 (i : Int)] 2)).alloc (.cells #[.slice T tn tc] 24) := ⟨_, rfl⟩
  have bW : Below w.heap.size w W := by rw [hW]; exact ((Below.refl _ _).alloc (Nat.le_refl _) _).alloc (by simp) _
  have ri : Row W w.heap.size 2 #[.int .i64 (i : Int)] := by rw [hW]; exact (Row.new w _ _).alloc _
  have rt : Row W (w.heap.size + 1) 24 #[.slice T tn tc] := by
    rw [hW]
    have := Row.new (w.alloc (.cells #[.int .i64 (i : Int)] 2)) 24 #[.slice T tn tc]
    simpa using this
  have U := h.next bW
  have hsW := hs.next bW
  have lt : t.length ≤ 60 := by rw [hs.1]; exact ht60
  have one60 : ∀ j, (ones i t j).length ≤ 60 := fun j => by unfold ones; split; exact lt; simp [vt]
  have LO : LooksE (some g) 146 #[.pointer (some ⟨w.heap.size, 0, none⟩), .pointer (some ⟨w.heap.size + 1, 0, none⟩)] W (ones i t) 24 :=
    lookOnce (some g) _ _ i T tn tc t W (by simp; omega) (by simp; omega) (ri.cell 0) (rt.cell 0) hsW ht hc hi (fun W' hg => segE hsW U.row un_noInt hg)
  have eo := enters_of Try.func146 (by kernel_rfl) rfl
  have et := enters_of Try.func113 (by kernel_rfl) rfl
  have M1 := Lib.hid (fun j => Nat.le_trans (one60 j) (show 60 ≤ 4096 by omega))
  have LF1 := Lib.hid (fun (w2 : World) (b : Below W.heap.size W w2) => fill _ _ eo P pn pc x (ones i t) w2 (LO.next (grown_below b _)).looks (U.next b).p hx vx M1.out)
  have LF2 := Lib.hid (fun (w3 : World) (b : Below W.heap.size W w3) => fill _ _ eo Q qn qc y (ones i t) w3 (LO.next (grown_below b _)).looks (U.next b).q hy vy M1.out)
  have c1 := U.c1
  have c2 := U.c2
  have c3 := U.c3
  have HW := Lib.hid hW
  have HU := Lib.hid U
  have HLO := Lib.hid LO
  have HBW := Lib.hid bW
  have hmf : ∀ (fn : Fn) (first cap : Array Value) (w : World), (Instr.makeFunc fn first cap).run Try.prog w = .ok (.func fn first cap) w := fun _ _ _ _ => rfl
  clear hW bW ri rt U hsW LO h hs
  go_enter Try.func136, Try.ntmps136
  go_wp2_with fail
  rw [← HW.out]
  go_cut [] (fun wx => Put W g A n c sg (fillL (ones i t) x) (fillL (ones i t) y) (fun m => fillL (ones i t) (L m)) wx)
  case first =>
    have BD : Hid (Below W.heap.size W W.drew) := Lib.hid (Below.refl _ _).drew
    have HV := Lib.hid vL
    have HL60 := Lib.hid hL
    clear vx vy one60 HW hL vL
    -- region
    refine AnyT.start (S := (fun w' => w'.cell? ⟨g, 1, none⟩ = some (.slice P pn pc) ∧ w'.cell? ⟨g, 2, none⟩ = some (.slice Q qn qc) ∧ w'.cell? ⟨g, 3, none⟩ = some (.func (.func gl) #[] lb))) (fun i => decide (21 ≤ i)) (by kernel_rfl) ⟨c1, c2, c3⟩ (fun hHeld => ?_)
    refine AnyT.takeA (i := 0) (v := ?_) rfl (by kernel_rfl) (by kernel_rfl) (by kernel_rfl) (fun _ _ _ h => h) (Or.inl ⟨by rfl, ?_⟩) ?_
    rotate_left 1
    · (intro w0 _; go_simp; try with_reducible rfl)
    try simp only [Act.put, List.setIfInBounds_toArray, List.set_cons_zero, List.set_cons_succ, List.getElem_toArray, List.getElem_cons_zero, List.getElem_cons_succ]
    refine AnyT.takeA (i := 1) (v := ?_) rfl (by kernel_rfl) (by kernel_rfl) (by kernel_rfl) (fun _ _ _ h => h) (Or.inl ⟨by rfl, ?_⟩) ?_
    rotate_left 1
    · (intro w0 _; go_simp; try with_reducible rfl)
    try simp only [Act.put, List.setIfInBounds_toArray, List.set_cons_zero, List.set_cons_succ, List.getElem_toArray, List.getElem_cons_zero, List.getElem_cons_succ]
    refine AnyT.takeA (i := 2) (v := ?_) rfl (by kernel_rfl) (by kernel_rfl) (by kernel_rfl) (fun _ _ _ h => h) (Or.inl ⟨by rfl, ?_⟩) ?_
    rotate_left 1
    · (intro w0 _; go_simp; try with_reducible rfl)
    try simp only [Act.put, List.setIfInBounds_toArray, List.set_cons_zero, List.set_cons_succ, List.getElem_toArray, List.getElem_cons_zero, List.getElem_cons_succ]
    refine AnyT.takeA (i := 3) (v := ?_) rfl (by kernel_rfl) (by kernel_rfl) (by kernel_rfl) (fun _ _ _ h => h) (Or.inl ⟨by rfl, ?_⟩) ?_
    rotate_left 1
    · (intro w0 _; go_simp; try with_reducible rfl)
    try simp only [Act.put, List.setIfInBounds_toArray, List.set_cons_zero, List.set_cons_succ, List.getElem_toArray, List.getElem_cons_zero, List.getElem_cons_succ]
    refine AnyT.takeA (i := 4) (v := ?_) rfl (by kernel_rfl) (by kernel_rfl) (by kernel_rfl) (fun _ _ _ h => h) (Or.inl ⟨by rfl, ?_⟩) ?_
    rotate_left 1
    · (intro w0 _; go_simp; try with_reducible rfl)
    try simp only [Act.put, List.setIfInBounds_toArray, List.set_cons_zero, List.set_cons_succ, List.getElem_toArray, List.getElem_cons_zero, List.getElem_cons_succ]
    refine AnyT.takeA (i := 5) (v := ?_) rfl (by kernel_rfl) (by kernel_rfl) (by kernel_rfl) (fun _ _ _ h => h) (Or.inl ⟨by rfl, ?_⟩) ?_
    rotate_left 1
    · (intro w0 _; go_simp; try with_reducible rfl)
    try simp only [Act.put, List.setIfInBounds_toArray, List.set_cons_zero, List.set_cons_succ, List.getElem_toArray, List.getElem_cons_zero, List.getElem_cons_succ]
    refine AnyT.takeA (i := 6) (v := ?_) rfl (by kernel_rfl) (by kernel_rfl) (by kernel_rfl) (fun _ _ _ h => h) (Or.inl ⟨by rfl, ?_⟩) ?_
    rotate_left 1
    · (intro w0 _; go_simp; try with_reducible rfl)
    try simp only [Act.put, List.setIfInBounds_toArray, List.set_cons_zero, List.set_cons_succ, List.getElem_toArray, List.getElem_cons_zero, List.getElem_cons_succ]
    refine AnyT.take (i := 7) (v := ?_) rfl (by kernel_rfl) (by kernel_rfl) (by kernel_rfl) (by kernel_rfl) (fun _ _ _ h => h) (Or.inl ⟨by rfl, ?_⟩) (by assumption) ?_
    rotate_left 1
    · (intro w0 hSw; (try dsimp only at hSw); go_simp; try with_reducible rfl)
    try simp only [Act.put, List.setIfInBounds_toArray, List.set_cons_zero, List.set_cons_succ, List.getElem_toArray, List.getElem_cons_zero, List.getElem_cons_succ]
    refine AnyT.takeA (i := 9) (v := ?_) rfl (by kernel_rfl) (by kernel_rfl) (by kernel_rfl) (fun _ _ _ h => h) (Or.inl ⟨by rfl, ?_⟩) ?_
    rotate_left 1
    · (intro w0 _; go_simp; try with_reducible rfl)
    try simp only [Act.put, List.setIfInBounds_toArray, List.set_cons_zero, List.set_cons_succ, List.getElem_toArray, List.getElem_cons_zero, List.getElem_cons_succ]
    refine AnyT.takeA (i := 10) (v := ?_) rfl (by kernel_rfl) (by kernel_rfl) (by kernel_rfl) (fun _ _ _ h => h) (Or.inl ⟨by rfl, ?_⟩) ?_
    rotate_left 1
    · (intro w0 _; go_simp; try with_reducible rfl)
    try simp only [Act.put, List.setIfInBounds_toArray, List.set_cons_zero, List.set_cons_succ, List.getElem_toArray, List.getElem_cons_zero, List.getElem_cons_succ]
    refine AnyT.takeA (i := 11) (v := ?_) rfl (by kernel_rfl) (by kernel_rfl) (by kernel_rfl) (fun _ _ _ h => h) (Or.inl ⟨by rfl, ?_⟩) ?_
    rotate_left 1
    · (intro w0 _; go_simp; try with_reducible rfl)
    try simp only [Act.put, List.setIfInBounds_toArray, List.set_cons_zero, List.set_cons_succ, List.getElem_toArray, List.getElem_cons_zero, List.getElem_cons_succ]
    refine AnyT.takeA (i := 12) (v := ?_) rfl (by kernel_rfl) (by kernel_rfl) (by kernel_rfl) (fun _ _ _ h => h) (Or.inl ⟨by rfl, ?_⟩) ?_
    rotate_left 1
    · (intro w0 _; go_simp; try with_reducible rfl)
    try simp only [Act.put, List.setIfInBounds_toArray, List.set_cons_zero, List.set_cons_succ, List.getElem_toArray, List.getElem_cons_zero, List.getElem_cons_succ]
    refine AnyT.take (i := 13) (v := ?_) rfl (by kernel_rfl) (by kernel_rfl) (by kernel_rfl) (by kernel_rfl) (fun _ _ _ h => h) (Or.inl ⟨by rfl, ?_⟩) (by assumption) ?_
    rotate_left 1
    · (intro w0 hSw; (try dsimp only at hSw); go_simp; try with_reducible rfl)
    try simp only [Act.put, List.setIfInBounds_toArray, List.set_cons_zero, List.set_cons_succ, List.getElem_toArray, List.getElem_cons_zero, List.getElem_cons_succ]
    refine AnyT.takeA (i := 15) (v := ?_) rfl (by kernel_rfl) (by kernel_rfl) (by kernel_rfl) (fun _ _ _ h => h) (Or.inl ⟨by rfl, ?_⟩) ?_
    rotate_left 1
    · (intro w0 _; go_simp; try with_reducible rfl)
    try simp only [Act.put, List.setIfInBounds_toArray, List.set_cons_zero, List.set_cons_succ, List.getElem_toArray, List.getElem_cons_zero, List.getElem_cons_succ]
    refine AnyT.takeA (i := 16) (v := ?_) rfl (by kernel_rfl) (by kernel_rfl) (by kernel_rfl) (fun _ _ _ h => h) (Or.inl ⟨by rfl, ?_⟩) ?_
    rotate_left 1
    · (intro w0 _; go_simp; try with_reducible rfl)
    try simp only [Act.put, List.setIfInBounds_toArray, List.set_cons_zero, List.set_cons_succ, List.getElem_toArray, List.getElem_cons_zero, List.getElem_cons_succ]
    refine AnyT.takeA (i := 17) (v := ?_) rfl (by kernel_rfl) (by kernel_rfl) (by kernel_rfl) (fun _ _ _ h => h) (Or.inl ⟨by rfl, ?_⟩) ?_
    rotate_left 1
    · (intro w0 _; go_simp; try with_reducible rfl)
    try simp only [Act.put, List.setIfInBounds_toArray, List.set_cons_zero, List.set_cons_succ, List.getElem_toArray, List.getElem_cons_zero, List.getElem_cons_succ]
    refine AnyT.take (i := 18) (v := ?_) rfl (by kernel_rfl) (by kernel_rfl) (by kernel_rfl) (by kernel_rfl) (fun _ _ _ h => h) (Or.inl ⟨by rfl, ?_⟩) (by assumption) ?_
    rotate_left 1
    · (intro w0 hSw; (try dsimp only at hSw); go_simp; try with_reducible rfl)
    try simp only [Act.put, List.setIfInBounds_toArray, List.set_cons_zero, List.set_cons_succ, List.getElem_toArray, List.getElem_cons_zero, List.getElem_cons_succ]
    refine AnyT.takeA (i := 19) (v := ?_) rfl (by kernel_rfl) (by kernel_rfl) (by kernel_rfl) (fun _ _ _ h => h) (Or.inl ⟨by rfl, ?_⟩) ?_
    rotate_left 1
    · (intro w0 _; go_simp; try with_reducible rfl)
    try simp only [Act.put, List.setIfInBounds_toArray, List.set_cons_zero, List.set_cons_succ, List.getElem_toArray, List.getElem_cons_zero, List.getElem_cons_succ]
    refine AnyT.call (i := 8) (by kernel_rfl) rfl (fun K hK => ?_)
    try simp only [Act.put, List.setIfInBounds_toArray, List.set_cons_zero, List.set_cons_succ, List.getElem_toArray, List.getElem_cons_zero, List.getElem_cons_succ]
    rw [if_pos (by rfl)]
    go_simp
    refine (LF1.out W.drew BD.out).mono ?_; rintro e w3 ⟨X, xn, xc, rfl, ox, b3⟩; have U3 := HU.out.next (next_trans BD.out b3); have d1 := U3.c1; have d2 := U3.c2; have d3 := U3.c3; clear U3; go_wp2_with fail
    refine hK.out _ _ (fun _ _ => ?_) (fun hKeep => ?_)
    · first | assumption | exact ⟨by assumption, by assumption⟩ | exact ⟨by assumption, by assumption, by assumption⟩
    replace hHeld := hKeep (by rfl) hHeld
    clear hK K hKeep
    try simp only [Act.put, List.setIfInBounds_toArray, List.set_cons_zero, List.set_cons_succ, List.getElem_toArray, List.getElem_cons_zero, List.getElem_cons_succ]
    refine AnyT.call (i := 14) (by kernel_rfl) rfl (fun K hK => ?_)
    try simp only [Act.put, List.setIfInBounds_toArray, List.set_cons_zero, List.set_cons_succ, List.getElem_toArray, List.getElem_cons_zero, List.getElem_cons_succ]
    rw [if_pos (by rfl)]
    go_simp
    refine (LF2.out w3 (next_trans BD.out b3)).mono ?_; rintro e w4 ⟨Y, yn, yc, rfl, oy, b4⟩; have U4 := HU.out.next (next_trans (next_trans BD.out b3) b4); have e1 := U4.c1; have e2 := U4.c2; have e3 := U4.c3; clear U4; go_wp2_with fail
    refine hK.out _ _ (fun _ _ => ?_) (fun hKeep => ?_)
    · first | assumption | exact ⟨by assumption, by assumption⟩ | exact ⟨by assumption, by assumption, by assumption⟩
    replace hHeld := hKeep (by rfl) hHeld
    clear hK K hKeep
    try simp only [Act.put, List.setIfInBounds_toArray, List.set_cons_zero, List.set_cons_succ, List.getElem_toArray, List.getElem_cons_zero, List.getElem_cons_succ]
    refine AnyT.call (i := 20) (by kernel_rfl) rfl (fun K hK => ?_)
    try simp only [Act.put, List.setIfInBounds_toArray, List.set_cons_zero, List.set_cons_succ, List.getElem_toArray, List.getElem_cons_zero, List.getElem_cons_succ]
    rw [if_pos (by rfl)]
    go_simp
    refine (thenB gl _ lb _ w4).mono ?_; rintro e w5 ⟨b1, b2, rfl, z1, z2, k1, k2, b5⟩; have U5 := HU.out.next (next_trans (next_trans (next_trans BD.out b3) b4) b5); have f1 := U5.c1; have f2 := U5.c2; have f3 := U5.c3; have fr1 := U5.row.free 1; have fr2 := U5.row.free 2; have fr3 := U5.row.free 3; clear U5; go_wp2_with fail
    refine hK.out _ _ (fun _ _ => ?_) (fun hKeep => ?_)
    · first | assumption | exact ⟨by assumption, by assumption⟩ | exact ⟨by assumption, by assumption, by assumption⟩
    replace hHeld := hKeep (by rfl) hHeld
    clear hK K hKeep
    try simp only [Act.put, List.setIfInBounds_toArray, List.set_cons_zero, List.set_cons_succ, List.getElem_toArray, List.getElem_cons_zero, List.getElem_cons_succ]
    refine AnyT.call (i := 21) (by kernel_rfl) rfl (fun K hK => ?_)
    try simp only [Act.put, List.setIfInBounds_toArray, List.set_cons_zero, List.set_cons_succ, List.getElem_toArray, List.getElem_cons_zero, List.getElem_cons_succ]
    rw [if_pos (by rfl)]
    go_simp
    refine hK.out _ _ (fun h => by cases h) (fun _ => ?_)
    clear hK K
    try simp only [Act.put, List.setIfInBounds_toArray, List.set_cons_zero, List.set_cons_succ, List.getElem_toArray, List.getElem_cons_zero, List.getElem_cons_succ]
    refine AnyT.call (i := 22) (by kernel_rfl) rfl (fun K hK => ?_)
    try simp only [Act.put, List.setIfInBounds_toArray, List.set_cons_zero, List.set_cons_succ, List.getElem_toArray, List.getElem_cons_zero, List.getElem_cons_succ]
    rw [if_pos (by rfl)]
    go_simp
    refine hK.out _ _ (fun h => by cases h) (fun _ => ?_)
    clear hK K
    try simp only [Act.put, List.setIfInBounds_toArray, List.set_cons_zero, List.set_cons_succ, List.getElem_toArray, List.getElem_cons_zero, List.getElem_cons_succ]
    refine AnyT.call (i := 23) (by kernel_rfl) rfl (fun K hK => ?_)
    try simp only [Act.put, List.setIfInBounds_toArray, List.set_cons_zero, List.set_cons_succ, List.getElem_toArray, List.getElem_cons_zero, List.getElem_cons_succ]
    rw [if_pos (by rfl)]
    go_simp
    refine hK.out _ _ (fun h => by cases h) (fun _ => ?_)
    clear hK K
    try simp only [Act.put, List.setIfInBounds_toArray, List.set_cons_zero, List.set_cons_succ, List.getElem_toArray, List.getElem_cons_zero, List.getElem_cons_succ]
    refine AnyT.call (i := 24) (by kernel_rfl) rfl (fun K hK => ?_)
    try simp only [Act.put, List.setIfInBounds_toArray, List.set_cons_zero, List.set_cons_succ, List.getElem_toArray, List.getElem_cons_zero, List.getElem_cons_succ]
    rw [if_pos (by rfl)]
    go_simp
    refine hK.out _ _ (fun h => by cases h) (fun _ => ?_)
    clear hK K
    try simp only [Act.put, List.setIfInBounds_toArray, List.set_cons_zero, List.set_cons_succ, List.getElem_toArray, List.getElem_cons_zero, List.getElem_cons_succ]
    refine AnyT.call (i := 25) (by kernel_rfl) rfl (fun K hK => ?_)
    try simp only [Act.put, List.setIfInBounds_toArray, List.set_cons_zero, List.set_cons_succ, List.getElem_toArray, List.getElem_cons_zero, List.getElem_cons_succ]
    rw [if_pos (by rfl)]
    go_simp
    refine hK.out _ _ (fun h => by cases h) (fun _ => ?_)
    clear hK K
    try simp only [Act.put, List.setIfInBounds_toArray, List.set_cons_zero, List.set_cons_succ, List.getElem_toArray, List.getElem_cons_zero, List.getElem_cons_succ]
    refine AnyT.call (i := 26) (by kernel_rfl) rfl (fun K hK => ?_)
    try simp only [Act.put, List.setIfInBounds_toArray, List.set_cons_zero, List.set_cons_succ, List.getElem_toArray, List.getElem_cons_zero, List.getElem_cons_succ]
    rw [if_pos (by rfl)]
    go_simp
    refine hK.out _ _ (fun h => by cases h) (fun _ => ?_)
    clear hK K
    try simp only [Act.put, List.setIfInBounds_toArray, List.set_cons_zero, List.set_cons_succ, List.getElem_toArray, List.getElem_cons_zero, List.getElem_cons_succ]
    refine AnyT.call (i := 27) (by kernel_rfl) rfl (fun K hK => ?_)
    try simp only [Act.put, List.setIfInBounds_toArray, List.set_cons_zero, List.set_cons_succ, List.getElem_toArray, List.getElem_cons_zero, List.getElem_cons_succ]
    rw [if_pos (by rfl)]
    go_simp
    refine hK.out _ _ (fun h => by cases h) (fun _ => ?_)
    clear hK K
    try simp only [Act.put, List.setIfInBounds_toArray, List.set_cons_zero, List.set_cons_succ, List.getElem_toArray, List.getElem_cons_zero, List.getElem_cons_succ]
    refine AnyT.call (i := 28) (by kernel_rfl) rfl (fun K hK => ?_)
    try simp only [Act.put, List.setIfInBounds_toArray, List.set_cons_zero, List.set_cons_succ, List.getElem_toArray, List.getElem_cons_zero, List.getElem_cons_succ]
    rw [if_pos (by rfl)]
    go_simp
    refine hK.out _ _ (fun h => by cases h) (fun _ => ?_)
    clear hK K
    try simp only [Act.put, List.setIfInBounds_toArray, List.set_cons_zero, List.set_cons_succ, List.getElem_toArray, List.getElem_cons_zero, List.getElem_cons_succ]
    refine AnyT.call (i := 29) (by kernel_rfl) rfl (fun K hK => ?_)
    try simp only [Act.put, List.setIfInBounds_toArray, List.set_cons_zero, List.set_cons_succ, List.getElem_toArray, List.getElem_cons_zero, List.getElem_cons_succ]
    rw [if_pos (by rfl)]
    go_simp
    refine hK.out _ _ (fun h => by cases h) (fun _ => ?_)
    clear hK K
    try simp only [Act.put, List.setIfInBounds_toArray, List.set_cons_zero, List.set_cons_succ, List.getElem_toArray, List.getElem_cons_zero, List.getElem_cons_succ]
    refine AnyT.done (by kernel_rfl) ?_ _
    -- end
    have B5 := next_trans (next_trans (next_trans BD.out b3) b4) b5
    have s1 := HBW.out.size
    have s2 := BD.out.size
    have s3 := b3.size
    have s4 := b4.size
    have lk := lookThen (some g) b1 b2 gl _ lb _ HU.out.eg eo L (ones i t) w5 (World.block_lt_of_cell? _ _ k1) (World.block_lt_of_cell? _ _ k2) (fun e => by injection e; omega) (fun e => by injection e; omega) k1 k2 (HU.out.next B5).lk (HLO.out.next (grown_below B5 _)) HL60.out HV.out M1.out
    have F := Lib.hid (put_mk HU.out BD.out b3 b4 b5 ox oy et lk)
    clear lk ox oy b3 b4 b5 B5 k1 k2 f1 f2 f3 fr1 fr2 fr3 hHeld
    go_wp2_with fail
    go_meet
    exact F.out
  case rest =>
    rename World => wc
    obtain ⟨hg, P', pn', pc', Q', qn', qc', gl', lb', U⟩ := hcut
    have HG := Lib.hid (grown_trans (grown_below HBW.out (some g)) hg)
    have hp1 := U.p.1
    have hq1 := U.q.1
    have d1 := U.c1
    have d2 := U.c2
    have np := U.kp.1
    have np2 := U.kp.2.1
    have nq := U.kq.1
    have nq2 := U.kq.2.1
    have L1 := Lib.hid (tooLong P' pn' pc' wc (by omega))
    have L2 := Lib.hid (tooLong Q' qn' qc' wc (by omega))
    have HUW := Lib.hid U
    have HP1 := Lib.hid hp1
    have HQ1 := Lib.hid hq1
    clear U hg hp1 hq1 LF1 LF2 c1 c2 c3 HU HLO HBW vx vy one60 hL vL M1
    by_cases hp : 60 < pn'
    · rw [decide_eq_true hp] at L1
      have F := Lib.hid (fun (u : TypeId) (v : Value) => (show AnsRep w g A n c sg (fillL (ones i t) x) (fillL (ones i t) y) (fun m => fillL (ones i t) (L m)) (.panicked [{ v := .iface u v, recovered := false }]) wc from ⟨HG.out, .inr ⟨fun h => by rw [HP1.out] at h; omega, u, v, rfl⟩⟩))
      clear HUW
      go_wp2_with fail
      refine L1.out.mono ?_
      rintro e w' ⟨rfl, rfl⟩
      go_wp2
      exact ⟨rfl, F.out _ _⟩
    · rw [decide_eq_false hp] at L1
      go_wp2_with fail
      refine L1.out.mono ?_
      rintro e w' ⟨rfl, rfl⟩
      by_cases hq : 60 < qn'
      · rw [decide_eq_true hq] at L2
        have F := Lib.hid (fun (u : TypeId) (v : Value) => (show AnsRep w g A n c sg (fillL (ones i t) x) (fillL (ones i t) y) (fun m => fillL (ones i t) (L m)) (.panicked [{ v := .iface u v, recovered := false }]) wc from ⟨HG.out, .inr ⟨fun h => by rw [HQ1.out] at h; omega, u, v, rfl⟩⟩))
        clear HUW
        go_wp2_with fail
        refine L2.out.mono ?_
        rintro e w' ⟨rfl, rfl⟩
        go_wp2
        exact ⟨rfl, F.out _ _⟩
      · rw [decide_eq_false hq] at L2
        have F := Lib.hid (show AnsRep w g A n c sg (fillL (ones i t) x) (fillL (ones i t) y) (fun m => fillL (ones i t) (L m)) (.returned (.tuple #[])) wc from ⟨HG.out, .inl ⟨by rw [HP1.out]; omega, by rw [HQ1.out]; omega, rfl, P', pn', pc', Q', qn', qc', gl', lb', HUW.out⟩⟩)
        clear HUW
        go_wp2_with fail
        refine L2.out.mono ?_
        rintro e w' ⟨rfl, rfl⟩
        go_wp2
        first
          | exact bodyPost_ret (results_none rfl _ _ _) rfl F.out
          | (go_end0; exact F.out)

end Go.Proofs.Ytkmhnkljigncmaa.unifRep
end

section
/-
  What stands in the block of impl.generalisation ('Gn'), its cursors' parts, the concatenation of two pieces, slices.IndexFunc with the index, what a step leaves. Conditions: the slices read as lists ('Seg') below that block. By an AI agent.
-/
namespace Go.Proofs.Ytkmhnkljigncmaa.genSt
open Go.RowKit Go.Proofs.Ytkmhnkljigncmaa.base Go.Proofs.Ytkmhnkljigncmaa.ints Go.Proofs.Ytkmhnkljigncmaa.sig Go.Proofs.Ytkmhnkljigncmaa.cursor Go.Proofs.Ytkmhnkljigncmaa.marks Go.Proofs.Ytkmhnkljigncmaa.app Go.Proofs.Ytkmhnkljigncmaa.appAt Go.Proofs.Ytkmhnkljigncmaa.sym Go.Proofs.Ytkmhnkljigncmaa.segs Go.Proofs.Ytkmhnkljigncmaa.segsHelp Go.Proofs.Ytkmhnkljigncmaa.kinds Go.Proofs.Ytkmhnkljigncmaa.term Go.Proofs.Ytkmhnkljigncmaa.sub Go.Proofs.Ytkmhnkljigncmaa.curO Go.Proofs.Ytkmhnkljigncmaa.concat Go.Proofs.Ytkmhnkljigncmaa.anyOf Go.Proofs.Ytkmhnkljigncmaa.inside Go.Proofs.Ytkmhnkljigncmaa.unifMath Go.Proofs.Ytkmhnkljigncmaa.genMath Go.Proofs.Ytkmhnkljigncmaa.genPos Go.Proofs.Ytkmhnkljigncmaa.genTab Go.Proofs.Ytkmhnkljigncmaa.appZ Go.Proofs.Ytkmhnkljigncmaa.unifRep
set_option maxRecDepth 100000

/-- the cells of the block -/
def gcs (A : Option Addr) (n c : Nat) (P : Option Addr) (m mc i : Nat) (Q : Option Addr) (k kc j : Nat) (D : Option Addr) (dn dc : Nat) : Array Value :=
  #[.slice A n c, .slice P m mc, .int .i64 (i : Int), .slice A n c, .slice Q k kc, .int .i64 (j : Int), .slice D dn dc]
/-- the generalisation in block g stands at i and j, with the pairs xss, whose memory lies below hi -/
structure Gn (w : World) (g hi : Nat) (A : Option Addr) (n c : Nat) (sg : List Int) (P : Option Addr) (m mc : Nat) (a : List Int) (i : Nat) (Q : Option Addr) (k kc : Nat) (b : List Int) (j : Nat) (D : Option Addr) (dn dc : Nat) (xss : List (List Int)) : Prop where
  row : Row w g 85 (gcs A n c P m mc i Q k kc j D dn dc)
  s : Seg w g A n sg
  pa : Seg w g P m a
  qb : Seg w g Q k b
  o : Owns w (g + 1) hi D dn dc xss
  le : hi ≤ w.heap.size
  li : i ≤ m
  lj : j ≤ k
  hn : n ≤ 1048576
  hm : m ≤ 1048576
  hk : k ≤ 1048576
  ars : Arities sg
section
variable {w w' : World} {g hi : Nat} {A : Option Addr} {n c : Nat} {sg : List Int} {P : Option Addr} {m mc : Nat} {a : List Int} {i i' : Nat} {Q : Option Addr} {k kc : Nat} {b : List Int} {j j' : Nat} {D : Option Addr} {dn dc : Nat} {xss : List (List Int)}
theorem Gn.lt (h : Gn w g hi A n c sg P m mc a i Q k kc b j D dn dc xss) : g < w.heap.size := h.row.lt
theorem Gn.next (h : Gn w g hi A n c sg P m mc a i Q k kc b j D dn dc xss) (hb : Below w.heap.size w w') : Gn w' g hi A n c sg P m mc a i Q k kc b j D dn dc xss :=
  have hp := Nat.le_of_lt h.row.lt
  ⟨h.row.next hb, h.s.below (hb.mono hp), h.pa.below (hb.mono hp), h.qb.below (hb.mono hp), h.o.next hb, Nat.le_trans h.le hb.size, h.li, h.lj, h.hn, h.hm, h.hk, h.ars⟩
theorem Gn.alloc (h : Gn w g hi A n c sg P m mc a i Q k kc b j D dn dc xss) (o : Obj) : Gn (w.alloc o) g hi A n c sg P m mc a i Q k kc b j D dn dc xss := h.next ((Below.refl _ _).alloc (Nat.le_refl _) o)
theorem Gn.drewN (h : Gn w g hi A n c sg P m mc a i Q k kc b j D dn dc xss) (d : Nat) : Gn (w.drewN d) g hi A n c sg P m mc a i Q k kc b j D dn dc xss := h.next ⟨rfl, rfl, rfl, Nat.le_refl _, fun _ _ => rfl⟩
theorem Gn.cell (h : Gn w g hi A n c sg P m mc a i Q k kc b j D dn dc xss) (z : Nat) : w.cell? ⟨g, z, none⟩ = (gcs A n c P m mc i Q k kc j D dn dc)[z]? := h.row.cell z
theorem Gn.move (h : Gn w g hi A n c sg P m mc a i Q k kc b j D dn dc xss) (hg : w.grownBy w' (some g)) (hr : Row w' g 85 (gcs A n c P m mc i' Q k kc j' D dn dc)) (hi' : i' ≤ m) (hj' : j' ≤ k) : Gn w' g hi A n c sg P m mc a i' Q k kc b j' D dn dc xss :=
  have hp := h.row.lt
  ⟨hr, seg_grown h.s hg hp, seg_grown h.pa hg hp, seg_grown h.qb hg hp, h.o.btw (Btw.of_grown (lo := g) (hi := g + 1) hg (fun z e => by injection e; omega)) (by right; omega), Nat.le_trans h.le hg.size, hi', hj', h.hn, h.hm, h.hk, h.ars⟩
theorem Gn.curA (h : Gn w g hi A n c sg P m mc a i Q k kc b j D dn dc xss) : CurO w g 0 85 (gcs A n c P m mc 0 Q k kc j D dn dc) A n c P m mc sg a i :=
  ⟨by have r := h.row; simpa [gcs] using r, by simp [gcs], by simp [gcs], by simp [gcs], h.s, h.pa, h.li, h.hn, h.hm, h.ars⟩
theorem Gn.curB (h : Gn w g hi A n c sg P m mc a i Q k kc b j D dn dc xss) : CurO w g 3 85 (gcs A n c P m mc i Q k kc 0 D dn dc) A n c Q k kc sg b j :=
  ⟨by have r := h.row; simpa [gcs] using r, by simp [gcs], by simp [gcs], by simp [gcs], h.s, h.qb, h.lj, h.hn, h.hk, h.ars⟩
theorem rowA (h : CurO w g 0 85 (gcs A n c P m mc 0 Q k kc j D dn dc) A n c P m mc sg a i) : Row w g 85 (gcs A n c P m mc i Q k kc j D dn dc) := by have r := h.row; simpa [gcs] using r
theorem rowB (h : CurO w g 3 85 (gcs A n c P m mc i Q k kc 0 D dn dc) A n c Q k kc sg b j) : Row w g 85 (gcs A n c P m mc i Q k kc j D dn dc) := by have r := h.row; simpa [gcs] using r
end

/-- the first cursor's part -/
theorem partA {w : World} {g hi : Nat} {A : Option Addr} {n c : Nat} {sg : List Int} {b1 o1 m mc : Nat} {a : List Int} {i : Nat} {Q : Option Addr} {k kc : Nat} {b : List Int} {j : Nat} {D : Option Addr} {dn dc : Nat} {xss : List (List Int)} (h : Gn w g hi A n c sg (some ⟨b1, o1, none⟩) m mc a i Q k kc b j D dn dc xss) {p : Nat} (hp : scan sg 1 (a.drop i) = some p) (hip : i + p ≤ m) (h1 : 1 ≤ p) (hmc : m ≤ mc) (hc : mc ≤ 9223372036854775807) :
    Calls Try.prog 116 #[.pointer (some ⟨g, 0, none⟩)] w fun e w' => e = .returned (.slice (some ⟨b1, o1 + i, none⟩) p (mc - i)) ∧ Gn w' g hi A n c sg (some ⟨b1, o1, none⟩) m mc a (i + p) Q k kc b j D dn dc xss ∧ w.grownBy w' (some g) :=
  (partO g 0 _ _ A n c b1 o1 m mc sg a i p w h.curA hp hip h1 hmc hc).mono fun _ _ ⟨e1, e2, e3⟩ => ⟨e1, h.move e2 (rowA e3) hip h.lj, e2⟩
/-- the second one's -/
theorem partB {w : World} {g hi : Nat} {A : Option Addr} {n c : Nat} {sg : List Int} {P : Option Addr} {m mc : Nat} {a : List Int} {i : Nat} {b2 o2 k kc : Nat} {b : List Int} {j : Nat} {D : Option Addr} {dn dc : Nat} {xss : List (List Int)} (h : Gn w g hi A n c sg P m mc a i (some ⟨b2, o2, none⟩) k kc b j D dn dc xss) {q : Nat} (hq : scan sg 1 (b.drop j) = some q) (hjq : j + q ≤ k) (h1 : 1 ≤ q) (hkc : k ≤ kc) (hc : kc ≤ 9223372036854775807) :
    Calls Try.prog 116 #[.pointer (some ⟨g, 3, none⟩)] w fun e w' => e = .returned (.slice (some ⟨b2, o2 + j, none⟩) q (kc - j)) ∧ Gn w' g hi A n c sg P m mc a i (some ⟨b2, o2, none⟩) k kc b (j + q) D dn dc xss ∧ w.grownBy w' (some g) :=
  (partO g 3 _ _ A n c b2 o2 k kc sg b j q w h.curB hq hjq h1 hkc hc).mono fun _ _ ⟨e1, e2, e3⟩ => ⟨e1, h.move e2 (rowB e3) h.li hjq, e2⟩
/-- two pieces behind one another -/
theorem catTwo {w : World} {gb : Nat} {X Y : Option Addr} {xn xc yn yc : Nat} {x y : List Int} (hr : Row w gb 24 #[.slice X xn xc, .slice Y yn yc]) (hx : Seg w w.heap.size X xn x) (hy : Seg w w.heap.size Y yn y) (kx : Cap X xn xc) (ky : Cap Y yn yc) (lx : xn ≤ 1000) (ly : yn ≤ 1000) :
    Calls Try.prog 115 #[.slice (some ⟨gb, 0, none⟩) 2 2] w (AnsList w (x ++ y)) := by
  have hs : Segs w w.heap.size (some ⟨gb, 0, none⟩) 2 [x, y] := ⟨rfl, fun _ => ⟨gb, 0, rfl, hr.lt, fun j hj => by
    match j, hj with
    | 0, _ => exact ⟨X, xn, xc, hr.cell 0, hx, kx⟩
    | 1, _ => exact ⟨Y, yn, yc, hr.cell 1, hy, ky⟩⟩⟩
  have h := concat (some ⟨gb, 0, none⟩) 2 2 [x, y] w hs (by simp [tot, sumL]; rw [hx.1, hy.1]; omega)
  simpa using h

/-- the index of the first that the test holds of -/
def AnsFx (w : World) (f : List Int → Bool) (n : Nat) (xss : List (List Int)) (e : Ending) (w' : World) : Prop :=
  Below w.heap.size w w' ∧ ((∃ k : Nat, k < n ∧ e = .returned (.int .i64 (k : Int)) ∧ f (xss.getD k []) = true) ∨ (e = .returned (.int .i64 (-1)) ∧ ∀ j, j < n → f (xss.getD j []) = false))
set_option maxHeartbeats 2000000 in
theorem indexAt (g : Nat) (lb : Array Value) (eg : ∀ args w, (callFunc g args).run Try.prog w = .ok (.enter g args) w) (f : List Int → Bool) (A : Option Addr) (n c : Nat) (xss : List (List Int)) (w : World) (hT : Tests g lb w f)
    (h : Segs w w.heap.size A n xss) (hn : n ≤ 1048576) (hE : ∀ j, (xss.getD j []).length ≤ 1048576) :
    Calls Try.prog 114 #[.slice A n c, .func (.func g) #[] lb] w (AnsFx w f n xss) := by
  have HE := Lib.hid hE
  have HL := Lib.hid h.1
  have HK := Lib.hid hT
  have HH : Hid (HeadIx w n f xss (.int .i64 0) w) := Lib.hid ⟨0, Nat.zero_le _, rfl, fun j hj => absurd hj (Nat.not_lt_zero _), Below.refl _ _⟩
  clear hE hT
  go_enter Try.func114, Try.ntmps114
  go_wp2_with fail
  go_loopw [8] (fun i wr => HeadIx w n f xss i wr) (fun i _ => n - (intOf i).toNat)
  case atStart => exact HH.out
  case round =>
    obtain ⟨k, hk, rfl, hlow, hb⟩ := hrel
    have HLOW := Lib.hid hlow
    clear hlow HH
    by_cases hlt : k < n
    · obtain ⟨b, off, A', n', cc, rfl, hbB, hx0, hseg, hcap⟩ := h.spot hlt
      have hx : wr.cell? ⟨b, off + k, none⟩ = some (.slice A' n' cc) := (hb.cell (p := ⟨b, off + k, none⟩) hbB).trans hx0
      have hn' : n' ≤ 1048576 := by rw [← hseg.1]; exact HE.out k
      obtain ⟨ys, hys⟩ : ∃ ys, xss.getD k [] = ys := ⟨_, rfl⟩
      rw [hys] at hseg
      have HY := Lib.hid hys
      have hcall := HK.out wr A' n' cc ys hb (hseg.below hb |>.more hb.size) hn' hcap
      obtain ⟨v, hv⟩ : ∃ v, f ys = v := ⟨_, rfl⟩
      rw [hv] at hcall
      have HV := Lib.hid hv
      have HC := Lib.hid hcall
      have i0 : (0 : Int) ≤ (k : Int) := by omega
      have i1 : (k : Int) < (n : Int) := by omega
      clear hseg hcap h hx0 hys hv hcall
      cases v with
      | true =>
        go_wp2_with (first
          | (go_at_fn g; refine HC.out.mono ?_; rintro e w1 ⟨rfl, bb⟩))
        have F : AnsFx w f n xss (.returned (.int .i64 (k : Int))) w1 := ⟨next_trans hb bb, .inl ⟨k, hlt, rfl, by rw [HY.out]; exact HV.out⟩⟩
        have HF := Lib.hid F
        clear F hx bb hb HC
        go_wp2
        go_ret
        exact HF.out
      | false =>
        go_wp2_with (first
          | (go_at_fn g; refine HC.out.mono ?_; rintro e w1 ⟨rfl, bb⟩))
        have S1 : HeadIx w n f xss (.int .i64 ((k : Int) + 1)) w1 := ⟨k + 1, hlt, by simp, fun j hj => by
          by_cases e : j = k
          · rw [e, HY.out]; exact HV.out
          · exact HLOW.out j (by omega), next_trans hb bb⟩
        have HS1 := Lib.hid S1
        clear S1 hx bb hb HC
        go_wp2
        go_roundw
        case rel => exact HS1.out
        case measure => simp [intOf]; omega
    · have F : AnsFx w f n xss (.returned (.int .i64 (-1))) wr := ⟨hb, .inr ⟨rfl, fun j hj => HLOW.out j (by omega)⟩⟩
      have HF := Lib.hid F
      clear F h hb
      go_wp2
      go_ret
      exact HF.out

/-- a pair, one behind the other -/
def cat (x : List Int × List Int) : List Int := x.1 ++ x.2
/-- the pairs are terms of at most 60 numbers -/
def Fine2 (sg : List Int) (T : Tb) : Prop := ∀ x ∈ T, Trm sg x.1 ∧ Trm sg x.2 ∧ x.1.length ≤ 60 ∧ x.2.length ≤ 60
theorem cat_inj {sg s t u v : List Int} (hs : Trm sg s) (hu : Trm sg u) (e : cat (s, t) = cat (u, v)) : s = u ∧ t = v := trm_front hs hu e
theorem cat_get {T : Tb} {k : Nat} (h : k < T.length) : ∃ x, T[k]? = some x ∧ (T.map cat).getD k [] = cat x := ⟨T[k], by simp [h], by simp [List.getD, h]⟩
theorem Fine2.snoc {sg u v : List Int} {T : Tb} (h : Fine2 sg T) (hu : Trm sg u) (hv : Trm sg v) (lu : u.length ≤ 60) (lv : v.length ≤ 60) : Fine2 sg (T ++ [(u, v)]) := fun x hx => by
  rcases List.mem_append.1 hx with hx | hx
  · exact h x hx
  · rw [List.mem_singleton] at hx; subst hx; exact ⟨hu, hv, lu, lv⟩
theorem Fine2.each {sg : List Int} {T : Tb} (h : Fine2 sg T) (j : Nat) : ((T.map cat).getD j []).length ≤ 120 := by
  by_cases hj : j < T.length
  · have hm : T[j] ∈ T := List.getElem_mem hj
    obtain ⟨_, _, h3, h4⟩ := h _ hm
    have e : (T.map cat).getD j [] = cat T[j] := by simp [List.getD, hj]
    rw [e]
    unfold cat
    rw [List.length_append]
    omega
  · have e : (T.map cat).getD j [] = [] := by simp [List.getD, hj]
    rw [e]; simp

/-- what a step leaves: a symbol of both, or the variable of a pair -/
def AnsNx (w : World) (g : Nat) (A : Option Addr) (n c : Nat) (sg : List Int) (P : Option Addr) (m mc : Nat) (a : List Int) (i : Nat) (Q : Option Addr) (k kc : Nat) (b : List Int) (j : Nat) (D : Option Addr) (dn : Nat) (T : Tb) (e : Ending) (w' : World) : Prop :=
  ∃ (x : Int) (i' j' : Nat) (D' : Option Addr) (dn' dc' : Nat) (T' : Tb), e = .returned (.int .i64 x) ∧ Gn w' g w'.heap.size A n c sg P m mc a i' Q k kc b j' D' dn' dc' (T'.map cat) ∧ Fine2 sg T' ∧ Two w w' (some ⟨g, 0, none⟩) D ∧ (∀ z, blk D' = some z → z < w.heap.size → blk D = some z) ∧
    (∀ Z : Nat → Prop, (∀ z, Z z → z < w.heap.size) → Avoid Z w D dn → Avoid Z w' D' dn') ∧
    ((0 ≤ x ∧ a.getD i 0 = x ∧ b.getD j 0 = x ∧ i' = i + 1 ∧ j' = j + 1 ∧ T' = T) ∨ (i' = i + (subL sg a i).length ∧ j' = j + (subL sg b j).length ∧ Gs sg T 1 (subL sg a i) (subL sg b j) [x] T'))
end Go.Proofs.Ytkmhnkljigncmaa.genSt
end

section
/-
  PLAIN MATHEMATICS of Composed: what the composition gives ('compL'), whether all of it fits ('compOk'), its plain form. Conditions: none. By an AI agent.
-/
namespace Go.Proofs.Ytkmhnkljigncmaa.compMath
open Go.Proofs.Ytkmhnkljigncmaa.term Go.Proofs.Ytkmhnkljigncmaa.termOk Go.Proofs.Ytkmhnkljigncmaa.termFacts Go.Proofs.Ytkmhnkljigncmaa.segsHelp Go.Proofs.Ytkmhnkljigncmaa.fillMath Go.Proofs.Ytkmhnkljigncmaa.substOk Go.Proofs.Ytkmhnkljigncmaa.gives Go.Proofs.Ytkmhnkljigncmaa.plainMath Go.Proofs.Ytkmhnkljigncmaa.plainOf

/-- what the composition gives for a variable -/
def compL (us ss : List (List Int)) (i : Nat) : List Int := fillL (givesL us) (givesL ss i)
def compOk (us ss : List (List Int)) : Bool := (List.range 24).all fun i => decide ((compL us ss i).length ≤ 60)
/-- what Composed answers -/
def composedB (sg : List Int) (ss us : List (List Int)) : Bool := substOkB sg ss && (substOkB sg us && compOk us ss)
def composedI (sg : List Int) (ss us : List (List Int)) : List (List Int) := if composedB sg ss us = true then plainL (compL us ss) 24 else []

theorem composed_s {sg : List Int} {ss us : List (List Int)} (h : substOkB sg ss = false) : composedB sg ss us = false := by unfold composedB; rw [h, Bool.false_and]
theorem composed_u {sg : List Int} {ss us : List (List Int)} (h : substOkB sg us = false) : composedB sg ss us = false := by unfold composedB; rw [h, Bool.false_and, Bool.and_false]
theorem composed_b {sg : List Int} {ss us : List (List Int)} (h : substOkB sg ss = true) (h' : substOkB sg us = true) : composedB sg ss us = compOk us ss := by unfold composedB; rw [h, h', Bool.true_and, Bool.true_and]
theorem composed_yes {sg : List Int} {ss us : List (List Int)} (h : composedB sg ss us = true) : composedI sg ss us = plainL (compL us ss) 24 := by unfold composedI; rw [if_pos h]
theorem composed_no {sg : List Int} {ss us : List (List Int)} (h : composedB sg ss us = false) : composedI sg ss us = [] := by unfold composedI; rw [if_neg (by rw [h]; simp)]

theorem compOk_iff {us ss : List (List Int)} : compOk us ss = true ↔ ∀ i, i < 24 → (compL us ss i).length ≤ 60 := by
  unfold compOk
  rw [List.all_eq_true]
  exact ⟨fun h i hi => of_decide_eq_true (h i (List.mem_range.2 hi)), fun h i hi => decide_eq_true (h i (List.mem_range.1 hi))⟩
theorem compOk_no {us ss : List (List Int)} {i : Nat} (hi : i < 24) (h : ¬ (compL us ss i).length ≤ 60) : compOk us ss = false := by
  cases e : compOk us ss with
  | false => rfl
  | true => exact absurd (compOk_iff.1 e i hi) h
theorem comp_out {us ss : List (List Int)} {i : Nat} (h : ss.length ≤ i) (h' : us.length ≤ i) : compL us ss i = vt i := by
  unfold compL
  rw [gives_out (by omega)]
  unfold vt
  rw [fill_cons, fill_nil, List.append_nil, rep_var (by omega), show (-1 - (-1 - (i : Int))).toNat = i by omega, gives_out (by omega)]
  rfl
theorem comp_pos (us ss : List (List Int)) (i : Nat) : 1 ≤ (compL us ss i).length := by
  have h1 := fill_ge (gives_pos us) (givesL ss i)
  have h2 := gives_pos ss i
  unfold compL
  omega
theorem comp_len {sg : List Int} {us ss : List (List Int)} (h : substOkB sg ss = true) (h' : substOkB sg us = true) (i : Nat) : (compL us ss i).length ≤ 3600 := by
  have h1 := fill_len (M := 60) (by omega) (gives_len h') (givesL ss i)
  have h2 := gives_len h i
  have h3 : (givesL ss i).length * 60 ≤ 60 * 60 := Nat.mul_le_mul_right _ h2
  unfold compL
  omega

/-- the composition as a list -/
def outL (us ss : List (List Int)) (k : Nat) : List (List Int) := (List.range k).map (compL us ss)
theorem out_len (us ss : List (List Int)) (k : Nat) : (outL us ss k).length = k := by simp [outL]
theorem out_get {us ss : List (List Int)} {k i : Nat} (h : i < k) : (outL us ss k).getD i [] = compL us ss i := by simp [outL, List.getD, h]
theorem out_succ (us ss : List (List Int)) (k : Nat) : outL us ss (k + 1) = outL us ss k ++ [compL us ss k] := by simp [outL, List.range_succ]
theorem out_gives {us ss : List (List Int)} {k i : Nat} (h : i < k) : givesL (outL us ss k) i = compL us ss i := by
  have := comp_pos us ss i
  rw [gives_term (by rw [out_get h]; omega), out_get h]
theorem out_plain {us ss : List (List Int)} {k : Nat} (hk : k ≤ 24) (h : ss.length ≤ k) (h' : us.length ≤ k) : plainL (givesL (outL us ss k)) k = plainL (compL us ss) 24 := by
  rw [plain_24 hk (fun i hi => comp_out (by omega) (by omega))]
  exact plain_ext fun i hi => out_gives hi
theorem out_each {us ss : List (List Int)} {k : Nat} (hk : k ≤ 24) (h : ∀ i, i < k → (compL us ss i).length ≤ 60) : tot (outL us ss k) ≤ 1048576 := by
  have h1 := tot_le (xss := outL us ss k) (M := 60) (fun j => by
    by_cases hj : j < k
    · rw [out_get hj]; exact h j hj
    · rw [show (outL us ss k).getD j [] = [] by simp [List.getD, out_len, hj]]; simp)
  rw [out_len] at h1
  have : k * 60 ≤ 24 * 60 := Nat.mul_le_mul_right _ hk
  omega

/-- one of the lists is too long for a term -/
def anyLong (xss : List (List Int)) : Bool := xss.any fun t => decide (60 < t.length)
theorem anyLong_iff {xss : List (List Int)} : anyLong xss = true ↔ ∃ i, 60 < (xss.getD i []).length := by
  unfold anyLong
  rw [List.any_eq_true]
  refine ⟨fun ⟨t, ht, h⟩ => ?_, fun ⟨i, h⟩ => ?_⟩
  · obtain ⟨i, hi, rfl⟩ := List.getElem_of_mem ht
    exact ⟨i, by simpa [List.getD, hi] using h⟩
  · by_cases hi : i < xss.length
    · refine ⟨xss[i], List.getElem_mem hi, ?_⟩
      simpa [List.getD, hi] using h
    · rw [show xss.getD i [] = [] by simp [List.getD, hi]] at h
      simp at h
theorem anyLong_comp (us ss : List (List Int)) : anyLong (plainL (compL us ss) 24) = !compOk us ss := by
  cases h : compOk us ss with
  | true =>
    cases e : anyLong (plainL (compL us ss) 24) with
    | false => rfl
    | true =>
      obtain ⟨i, hi⟩ := anyLong_iff.1 e
      rw [plain_get] at hi
      by_cases h24 : i < 24
      · rw [rows_get h24] at hi
        have := compOk_iff.1 h i h24
        unfold bare at hi
        split at hi
        · simp at hi
        · omega
      · rw [show (rowsL (compL us ss) 24).getD i [] = [] by simp [List.getD, rows_len, h24]] at hi
        simp at hi
  | false =>
    have hn : ∃ i, i < 24 ∧ ¬ (compL us ss i).length ≤ 60 := by
      refine Classical.byContradiction fun hne => ?_
      have : compOk us ss = true := compOk_iff.2 fun i hi => Classical.byContradiction fun hl => hne ⟨i, hi, hl⟩
      rw [h] at this
      cases this
    obtain ⟨i, hi, hl⟩ := hn
    refine anyLong_iff.2 ⟨i, ?_⟩
    rw [plain_get, rows_get hi]
    unfold bare
    rw [if_neg (fun e => by rw [e] at hl; simp [vt] at hl)]
    omega
theorem composed_tot {sg : List Int} {ss us : List (List Int)} : tot (composedI sg ss us) ≤ 1048576 := by
  cases h : composedB sg ss us with
  | false => rw [composed_no h]; simp [tot, sumL]
  | true =>
    rw [composed_yes h]
    unfold composedB at h
    simp only [Bool.and_eq_true] at h
    have h1 := tot_le (plain_each (L := compL us ss) (m := 24) (comp_len h.1 h.2.1))
    have h2 := plain_len (compL us ss) 24
    have h4 : (plainL (compL us ss) 24).length * 3600 ≤ 24 * 3600 := Nat.mul_le_mul_right _ h2
    omega
end Go.Proofs.Ytkmhnkljigncmaa.compMath
end

section
/-
  CONTRACT of spec.l1Max. Conditions: none. By an AI agent.
-/
namespace Go.Proofs.Ytkmhnkljigncmaa.maxi
open Go.RowKit Go.Proofs.Ytkmhnkljigncmaa.base
theorem max_any (x y : Int) (w : World) : Calls Try.prog 126 #[.int .i64 x, .int .i64 y] w fun e w' => w = w' ∧ e = .returned (.int .i64 (max x y)) := by
  by_cases h : y < x
  · have e : max x y = x := by omega
    rw [e]
    go_enter Try.func126, Try.ntmps126
    go_wp2
    go_ret
    exact ⟨rfl, rfl⟩
  · have e : max x y = y := by omega
    rw [e]
    go_enter Try.func126, Try.ntmps126
    go_wp2
    go_ret
    exact ⟨rfl, rfl⟩
end Go.Proofs.Ytkmhnkljigncmaa.maxi
end

section
/-
  CONTRACTS: spec.Composed. Conditions: the slices read as lists ('Seg', 'Segs'), at most 1048576 values. (The region's walk by wip/tools/reg.py.) By an AI agent.
-/
namespace Go.Proofs.Ytkmhnkljigncmaa.compSpec
open Go.RowKit Go.Proofs.Ytkmhnkljigncmaa.base Go.Proofs.Ytkmhnkljigncmaa.ints Go.Proofs.Ytkmhnkljigncmaa.sig Go.Proofs.Ytkmhnkljigncmaa.cursor Go.Proofs.Ytkmhnkljigncmaa.marks Go.Proofs.Ytkmhnkljigncmaa.app Go.Proofs.Ytkmhnkljigncmaa.appAt Go.Proofs.Ytkmhnkljigncmaa.sym Go.Proofs.Ytkmhnkljigncmaa.segs Go.Proofs.Ytkmhnkljigncmaa.segsHelp Go.Proofs.Ytkmhnkljigncmaa.kinds Go.Proofs.Ytkmhnkljigncmaa.termFacts Go.Proofs.Ytkmhnkljigncmaa.fillMath Go.Proofs.Ytkmhnkljigncmaa.substOk Go.Proofs.Ytkmhnkljigncmaa.gives Go.Proofs.Ytkmhnkljigncmaa.shifted Go.Proofs.Ytkmhnkljigncmaa.filled Go.Proofs.Ytkmhnkljigncmaa.plainMath Go.Proofs.Ytkmhnkljigncmaa.plain Go.Proofs.Ytkmhnkljigncmaa.plainOf Go.Proofs.Ytkmhnkljigncmaa.compMath Go.Proofs.Ytkmhnkljigncmaa.maxi
set_option maxRecDepth 100000

/-- a substitution of the call's own, and whether -/
def AnsSubB (w : World) (xss : List (List Int)) (b : Bool) (e : Ending) (w' : World) : Prop := ∃ A n c, e = .returned (.tuple #[.agg #[.slice A n c], .bool b]) ∧ Owns w' w.heap.size w'.heap.size A n c xss ∧ Below w.heap.size w w'
theorem subB_no {w w' : World} {sg : List Int} {ss us : List (List Int)} (h : composedB sg ss us = false) (hb : Below w.heap.size w w') : AnsSubB w (composedI sg ss us) (composedB sg ss us) (.returned (.tuple #[.agg #[.slice none 0 0], .bool false])) w' :=
  ⟨none, 0, 0, by rw [h], by rw [composed_no h]; exact Owns.nil _ _ _, hb⟩
/-- four boxes: three parameters and the result -/
theorem boxes4 (w : World) (A : Option Addr) (n c : Nat) (S : Option Addr) (m c' : Nat) (T : Option Addr) (q cq : Nat) : ∃ W, W = (((w.alloc (.cells #[.slice A n c] 26)).alloc (.cells #[.slice S m c'] 31)).alloc (.cells #[.slice T q cq] 31)).alloc (.cells #[.slice none 0 0] 31) ∧
    Row W w.heap.size 26 #[.slice A n c] ∧ Row W (w.heap.size + 1) 31 #[.slice S m c'] ∧ Row W (w.heap.size + 2) 31 #[.slice T q cq] ∧ Row W (w.heap.size + 3) 31 #[.slice none 0 0] ∧ Below w.heap.size w W := by
  obtain ⟨W, hW, r1, r2, b⟩ := boxes2 w A n c S m c'
  have hz : W.heap.size = w.heap.size + 2 := by rw [hW]; simp
  have hz2 : (W.alloc (.cells #[.slice T q cq] 31)).heap.size = w.heap.size + 3 := by simp [hz]
  refine ⟨_, rfl, ?_, ?_, ?_, ?_, ?_⟩
  · rw [← hW]; exact (r1.alloc _).alloc _
  · rw [← hW]; exact (r2.alloc _).alloc _
  · rw [← hW, ← hz]; exact (Row.new _ _ _).alloc _
  · rw [← hW, ← hz2]; exact Row.new _ _ _
  · rw [← hW]; exact (b.alloc b.size _).alloc (by simp; have := b.size; omega) _

/-- the head of the loop: the result so far lies in block o -/
def HeadC (w : World) (o M : Nat) (S : Option Addr) (m c : Nat) (T : Option Addr) (q cq : Nat) (ss us : List (List Int)) (i : Value) (wr : World) : Prop :=
  ∃ (k : Nat) (A : Option Addr) (cA : Nat), k ≤ M ∧ i = .int .i64 k ∧ (∀ j, j < k → (compL us ss j).length ≤ 60) ∧ Owns wr (o + 1) wr.heap.size A k cA (outL us ss k) ∧ Row wr (w.heap.size + 1) 31 #[.slice S m c] ∧ Row wr (w.heap.size + 2) 31 #[.slice T q cq] ∧
    Row wr (w.heap.size + 3) 31 #[.slice none 0 0] ∧ Row wr o 31 #[.slice A k cA] ∧ Below w.heap.size w wr
theorem headC_step {w wr w5 w6 : World} {S T A A' : Option Addr} {o M m c q cq k cA c' : Nat} {ss us : List (List Int)} (hk : k < M) (hoz : w.heap.size + 3 < o) (hlow : ∀ j, j < k → (compL us ss j).length ≤ 60) (hkk : (compL us ss k).length ≤ 60) (ho : Owns w6 (o + 1) w6.heap.size A' (k + 1) c' (outL us ss (k + 1)))
    (r1 : Row wr (w.heap.size + 1) 31 #[.slice S m c]) (r2 : Row wr (w.heap.size + 2) 31 #[.slice T q cq]) (r3 : Row wr (w.heap.size + 3) 31 #[.slice none 0 0]) (ro : Row wr o 31 #[.slice A k cA]) (hb : Below w.heap.size w wr)
    (bb : Below wr.heap.size wr w5) (hg : w5.grownBy w6 (blk A)) (hA : ∀ z, blk A = some z → o + 1 ≤ z) :
    HeadC w o M S m c T q cq ss us (.int .i64 ((k : Int) + 1)) (w6.setCell ⟨o, 0, none⟩ (.slice A' (k + 1) c')) := by
  have q1 := Row.away (r1.next bb) hg (fun e => by have := hA _ e; omega)
  have q2 := Row.away (r2.next bb) hg (fun e => by have := hA _ e; omega)
  have q3 := Row.away (r3.next bb) hg (fun e => by have := hA _ e; omega)
  have qo := Row.away (ro.next bb) hg (fun e => by have := hA _ e; omega)
  have hbb : Below w.heap.size w w6 := (hb.trans (bb.mono hb.size)).grown hg (by have := hb.size; have := bb.size; omega) (fun z hz => by have := hA z hz; omega)
  refine ⟨k + 1, A', c', hk, by simp, fun j hj => ?_, ?_, q1.far (by simp; omega) _, q2.far (by simp; omega) _, q3.far (by simp; omega) _, ?_, hbb.setCell (by simp; omega) _⟩
  · by_cases e : j = k
    · rw [e]; exact hkk
    · exact hlow j (by omega)
  · have := owns_put ho qo (by omega) 0 (.slice A' (k + 1) c')
    simpa using this
  · have := qo.put 0 (.slice A' (k + 1) c')
    simpa using this

end Go.Proofs.Ytkmhnkljigncmaa.compSpec
end
