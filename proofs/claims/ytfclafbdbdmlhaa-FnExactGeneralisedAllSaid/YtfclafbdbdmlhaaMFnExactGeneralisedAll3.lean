/-
  MERGED: my texts GenSpec, GenRec, Concat, Inside, AnyOf, UnifDom, Then, AnsB, SubstOk, Gives, HeldT, UnifRep, GenSt, PlainOf, CompMath, Shifted, Filled, Max, CompSpec, CompImpl, AppStep, one behind the other, as they are. By an AI agent.
-/
import Derived.Test.YtfclafbdbdmlhaaMFnExactGeneralisedAll2
import Derived.Deep.QuietTactic
import Derived.BigQuiet
import Derived.Lib.AppendZeros
import Derived.Deep.LoopGhost
import Derived.Shelf.Abstract
import Derived.Deep.DeepCutAuto
import Derived.Laws.NewBlocks
import Derived.Laws.EntriesVeiled
import Derived.Deep.RegionHeld3
import Derived.OrdersHeld
import Derived.Deep.RegionHeld
import Derived.Deep.AppendLies
import Derived.Deep.DeepMust
namespace Go.Proofs.Ytfclafbdbdmlhaa
section
open Go.Lib (hid)
namespace genSpec
open Go.RowKit base ints sig cursor marks app appAt sym segs segsHelp term sub Go.Proofs.Ytfclafbdbdmlhaa.look plain same posMath unifMath genMath genPos genTab appZ
set_option maxRecDepth 100000
theorem drewN_below (w : World) (d : Nat) : Below w.heap.size w (w.drewN d) := ⟨rfl, rfl, rfl, Nat.le_refl _, fun _ _ => rfl⟩
structure Gw (w wr : World) (lo : Nat) (A : Option Addr) (n c : Nat) (sg : List Int) (P : Option Addr) (m : Nat) (a : List Int) (Q : Option Addr) (k : Nat) (b : List Int) (L : Option Addr) (ln lc : Nat) (R : Option Addr) (rc : Nat) (T : Tb) : Prop where
 r0 : Row wr w.heap.size 26 #[.slice A n c]
 s : Seg wr lo A n sg
 pa : Seg wr lo P m a
 qb : Seg wr lo Q k b
 t : Tabs wr lo L ln lc R rc T
 le : lo ≤ w.heap.size
 bel : Below w.heap.size w wr
section
variable {w wr w' : World} {lo : Nat} {A : Option Addr} {n c : Nat} {sg : List Int} {P : Option Addr} {m : Nat} {a : List Int} {Q : Option Addr} {k : Nat} {b : List Int} {L : Option Addr} {ln lc : Nat} {R : Option Addr} {rc : Nat} {T : Tb}
theorem Gw.next (h : Gw w wr lo A n c sg P m a Q k b L ln lc R rc T) (hb : Below wr.heap.size wr w') : Gw w w' lo A n c sg P m a Q k b L ln lc R rc T :=
 have hw : Below w.heap.size wr w' := hb.mono h.bel.size
 have hl : Below lo wr w' := hw.mono h.le
 ⟨h.r0.next hb, h.s.below hl, h.pa.below hl, h.qb.below hl, h.t.next hb, h.le, h.bel.trans hw⟩
theorem Gw.c0 (h : Gw w wr lo A n c sg P m a Q k b L ln lc R rc T) : wr.cell? ⟨w.heap.size, 0, none⟩ = some (.slice A n c) := h.r0.cell 0
theorem Gw.low (h : Gw w wr lo A n c sg P m a Q k b L ln lc R rc T) : lo ≤ wr.heap.size := Nat.le_trans h.le h.bel.size
theorem Gw.start (h : Seg w lo A n sg) (hp : Seg w lo P m a) (hq : Seg w lo Q k b) (ht : Tabs w lo L ln lc R rc T) (hl : lo ≤ w.heap.size) : Gw w (w.alloc (.cells #[.slice A n c] 26)) lo A n c sg P m a Q k b L ln lc R rc T := by
 have b0 : Below w.heap.size w (w.alloc (.cells #[.slice A n c] 26)) := (Below.refl _ _).alloc (Nat.le_refl _) _
 exact ⟨Row.new _ _ _, h.below (b0.mono hl), hp.below (b0.mono hl), hq.below (b0.mono hl), ht.next b0, hl, b0⟩
end
theorem one_own (w : World) (base : Nat) (x : Int) (hb : base ≤ w.heap.size) : Own (w.alloc (.cells #[.int .i64 x] 2)) base (.slice (some ⟨w.heap.size, 0, none⟩) 1 1) [x] :=
 Own.of_row (Row.new _ _ _) rfl rfl (Nat.le_refl _) (by omega) hb (fun j hj => by
  obtain rfl : j = 0 := by omega
  rfl)
theorem cell2 (w : World) (o : Obj) (v : Value) (t : TypeId) : ((w.alloc o).alloc (.cells #[v] t)).cell? ⟨w.heap.size + 1, 0, none⟩ = some v := by simp
theorem tb_at {T : Tb} {i : Nat} {u v : List Int} (hi : i < T.length) (h1 : (T.map Prod.fst).getD i [] = u) (h2 : (T.map Prod.snd).getD i [] = v) : T[i]? = some (u, v) := by
 simp [List.getD, hi] at h1 h2
 rw [List.getElem?_eq_getElem hi, ← h1, ← h2]
theorem tb_not {T : Tb} {i : Nat} {u v : List Int} (hi : i < T.length) (h : ¬ ((T.map Prod.fst).getD i [] = u ∧ (T.map Prod.snd).getD i [] = v)) : T[i]? ≠ some (u, v) := by
 intro e
 refine h ?_
 rw [List.getElem?_eq_getElem hi] at e
 injection e with e
 simp [List.getD, hi, e]
theorem tb_mem {T : Tb} {u v : List Int} (h : ∀ j, j < T.length → T[j]? ≠ some (u, v)) : (u, v) ∉ T := by
 intro hm
 obtain ⟨j, hj, e⟩ := List.getElem_of_mem hm
 exact h j hj (by rw [List.getElem?_eq_getElem hj, e])
theorem tb_len {T : Tb} {B i : Nat} (h : ∀ x ∈ T, x.1.length ≤ B ∧ x.2.length ≤ B) : ((T.map Prod.fst).getD i []).length ≤ B ∧ ((T.map Prod.snd).getD i []).length ≤ B := by
 by_cases hi : i < T.length
 ·have := h T[i] (List.getElem_mem hi)
  simpa [List.getD, hi] using this
 ·simp [List.getD, hi]
section
variable {w wr w' w6 w7 : World} {lo : Nat} {A : Option Addr} {n c : Nat} {sg : List Int} {P : Option Addr} {m : Nat} {a : List Int} {Q : Option Addr} {k : Nat} {b : List Int} {L : Option Addr} {ln lc : Nat} {R : Option Addr} {rc : Nat} {T : Tb} {u v : List Int}
theorem two_alloc (wr : World) (o1 o2 : Obj) : Below wr.heap.size wr ((wr.alloc o1).alloc o2) := ((Below.refl _ _).alloc (Nat.le_refl _) _).alloc (by simp) _
theorem st1 (G : Gw w wr lo A n c sg P m a Q k b L ln lc R rc T) (T0 : Tabs w lo L ln lc R rc T) (o1 o2 : Obj) : Owns ((wr.alloc o1).alloc o2) lo w.heap.size L ln lc (T.map Prod.fst) ∧ Owns ((wr.alloc o1).alloc o2) lo w.heap.size R ln rc (T.map Prod.snd) :=
 have bb := next_trans G.bel (two_alloc wr o1 o2)
 ⟨T0.l.next bb, T0.r.next bb⟩
theorem st2 {B xn xc : Nat} {X : Option Addr} (ox : Own wr B (.slice X xn xc) u) (hB : w.heap.size ≤ B) (o1 o2 : Obj) : Inn ((wr.alloc o1).alloc o2) w.heap.size ((wr.alloc o1).alloc o2).heap.size (.slice X xn xc) u :=
 ((inn_own ox).next (two_alloc wr o1 o2)).wider hB (two_alloc wr o1 o2).size
theorem st3 {wB : World} (hL : Owns wB lo w.heap.size L ln lc (T.map Prod.fst)) (hR : Owns wB lo w.heap.size R ln rc (T.map Prod.snd)) (T0 : Tabs w lo L ln lc R rc T) (hg : wB.grownBy w6 (blk L)) (o : Obj) : Owns (w6.alloc o) lo w.heap.size R ln rc (T.map Prod.snd) :=
 (keepTab hR (fun k hk => (topRow hL k hk).1) T0.ne hg).next ((Below.refl _ _).alloc (Nat.le_refl _) _)
theorem st4 {wB : World} {Y : Option Addr} {yn yc : Nat} (hL : Owns wB lo w.heap.size L ln lc (T.map Prod.fst)) (hy : Inn wB w.heap.size wB.heap.size (.slice Y yn yc) v) (hg : wB.grownBy w6 (blk L)) (o : Obj) : Inn (w6.alloc o) w.heap.size (w6.alloc o).heap.size (.slice Y yn yc) v := by
 have h1 : Inn w6 w.heap.size wB.heap.size (.slice Y yn yc) v := by
  refine hy.kept hg ?_
  cases e : blk L with
  | none => cases e' : (Value.slice Y yn yc).ownBlock with
   | none => exact .inl rfl
   | some k => exact .inr (fun h => by cases h)
  | some k =>
   obtain ⟨cs, hc⟩ := (topRow hL k e).1
   exact .inr (hy.ne hc)
 have b0 : Below w6.heap.size w6 (w6.alloc o) := (Below.refl _ _).alloc (Nat.le_refl _) _
 exact (h1.next b0).wider (Nat.le_refl _) (Nat.le_trans hg.size b0.size)
theorem avPush {Z : Nat → Prop} {w0 wB : World} {L L' : Option Addr} {nn hi : Nat} {x : Value} {xs : List Int} (hZ : ∀ z, Z z → z < w0.heap.size) (bel : Below w0.heap.size w0 wB) (topL : ∀ k, blk L = some k → k < w0.heap.size) (h : Avoid Z w0 L nn) (hv : Inn wB w0.heap.size hi x xs)
  (hcell : ∀ j b' u, j < nn + 1 → L' = some ⟨b', 0, none⟩ → w6.cell? ⟨b', j, none⟩ = some u → (∃ b, j < nn ∧ L = some ⟨b, 0, none⟩ ∧ wB.cell? ⟨b, j, none⟩ = some u) ∨ (j = nn ∧ u = x)) : Avoid Z w6 L' (nn + 1) := by
 intro j b' u hj e hc z hz
 rcases hcell j b' u hj e hc with ⟨b, hj', e2, hc2⟩ | ⟨_, rfl⟩
 ·refine h j b u hj' e2 ?_ z hz
  rw [← hc2]
  exact (bel.cell (p := ⟨b, j, none⟩) (topL b (by rw [e2]; rfl))).symm
 ·intro e3
  have := (hv.blk z e3).1
  have := hZ z hz
  omega
theorem avSame {Z : Nat → Prop} {nn : Nat} {L : Option Addr} (bel : Below w.heap.size w w') (topL : ∀ k, blk L = some k → k < w.heap.size) (h : Avoid Z w L nn) : Avoid Z w' L nn :=
 h.keep fun b j e => bel.cell (p := ⟨b, j, none⟩) (topL b (by rw [e]; rfl))
theorem st5 {L' R' : Option Addr} {lc' rc' : Nat} (x : Int) (o2 o3 : Obj) (G : Gw w wr lo A n c sg P m a Q k b L ln lc R rc T) (T0 : Tabs w lo L ln lc R rc T) (hgs : Gs sg T 1 u v [x] (T ++ [(u, v)]))
  (hg6 : ((wr.alloc (.cells #[.int .i64 x] 2)).alloc o2).grownBy w6 (blk L)) (ho6 : Owns w6 lo w6.heap.size L' (ln + 1) lc' (T.map Prod.fst ++ [u])) (hat6 : blk L' = blk L ∨ blk L' = some ((wr.alloc (.cells #[.int .i64 x] 2)).alloc o2).heap.size)
  (hg7 : (w6.alloc o3).grownBy w7 (blk R)) (ho7 : Owns w7 lo w7.heap.size R' (ln + 1) rc' (T.map Prod.snd ++ [v])) (hat7 : blk R' = blk R ∨ blk R' = some (w6.alloc o3).heap.size) {vX vY : Value}
  (hX : Inn ((wr.alloc (.cells #[.int .i64 x] 2)).alloc o2) w.heap.size ((wr.alloc (.cells #[.int .i64 x] 2)).alloc o2).heap.size vX u) (hY : Inn (w6.alloc o3) w.heap.size (w6.alloc o3).heap.size vY v)
  (hc6 : ∀ j b' z, j < ln + 1 → L' = some ⟨b', 0, none⟩ → w6.cell? ⟨b', j, none⟩ = some z → (∃ b, j < ln ∧ L = some ⟨b, 0, none⟩ ∧ ((wr.alloc (.cells #[.int .i64 x] 2)).alloc o2).cell? ⟨b, j, none⟩ = some z) ∨ (j = ln ∧ z = vX))
  (hc7 : ∀ j b' z, j < ln + 1 → R' = some ⟨b', 0, none⟩ → w7.cell? ⟨b', j, none⟩ = some z → (∃ b, j < ln ∧ R = some ⟨b, 0, none⟩ ∧ (w6.alloc o3).cell? ⟨b, j, none⟩ = some z) ∨ (j = ln ∧ z = vY)) :
  AnsGen sg w lo L R ln T u v (.returned (.tuple #[.slice (some ⟨wr.heap.size, 0, none⟩) 1 1, .slice L' (ln + 1) lc', .slice R' (ln + 1) rc'])) w7 := by
 have hz := G.bel.size
 have tL : ∀ k, blk L = some k → k < w.heap.size := T0.l.top
 have tR : ∀ k, blk R = some k → k < w.heap.size := T0.r.top
 obtain ⟨k1, k2⟩ := st1 G T0 (.cells #[.int .i64 x] 2) o2
 have k3 := st3 k1 k2 T0 hg6 o3
 have z1 : ((wr.alloc (.cells #[.int .i64 x] 2)).alloc o2).heap.size = wr.heap.size + 1 + 1 := by simp
 have z6 := hg6.size
 have b6 : Below w6.heap.size w6 (w6.alloc o3) := (Below.refl _ _).alloc (Nat.le_refl _) _
 have z7 := hg7.size
 have zb := b6.size
 have hne : ∀ k, blk R = some k → blk L' ≠ some k := fun k hk e => by
  rcases hat6 with h | h
  ·rw [h] at e; exact T0.ne k e hk
  ·rw [h] at e
   injection e with e
   have := tR k hk
   omega
 have o6 := (ho6.next b6).wider (Nat.le_refl lo) zb
 have o7 : Owns w7 lo w7.heap.size L' (ln + 1) lc' (T.map Prod.fst ++ [u]) := (keepTab o6 (fun k hk => (topRow k3 k hk).1) hne hg7).wider (Nat.le_refl lo) z7
 have hout : Own w7 w.heap.size (.slice (some ⟨wr.heap.size, 0, none⟩) 1 1) [x] := by
  have e0 := one_own wr w.heap.size x hz
  have e1 : Own ((wr.alloc (.cells #[.int .i64 x] 2)).alloc o2) w.heap.size (.slice (some ⟨wr.heap.size, 0, none⟩) 1 1) [x] := Own.next e0 ((Below.refl _ _).alloc (Nat.le_refl _) _)
  have e2 := Own.far e1 hg6 tL
  exact Own.far (Own.next e2 b6) hg7 tR
 have two0 : Two w ((wr.alloc (.cells #[.int .i64 x] 2)).alloc o2) L R := Two.of_below (next_trans G.bel (two_alloc _ _ _))
 have two1 : Two w w6 L R := two0.trans (Two.left (R := R) hg6) (fun k h _ => h) (fun k h _ => h)
 have two2 : Two w (w6.alloc o3) L R := two1.trans (L1 := L) (R1 := R) (Two.of_below b6) (fun k h _ => h) (fun k h _ => h)
 have two3 : Two w w7 L R := two2.trans (L1 := L) (R1 := R) (Two.right hg7) (fun k h _ => h) (fun k h _ => h)
 refine ⟨[x], T ++ [(u, v)], _, L', R', 1, 1, ln + 1, lc', rc', rfl, hout, hgs, ⟨by simpa using o7, by simpa using ho7, fun k hk => ?_⟩, two3, fun k hk hlt => ?_, fun k hk hlt => ?_, fun Z hZ a1 a2 => ⟨?_, ?_⟩⟩
 ·rcases hat7 with e | e
  ·rw [e]; exact fun h => hne k h hk
  ·rw [e]
   intro h
   injection h with h
   have := ho6.top k hk
   omega
 ·rcases hat6 with e | e
  ·rw [← e]; exact hk
  ·rw [e] at hk; injection hk with hk; omega
 ·rcases hat7 with e | e
  ·rw [← e]; exact hk
  ·rw [e] at hk; injection hk with hk; omega
 ·refine (avPush hZ (next_trans G.bel (two_alloc _ _ _)) tL a1 hX hc6).keep fun b j e => ?_
  have hb := ho6.top b (by rw [e]; rfl)
  have h1 : (w6.alloc o3).cell? ⟨b, j, none⟩ = w6.cell? ⟨b, j, none⟩ := b6.cell (p := ⟨b, j, none⟩) hb
  rw [← h1]
  exact World.cell?_of_block (hg7.block b (by omega) (fun e2 => hne b e2.symm (by rw [e]; rfl)))
 ·have bR : Avoid Z (w6.alloc o3) R ln := by
   refine a2.keep fun b j e => ?_
   have hb := tR b (by rw [e]; rfl)
   have h0 : ((wr.alloc (.cells #[.int .i64 x] 2)).alloc o2).cell? ⟨b, j, none⟩ = w.cell? ⟨b, j, none⟩ := (next_trans G.bel (two_alloc _ _ _)).cell (p := ⟨b, j, none⟩) hb
   have h1 : (w6.alloc o3).cell? ⟨b, j, none⟩ = w6.cell? ⟨b, j, none⟩ := b6.cell (p := ⟨b, j, none⟩) (show b < w6.heap.size by omega)
   rw [h1, ← h0]
   exact World.cell?_of_block (hg6.block b (by omega) (fun e2 => T0.ne b e2.symm (by rw [e]; rfl)))
  intro j b' z hj e hc y hy
  rcases hc7 j b' z hj e hc with ⟨b, hj', e2, hc2⟩ | ⟨_, rfl⟩
  ·exact bR j b z hj' e2 hc2 y hy
  ·intro e3
   have := (hY.blk y e3).1
   have := hZ y hy
   omega
end
set_option maxHeartbeats 4000000 in
theorem apart (A P Q L R : Option Addr) (n c m mc k kc ln lc rc lo p q j j' : Nat) (sg a b : List Int) (T : Tb) (w : World) (h : Seg w lo A n sg) (hp : Seg w lo P m a) (hq : Seg w lo Q k b) (ht : Tabs w lo L ln lc R rc T) (hlo : lo ≤ w.heap.size) (hn : n ≤ 1048576) (hm : m ≤ 1048576) (hk : k ≤ 1048576) (hcm : m ≤ mc ∧ mc ≤ 9223372036854775807) (hck : k ≤ kc ∧ kc ≤ 9223372036854775807) (hln : ln ≤ 1048576)
  (hs : Arities sg) (hj : scan sg 1 (a.drop p) = some j) (hj' : scan sg 1 (b.drop q) = some j') (hT : ∀ x ∈ T, x.1.length ≤ 1048576 ∧ x.2.length ≤ 1048576) (hnot : ¬ (0 ≤ a.getD p 0 ∧ a.getD p 0 = b.getD q 0)) :
  Calls Try.prog 121 #[.agg #[.slice A n c], .slice P m mc, .int .i64 (p : Int), .slice Q k kc, .int .i64 (q : Int), .slice L ln lc, .slice R ln rc] w (AnsGen sg w lo L R ln T (subL sg a p) (subL sg b q)) := by
 have la := hp.1
 have lb := hq.1
 obtain ⟨_, rfl, hpm, _, _⟩ := scan_args hj
 obtain ⟨_, rfl, hqk, _, _⟩ := scan_args hj'
 have s2 := scan_le hj
 have s3 := scan_le hj'
 rw [List.length_drop] at s2 s3
 rw [la] at hpm s2
 rw [lb] at hqk s3
 have GS := hid (fun i (e : T[i]? = some (subL sg a p, subL sg b q)) => gp_old hj hj' hnot e)
 have GN := hid (fun (e : (subL sg a p, subL sg b q) ∉ T) => gp_new hj hj' hnot e)
 have lu : (subL sg a p).length ≤ 1048576 := by unfold subL; rw [List.length_take, List.length_drop]; omega
 have lv : (subL sg b q).length ≤ 1048576 := by unfold subL; rw [List.length_take, List.length_drop]; omega
 obtain ⟨W, hW⟩ : ∃ W, W = w.alloc (.cells #[.slice A n c] 26) := ⟨_, rfl⟩
 have G0 : Gw w W lo A n c sg P m a Q k b L ln lc R rc T := by rw [hW]; exact Gw.start h hp hq ht hlo
 have T0 := hid ht
 have LP := hid (fun w' (G : Gw w w' lo A n c sg P m a Q k b L ln lc R rc T) => l1Sub A P n c m mc sg a p _ w' (G.s.more G.low) (G.pa.more G.low) hn hm hcm.1 hcm.2 hs hpm hj (by omega) (by omega))
 have LQ := hid (fun w' (G : Gw w w' lo A n c sg P m a Q k b L ln lc R rc T) => l1Sub A Q n c k kc sg b q _ w' (G.s.more G.low) (G.qb.more G.low) hn hk hck.1 hck.2 hs hqk hj' (by omega) (by omega))
 obtain ⟨b1, o1, x, rfl, hb1, hx, ex⟩ := G0.pa.spot hpm
 obtain ⟨b2, o2, y, rfl, hb2, hy, ey⟩ := G0.qb.spot hqk
 rw [ex.out, ey.out] at hnot
 have i0 : (0 : Int) ≤ (p : Int) := by omega
 have i1 : (p : Int) < (m : Int) := by omega
 have j0 : (0 : Int) ≤ (q : Int) := by omega
 have j1 : (q : Int) < (k : Int) := by omega
 have HW := hid hW
 have HT := hid hT
 have HLT := hid ht.len
 generalize hu : subL sg a p = u at *
 generalize hv : subL sg b q = v at *
 clear hW h hp hq ht ex ey hT hj hj' s2 s3 hu hv la lb hs
 by_cases h0 : 0 ≤ x
 ·have hxy : (x == y) = false := by simp; exact fun e => hnot ⟨h0, e⟩
  clear hnot
  go_enter Try.func121, Try.ntmps121
  go_wp2_with fail
  rw [← HW.out]
  go_quiet (fail)
  have G1 := G0.next (drewN_below W nq)
  have G1w := G1.bel.size
  clear G0 hx hy HW
  generalize W.drewN nq = w1 at *
  have G1z := hid G1w
  clear G1w
  have c0 := G1.c0
  go_wp2_with fail
  refine (LP.out w1 G1).mono ?_
  rintro e w2 ⟨X, xn, xc, rfl, ox, bb⟩
  have G2 := G1.next bb
  clear c0 G1
  have c0 := G2.c0
  go_wp2_with fail
  refine (LQ.out w2 G2).mono ?_
  rintro e w3 ⟨Y, yn, yc, rfl, oy, bb3⟩
  have G3 := G2.next bb3
  have ox3 := Own.next ox bb3
  have hxl := hid (Own.len ox)
  have hyl := hid (Own.len oy)
  have z12 := hid bb.size
  have z23 := hid bb3.size
  clear c0 G2 bb bb3 ox LP LQ
  go_wp2_with fail
  go_loopw [26] (fun i wr => ∃ i' d : Nat, i' ≤ ln ∧ i = .int .i64 i' ∧ wr = w3.drewN d ∧ ∀ j, j < i' → T[j]? ≠ some (u, v)) (fun i _ => ln - (intOf i).toNat)
  case atStart => exact ⟨0, 0, Nat.zero_le _, rfl, rfl, fun j hj => absurd hj (Nat.not_lt_zero _)⟩
  case round =>
   obtain ⟨i, d, hi, rfl, hwr, hno⟩ := hrel
   have HNO := hid hno
   clear hno
   have bd : Below w3.heap.size w3 wr := by rw [hwr]; exact drewN_below w3 d
   have G4 := G3.next bd
   have ox4 := Own.next ox3 bd
   have oy4 := Own.next oy bd
   have HWR := hid hwr
   have z34 := hid bd.size
   clear G3 ox3 oy hwr bd
   by_cases hlt : i < ln
   ·have i3 : (0 : Int) ≤ (i : Int) := by omega
    have i4 : (i : Int) < (ln : Int) := by omega
    obtain ⟨b3, o3, A1, n1, c1, hLe, hb3, hc3, hs3, hcap3⟩ := G4.t.l.segs.spot hlt
    obtain ⟨b4, o4, A2, n2, c2, hRe, hb4, hc4, hs4, hcap4⟩ := G4.t.r.segs.spot hlt
    subst hLe hRe
    have L1 := hid (specSame A1 X n1 xn c1 xc _ u wr hs3 (Own.seg ox4) (by rw [← hs3.1]; exact (tb_len HT.out).1) (by rw [hxl.out]; exact lu))
    have L2 := hid (fun d5 => specSame A2 Y n2 yn c2 yc _ v (wr.drewN d5) (hs4.drewN d5) (Own.seg (Own.drewN oy4 d5)) (by rw [← hs4.1]; exact (tb_len HT.out).2) (by rw [hyl.out]; exact lv))
    have G5 := hid (fun d => G4.next (drewN_below wr d))
    have SR := hid (fun d' (hnx : T[i]? ≠ some (u, v)) => (show ∃ i' d : Nat, i' ≤ ln ∧ (.int .i64 ((i : Int) + 1) : Value) = .int .i64 i' ∧ wr.drewN d' = w3.drewN d ∧ ∀ j, j < i' → T[j]? ≠ some (u, v) from ⟨i + 1, d + d', hlt, by simp, by rw [HWR.out, World.drewN_drewN], fun j hj => by
     by_cases e : j = i
     ·rw [e]; exact hnx
     ·exact HNO.out j (by omega)⟩))
    have hiT : i < T.length := by rw [HLT.out]; exact hlt
    clear hs3 hs4 ox4 oy4 hcap3 hcap4 G4
    go_wp2_with fail
    refine L1.out.mono ?_
    rintro e w5 ⟨he, d5, rfl⟩
    clear L1
    by_cases e1 : (T.map Prod.fst).getD i [] = u
    ·rw [decide_eq_true e1] at he
     subst he
     have hc5 : (wr.drewN d5).cell? ⟨b4, o4 + i, none⟩ = some (.slice A2 n2 c2) := hc4
     have L2 := hid (L2.out d5)
     clear hc3 hc4
     go_wp2_with fail
     refine L2.out.mono ?_
     rintro e w6 ⟨he, d6, rfl⟩
     clear L2
     rw [World.drewN_drewN]
     by_cases e2 : (T.map Prod.snd).getD i [] = v
     ·rw [decide_eq_true e2] at he
      subst he
      have G6 := G5.out (d5 + d6)
      have F := hid (show AnsGen sg w lo (some ⟨b3, o3, none⟩) (some ⟨b4, o4, none⟩) ln T u v (.returned (.tuple #[.slice (some ⟨(wr.drewN (d5 + d6)).heap.size, 0, none⟩) 1 1, .slice (some ⟨b3, o3, none⟩) ln lc, .slice (some ⟨b4, o4, none⟩) ln rc])) ((wr.drewN (d5 + d6)).alloc (.cells #[.int .i64 (-1 - (i : Int))] 2)) from
       ⟨[-1 - (i : Int)], T, _, _, _, 1, 1, ln, lc, rc, rfl, one_own _ _ _ G6.bel.size, GS.out i (tb_at hiT e1 e2), G6.t.next ((Below.refl _ _).alloc (Nat.le_refl _) _), Two.of_below (next_trans G6.bel ((Below.refl _ _).alloc (Nat.le_refl _) _)), fun k h _ => h, fun k h _ => h, fun Z hZ a1 a2 => ⟨avSame (next_trans G6.bel ((Below.refl _ _).alloc (Nat.le_refl _) _)) T0.out.l.top a1, avSame (next_trans G6.bel ((Below.refl _ _).alloc (Nat.le_refl _) _)) T0.out.r.top a2⟩⟩)
      clear G6 G5 SR hc5
      generalize wr.drewN (d5 + d6) = w7 at *
      go_wp2
      go_ret3
      exact F.out
     ·rw [decide_eq_false e2] at he
      subst he
      have S := hid (SR.out (d5 + d6) (tb_not hiT (fun h => e2 h.2)))
      clear SR G5 hc5
      generalize wr.drewN (d5 + d6) = w7 at *
      go_wp2
      go_roundw
      case rel => exact S.out
      case measure => simp [intOf]; omega
    ·rw [decide_eq_false e1] at he
     subst he
     have S := hid (SR.out d5 (tb_not hiT (fun h => e1 h.1)))
     clear SR G5 L2 hc3 hc4
     generalize wr.drewN d5 = w7 at *
     go_wp2
     go_roundw
     case rel => exact S.out
     case measure => simp [intOf]; omega
   ·obtain rfl : i = ln := by omega
    have hgs := GN.out (tb_mem (by rw [HLT.out]; exact HNO.out))
    rw [HLT.out] at hgs
    have z0 := G1z.out
    have K := hid (st1 G4 T0.out)
    have KX := hid (st2 (w := w) ox4 (by omega))
    have KY := hid (st2 (w := w) oy4 (by have := z12.out; omega))
    have K3 := hid (fun (o1 o2 o3 : Obj) w6 (hg : World.grownBy ((wr.alloc o1).alloc o2) w6 (blk L)) => st3 (K.out o1 o2).1 (K.out o1 o2).2 T0.out hg o3)
    have K4 := hid (fun (o1 o2 o3 : Obj) w6 (hg : World.grownBy ((wr.alloc o1).alloc o2) w6 (blk L)) => st4 (K.out o1 o2).1 (KY.out o1 o2) hg o3)
    have hzr := G4.bel.size
    have F := hid (fun (o2 o3 : Obj) (L' R' : Option Addr) (lc' rc' : Nat) (w6 w7 : World) (hg6 : World.grownBy ((wr.alloc (.cells #[.int .i64 (-1 - (i : Int))] 2)).alloc o2) w6 (blk L)) ho6 hat6 hg7 ho7 hat7 hX hY hc6 hc7 => st5 (w6 := w6) (w7 := w7) (L' := L') (R' := R') (lc' := lc') (rc' := rc') (-1 - (i : Int)) o2 o3 G4 T0.out hgs hg6 ho6 hat6 hg7 ho7 hat7 (vX := .slice X xn xc) (vY := .slice Y yn yc) hX hY hc6 hc7)
    clear hgs G4 ox4 oy4 GS GN HNO
    go_wp2_with (at_builtin; go_must (refine appS1Z rfl _ _ rfl lo w.heap.size L i lc (T.map Prod.fst) rfl (K.out _ _).1 _ 1 (.slice X xn xc) u rfl (cell2 _ _ _ _) (KX.out _ _) (by omega) (by omega) (by simp; omega) ?_; intro L' lc' w6 ho6 hg6 hat6 b6 hc6; refine (?_ : Hid _).out))
    refine hid ?_
    go_wp2_with (at_builtin; go_must (refine appS1Z rfl _ _ rfl lo w.heap.size R i rc (T.map Prod.snd) rfl (K3.out _ _ _ _ hg6) _ 1 (.slice Y yn yc) v rfl ((Row.new _ _ _).cell 0) (K4.out _ _ _ _ hg6) (by omega) (by omega) (by have := hg6.size; simp at this ⊢; omega) ?_; intro R' rc' w7 ho7 hg7 hat7 b7 hc7))
    go_wp2
    go_ret3
    exact F.out _ _ _ _ _ _ _ _ hg6 ho6 hat6 hg7 ho7 hat7 (KX.out _ _) (K4.out _ _ _ _ hg6) hc6 hc7
 ·have hxd : decide (0 ≤ x) = false := decide_eq_false h0
  go_enter Try.func121, Try.ntmps121
  go_wp2_with fail
  rw [← HW.out]
  go_quiet (fail)
  have G1 := G0.next (drewN_below W nq)
  have G1w := G1.bel.size
  clear G0 hx hy HW
  generalize W.drewN nq = w1 at *
  have G1z := hid G1w
  clear G1w
  have c0 := G1.c0
  go_wp2_with fail
  refine (LP.out w1 G1).mono ?_
  rintro e w2 ⟨X, xn, xc, rfl, ox, bb⟩
  have G2 := G1.next bb
  clear c0 G1
  have c0 := G2.c0
  go_wp2_with fail
  refine (LQ.out w2 G2).mono ?_
  rintro e w3 ⟨Y, yn, yc, rfl, oy, bb3⟩
  have G3 := G2.next bb3
  have ox3 := Own.next ox bb3
  have hxl := hid (Own.len ox)
  have hyl := hid (Own.len oy)
  have z12 := hid bb.size
  have z23 := hid bb3.size
  clear c0 G2 bb bb3 ox LP LQ
  go_wp2_with fail
  go_loopw [26] (fun i wr => ∃ i' d : Nat, i' ≤ ln ∧ i = .int .i64 i' ∧ wr = w3.drewN d ∧ ∀ j, j < i' → T[j]? ≠ some (u, v)) (fun i _ => ln - (intOf i).toNat)
  case atStart => exact ⟨0, 0, Nat.zero_le _, rfl, rfl, fun j hj => absurd hj (Nat.not_lt_zero _)⟩
  case round =>
   obtain ⟨i, d, hi, rfl, hwr, hno⟩ := hrel
   have HNO := hid hno
   clear hno
   have bd : Below w3.heap.size w3 wr := by rw [hwr]; exact drewN_below w3 d
   have G4 := G3.next bd
   have ox4 := Own.next ox3 bd
   have oy4 := Own.next oy bd
   have HWR := hid hwr
   have z34 := hid bd.size
   clear G3 ox3 oy hwr bd
   by_cases hlt : i < ln
   ·have i3 : (0 : Int) ≤ (i : Int) := by omega
    have i4 : (i : Int) < (ln : Int) := by omega
    obtain ⟨b3, o3, A1, n1, c1, hLe, hb3, hc3, hs3, hcap3⟩ := G4.t.l.segs.spot hlt
    obtain ⟨b4, o4, A2, n2, c2, hRe, hb4, hc4, hs4, hcap4⟩ := G4.t.r.segs.spot hlt
    subst hLe hRe
    have L1 := hid (specSame A1 X n1 xn c1 xc _ u wr hs3 (Own.seg ox4) (by rw [← hs3.1]; exact (tb_len HT.out).1) (by rw [hxl.out]; exact lu))
    have L2 := hid (fun d5 => specSame A2 Y n2 yn c2 yc _ v (wr.drewN d5) (hs4.drewN d5) (Own.seg (Own.drewN oy4 d5)) (by rw [← hs4.1]; exact (tb_len HT.out).2) (by rw [hyl.out]; exact lv))
    have G5 := hid (fun d => G4.next (drewN_below wr d))
    have SR := hid (fun d' (hnx : T[i]? ≠ some (u, v)) => (show ∃ i' d : Nat, i' ≤ ln ∧ (.int .i64 ((i : Int) + 1) : Value) = .int .i64 i' ∧ wr.drewN d' = w3.drewN d ∧ ∀ j, j < i' → T[j]? ≠ some (u, v) from ⟨i + 1, d + d', hlt, by simp, by rw [HWR.out, World.drewN_drewN], fun j hj => by
     by_cases e : j = i
     ·rw [e]; exact hnx
     ·exact HNO.out j (by omega)⟩))
    have hiT : i < T.length := by rw [HLT.out]; exact hlt
    clear hs3 hs4 ox4 oy4 hcap3 hcap4 G4
    go_wp2_with fail
    refine L1.out.mono ?_
    rintro e w5 ⟨he, d5, rfl⟩
    clear L1
    by_cases e1 : (T.map Prod.fst).getD i [] = u
    ·rw [decide_eq_true e1] at he
     subst he
     have hc5 : (wr.drewN d5).cell? ⟨b4, o4 + i, none⟩ = some (.slice A2 n2 c2) := hc4
     have L2 := hid (L2.out d5)
     clear hc3 hc4
     go_wp2_with fail
     refine L2.out.mono ?_
     rintro e w6 ⟨he, d6, rfl⟩
     clear L2
     rw [World.drewN_drewN]
     by_cases e2 : (T.map Prod.snd).getD i [] = v
     ·rw [decide_eq_true e2] at he
      subst he
      have G6 := G5.out (d5 + d6)
      have F := hid (show AnsGen sg w lo (some ⟨b3, o3, none⟩) (some ⟨b4, o4, none⟩) ln T u v (.returned (.tuple #[.slice (some ⟨(wr.drewN (d5 + d6)).heap.size, 0, none⟩) 1 1, .slice (some ⟨b3, o3, none⟩) ln lc, .slice (some ⟨b4, o4, none⟩) ln rc])) ((wr.drewN (d5 + d6)).alloc (.cells #[.int .i64 (-1 - (i : Int))] 2)) from
       ⟨[-1 - (i : Int)], T, _, _, _, 1, 1, ln, lc, rc, rfl, one_own _ _ _ G6.bel.size, GS.out i (tb_at hiT e1 e2), G6.t.next ((Below.refl _ _).alloc (Nat.le_refl _) _), Two.of_below (next_trans G6.bel ((Below.refl _ _).alloc (Nat.le_refl _) _)), fun k h _ => h, fun k h _ => h, fun Z hZ a1 a2 => ⟨avSame (next_trans G6.bel ((Below.refl _ _).alloc (Nat.le_refl _) _)) T0.out.l.top a1, avSame (next_trans G6.bel ((Below.refl _ _).alloc (Nat.le_refl _) _)) T0.out.r.top a2⟩⟩)
      clear G6 G5 SR hc5
      generalize wr.drewN (d5 + d6) = w7 at *
      go_wp2
      go_ret3
      exact F.out
     ·rw [decide_eq_false e2] at he
      subst he
      have S := hid (SR.out (d5 + d6) (tb_not hiT (fun h => e2 h.2)))
      clear SR G5 hc5
      generalize wr.drewN (d5 + d6) = w7 at *
      go_wp2
      go_roundw
      case rel => exact S.out
      case measure => simp [intOf]; omega
    ·rw [decide_eq_false e1] at he
     subst he
     have S := hid (SR.out d5 (tb_not hiT (fun h => e1 h.1)))
     clear SR G5 L2 hc3 hc4
     generalize wr.drewN d5 = w7 at *
     go_wp2
     go_roundw
     case rel => exact S.out
     case measure => simp [intOf]; omega
   ·obtain rfl : i = ln := by omega
    have hgs := GN.out (tb_mem (by rw [HLT.out]; exact HNO.out))
    rw [HLT.out] at hgs
    have z0 := G1z.out
    have K := hid (st1 G4 T0.out)
    have KX := hid (st2 (w := w) ox4 (by omega))
    have KY := hid (st2 (w := w) oy4 (by have := z12.out; omega))
    have K3 := hid (fun (o1 o2 o3 : Obj) w6 (hg : World.grownBy ((wr.alloc o1).alloc o2) w6 (blk L)) => st3 (K.out o1 o2).1 (K.out o1 o2).2 T0.out hg o3)
    have K4 := hid (fun (o1 o2 o3 : Obj) w6 (hg : World.grownBy ((wr.alloc o1).alloc o2) w6 (blk L)) => st4 (K.out o1 o2).1 (KY.out o1 o2) hg o3)
    have hzr := G4.bel.size
    have F := hid (fun (o2 o3 : Obj) (L' R' : Option Addr) (lc' rc' : Nat) (w6 w7 : World) (hg6 : World.grownBy ((wr.alloc (.cells #[.int .i64 (-1 - (i : Int))] 2)).alloc o2) w6 (blk L)) ho6 hat6 hg7 ho7 hat7 hX hY hc6 hc7 => st5 (w6 := w6) (w7 := w7) (L' := L') (R' := R') (lc' := lc') (rc' := rc') (-1 - (i : Int)) o2 o3 G4 T0.out hgs hg6 ho6 hat6 hg7 ho7 hat7 (vX := .slice X xn xc) (vY := .slice Y yn yc) hX hY hc6 hc7)
    clear hgs G4 ox4 oy4 GS GN HNO
    go_wp2_with (at_builtin; go_must (refine appS1Z rfl _ _ rfl lo w.heap.size L i lc (T.map Prod.fst) rfl (K.out _ _).1 _ 1 (.slice X xn xc) u rfl (cell2 _ _ _ _) (KX.out _ _) (by omega) (by omega) (by simp; omega) ?_; intro L' lc' w6 ho6 hg6 hat6 b6 hc6; refine (?_ : Hid _).out))
    refine hid ?_
    go_wp2_with (at_builtin; go_must (refine appS1Z rfl _ _ rfl lo w.heap.size R i rc (T.map Prod.snd) rfl (K3.out _ _ _ _ hg6) _ 1 (.slice Y yn yc) v rfl ((Row.new _ _ _).cell 0) (K4.out _ _ _ _ hg6) (by omega) (by omega) (by have := hg6.size; simp at this ⊢; omega) ?_; intro R' rc' w7 ho7 hg7 hat7 b7 hc7))
    go_wp2
    go_ret3
    exact F.out _ _ _ _ _ _ _ _ hg6 ho6 hat6 hg7 ho7 hat7 (KX.out _ _) (K4.out _ _ _ _ hg6) hc6 hc7
end genSpec
end
section
namespace genRec
open Go.RowKit base ints sig cursor marks app appAt sym segs segsHelp term args sub Go.Proofs.Ytfclafbdbdmlhaa.look plain same posMath unifMath genMath genPos genTab appZ genSpec
theorem gs_bnd {sg : List Int} {T T' : Tb} {n B : Nat} {u w g : List Int} (h : Gs sg T n u w g T') : (∀ x ∈ T, x.1.length ≤ B ∧ x.2.length ≤ B) → u.length ≤ B → w.length ≤ B → ∀ x ∈ T', x.1.length ≤ B ∧ x.2.length ≤ B := by
 induction h with
 | nil T => exact fun h _ _ => h
 | sym _ _ _ ih => exact fun h h1 h2 => ih h (by simp only [List.length_cons] at h1; omega) (by simp only [List.length_cons] at h2; omega)
 | old _ _ _ _ _ ih => exact fun h h1 h2 => ih h (by simp only [List.length_append] at h1; omega) (by simp only [List.length_append] at h2; omega)
 | new _ _ _ _ _ ih =>
  intro h h1 h2
  simp only [List.length_append] at h1 h2
  refine ih (fun x hx => ?_) (by omega) (by omega)
  rcases List.mem_append.mp hx with hx | hx
  ·exact h x hx
  ·simp only [List.mem_singleton] at hx
   subst hx
   exact ⟨by simp only; omega, by simp only; omega⟩
theorem gs_pos {sg : List Int} {T T' : Tb} {n : Nat} {u w g : List Int} (h : Gs sg T n u w g T') : n ≤ g.length := by
 induction h with
 | nil T => simp
 | sym _ _ _ ih => simp only [List.length_cons]; omega
 | old _ _ _ _ _ ih => simp only [List.length_cons]; omega
 | new _ _ _ _ _ ih => simp only [List.length_cons]; omega
theorem ownRow {w : World} {base n c : Nat} {A : Option Addr} {xs : List Int} (h : Own w base (.slice A n c) xs) : ∀ k, blk A = some k → (∃ cs, Row w k 2 cs) ∧ base ≤ k ∧ k < w.heap.size := fun k hk => by
 have hl := Own.len h
 subst hl
 rcases own_form (n := xs.length) (vs := xs.map (Value.int .i64)) h with ⟨rfl, _⟩ | ⟨g, cur, rfl, hb, hg, _⟩
 ·cases hk
 ·injection hk with hk
  subst hk
  exact ⟨⟨cur, hg⟩, hb, hg.lt⟩
structure Hr (w wr : World) (lo : Nat) (A : Option Addr) (n c : Nat) (sg : List Int) (P : Option Addr) (m : Nat) (a : List Int) (Q : Option Addr) (k : Nat) (b : List Int) (L R : Option Addr) (ln p q : Nat) (T : Tb) (x : Int) (X : Option Addr) (xn xc : Nat) (Y : Option Addr) (yn yc i : Nat) (L' R' : Option Addr) (ln' lc' rc' : Nat) (O : Option Addr) (on oc : Nat) (g : List Int) (T' : Tb) : Prop where
 r0 : Row wr w.heap.size 26 #[.slice A n c]
 s : Seg wr lo A n sg
 pa : Seg wr lo P m a
 qb : Seg wr lo Q k b
 t : Tabs wr lo L' ln' lc' R' rc' T'
 le : lo ≤ w.heap.size
 two : Two w wr L R
 hl : ∀ k, blk L' = some k → k < w.heap.size → blk L = some k
 hr : ∀ k, blk R' = some k → k < w.heap.size → blk R = some k
 ox : Own wr w.heap.size (.slice X xn xc) (argsL sg a p)
 oy : Own wr w.heap.size (.slice Y yn yc) (argsL sg b q)
 oo : Own wr w.heap.size (.slice O on oc) (x :: g)
 nx : ∀ z, blk O = some z → blk X ≠ some z
 ny : ∀ z, blk O = some z → blk Y ≠ some z
 ga : Ga sg a b p q T i g T'
 av : ∀ Z : Nat → Prop, (∀ z, Z z → z < w.heap.size) → Avoid Z w L ln → Avoid Z w R ln → Avoid Z wr L' ln' ∧ Avoid Z wr R' ln'
 ao : Avoid (fun z => blk O = some z) wr L' ln' ∧ Avoid (fun z => blk O = some z) wr R' ln'
section
variable {w wr wd w5 w6 : World} {lo : Nat} {A : Option Addr} {n c : Nat} {sg : List Int} {P : Option Addr} {m : Nat} {a : List Int} {Q : Option Addr} {k : Nat} {b : List Int} {L R : Option Addr} {ln p q : Nat} {T : Tb} {x : Int} {X : Option Addr} {xn xc : Nat} {Y : Option Addr} {yn yc i : Nat} {L' R' : Option Addr} {ln' lc' rc' : Nat} {O : Option Addr} {on oc : Nat} {g : List Int} {T' : Tb}
theorem own_away {base r0 : Nat} {r : Option Nat} {A : Option Addr} {n c : Nat} {xs : List Int} (h : Own w5 base (.slice A n c) xs) (hg : w5.grownBy w6 r) (hne : ∀ z, r = some z → blk A ≠ some z) (_ : r0 = 0) : Own w6 base (.slice A n c) xs := by
 refine World.ownsRow.kept h hg ?_
 rw [blk_own]
 cases e : blk A with
 | none => exact .inl rfl
 | some z => exact .inr (fun e2 => hne z e2.symm e)
theorem Hr.step (h : Hr w wr lo A n c sg P m a Q k b L R ln p q T x X xn xc Y yn yc i L' R' ln' lc' rc' O on oc g T') {L2 R2 : Option Addr} {n2 lc2 rc2 : Nat} {g' : List Int} {T2 : Tb}
  (hgs : Gs sg T' 1 (subL sg a (argP sg a i (p + 1))) (subL sg b (argP sg b i (q + 1))) g' T2) (ht2 : Tabs w5 lo L2 n2 lc2 R2 rc2 T2) (htwo : Two wr w5 L' R') (hl2 : ∀ k, blk L2 = some k → k < wr.heap.size → blk L' = some k) (hr2 : ∀ k, blk R2 = some k → k < wr.heap.size → blk R' = some k)
  (hav : ∀ Z : Nat → Prop, (∀ z, Z z → z < wr.heap.size) → Avoid Z wr L' ln' → Avoid Z wr R' ln' → Avoid Z w5 L2 n2 ∧ Avoid Z w5 R2 n2)
  {O' : Option Addr} {on' oc' : Nat} (ho6 : Own w6 w.heap.size (.slice O' on' oc') ((x :: g) ++ g')) (hg6 : w5.grownBy w6 (blk O)) (hat6 : blk O' = blk O ∨ blk O' = some w5.heap.size) :
  Hr w w6 lo A n c sg P m a Q k b L R ln p q T x X xn xc Y yn yc (i + 1) L2 R2 n2 lc2 rc2 O' on' oc' (g ++ g') T2 := by
 have tO := ownRow h.oo
 have hzw := h.two.size
 have hz5 := htwo.size
 have hz6 := hg6.size
 have oo5 := htwo.own h.oo h.t.rowL h.t.rowR
 have tO5 := ownRow oo5
 have ox5 := htwo.own h.ox h.t.rowL h.t.rowR
 have oy5 := htwo.own h.oy h.t.rowL h.t.rowR
 have b5 : Below lo wr w5 := htwo.below h.t.loL h.t.loR (Nat.le_trans h.le hzw)
 have hOlo : ∀ z, blk O = some z → w.heap.size ≤ z := fun z hz => (tO z hz).2.1
 have hOL : ∀ z, blk L2 = some z → blk O ≠ some z := fun z hz e => by
  obtain ⟨cs, h1⟩ := ht2.rowL z hz
  obtain ⟨⟨cs2, h2⟩, _⟩ := tO5 z e
  exact Row.ne_ h2 h1 (by decide) rfl
 have hOR : ∀ z, blk R2 = some z → blk O ≠ some z := fun z hz e => by
  obtain ⟨cs, h1⟩ := ht2.rowR z hz
  obtain ⟨⟨cs2, h2⟩, _⟩ := tO5 z e
  exact Row.ne_ h2 h1 (by decide) rfl
 have r5 : Row w5 w.heap.size 26 #[.slice A n c] := htwo.row h.r0 (fun e => by obtain ⟨cs, h1⟩ := h.t.rowL _ e; exact Row.ne_ h.r0 h1 (by decide) rfl) (fun e => by obtain ⟨cs, h1⟩ := h.t.rowR _ e; exact Row.ne_ h.r0 h1 (by decide) rfl)
 have hOs : blk O ≠ some w.heap.size := fun e => by
  obtain ⟨⟨cs, h1⟩, _⟩ := tO5 _ e
  exact Row.ne_ r5 h1 (by decide) rfl
 have hfar : ∀ z, blk O = some z → lo ≤ z := fun z hz => Nat.le_trans h.le (hOlo z hz)
 have hlo5 : lo ≤ w5.heap.size := by have := h.le; omega
 obtain ⟨avO1, avO2⟩ := hav (fun z => blk O = some z) (fun z hz => (tO z hz).2.2) h.ao.1 h.ao.2
 have kL : ∀ b j, L2 = some ⟨b, 0, none⟩ → w6.cell? ⟨b, j, none⟩ = w5.cell? ⟨b, j, none⟩ := fun b j e => World.cell?_of_block (hg6.block b (ht2.l.top b (by rw [e]; rfl)) (fun e2 => hOL b (by rw [e]; rfl) e2.symm))
 have kR : ∀ b j, R2 = some ⟨b, 0, none⟩ → w6.cell? ⟨b, j, none⟩ = w5.cell? ⟨b, j, none⟩ := fun b j e => World.cell?_of_block (hg6.block b (ht2.r.top b (by rw [e]; rfl)) (fun e2 => hOR b (by rw [e]; rfl) e2.symm))
 have two5 : Two w w5 L R := h.two.trans htwo h.hl h.hr
 refine ⟨?_, Seg.far (h.s.below b5) hg6 hlo5 hfar, Seg.far (h.pa.below b5) hg6 hlo5 hfar, Seg.far (h.qb.below b5) hg6 hlo5 hfar, ⟨(Avoid.owns ht2.l avO1 hOL hg6).wider (Nat.le_refl _) hz6, (Avoid.owns ht2.r avO2 hOR hg6).wider (Nat.le_refl _) hz6, ht2.ne⟩, h.le, ?_, fun z hz hlt => h.hl z (hl2 z hz (by omega)) hlt, fun z hz hlt => h.hr z (hr2 z hz (by omega)) hlt, own_away (r0 := 0) ox5 hg6 h.nx rfl, own_away (r0 := 0) oy5 hg6 h.ny rfl, ho6, fun z hz => ?_, fun z hz => ?_, ga_succ h.ga hgs, fun Z hZ a1 a2 => ?_, ?_⟩
 ·exact (hg6.block _ r5.lt (fun e => hOs e.symm)).trans r5
 ·exact ⟨hg6.os.trans two5.os, hg6.tape.trans two5.tape, hg6.output.trans two5.output, Nat.le_trans two5.size hz6, fun z hz h1 h2 => (hg6.block z (by omega) (fun e => by have := hOlo z e.symm; omega)).trans (two5.block z hz h1 h2)⟩
 ·rcases hat6 with e | e
  ·exact h.nx z (by rw [← e]; exact hz)
  ·intro e2
   rw [e] at hz
   injection hz with hz
   have := (ownRow ox5 z e2).2.2
   omega
 ·rcases hat6 with e | e
  ·exact h.ny z (by rw [← e]; exact hz)
  ·intro e2
   rw [e] at hz
   injection hz with hz
   have := (ownRow oy5 z e2).2.2
   omega
 ·obtain ⟨c1, c2⟩ := h.av Z hZ a1 a2
  obtain ⟨d1, d2⟩ := hav Z (fun z hz => by have := hZ z hz; omega) c1 c2
  exact ⟨d1.keep kL, d2.keep kR⟩
 ·rcases hat6 with e | e
  ·rw [e]; exact ⟨avO1.keep kL, avO2.keep kR⟩
  ·refine ⟨(Avoid.fresh ht2.l (fun z hz => ?_)).keep kL, (Avoid.fresh ht2.r (fun z hz => ?_)).keep kR⟩
   ·rw [e] at hz; injection hz with hz; omega
   ·rw [e] at hz; injection hz with hz; omega
end
end genRec
end
section
open Go.Lib (hid)
namespace concat
open Go.RowKit base ints marks app sym segs segsHelp
set_option maxRecDepth 100000
set_option maxHeartbeats 1000000 in
theorem growNil (s : Nat) (w : World) (hs : s ≤ 2097152) :
  Calls Try.prog 117 #[.slice none 0 0, .int .i64 (s : Int)] w (AnsList w []) := by
 by_cases h0 : s = 0
 ·subst h0
  go_enter Try.func117, Try.ntmps117
  go_wp2
  go_ret
  exact ⟨none, 0, 0, rfl, Own.nil _ _, Below.refl _ _⟩
 ·obtain ⟨i0, hi, hz0, hz1, hz2⟩ := info_parts info_i64
  obtain ⟨G, hG⟩ : ∃ G, G = grownCap w s 0 2 := ⟨_, rfl⟩
  have hge : s ≤ G := by rw [hG]; exact grownCap_ge w _ _ _
  have hcm : G ≤ maxLen := by rw [hG]; exact grownCap_le_maxLen w _ _ _ (by unfold maxLen; omega)
  obtain ⟨cs, hcs⟩ : ∃ cs, cs = Builtin.zeroCells (Value.int .i64 0).cells s ++ Builtin.zeroCells (Value.int .i64 0).cells (G - s) := ⟨_, rfl⟩
  have hsz : cs.size = G := by
   rw [hcs]
   have e : (Value.int .i64 0).cells.size = 1 := rfl
   simp only [Array.size_append, size_zeroCells, e]
   omega
  have hr : ∀ ty, (Builtin.append_ #[24, 3] ty #[.slice none 0 0, .int .i64 (s : Int)]).run Try.prog w = .ok (.slice (some ⟨w.heap.size, 0, none⟩) s G) (w.drew.alloc (.cells cs 2)) := fun ty => by
   rw [hG, hcs, hG]
   exact Lib.run_append_nil_zeros w 24 3 ty 2 i0 (.int .i64 0) .i64 .i64 Try.underlying24 Try.underlying3 hi hz0 s (by omega) (by rw [hz1]; omega) (by omega) (by rw [hz2]; omega)
  have hrow : Row (w.drew.alloc (.cells cs 2)) w.heap.size 2 cs := Row.new w.drew _ _
  have F : AnsList w [] (.returned (.slice (some ⟨w.heap.size, 0, none⟩) 0 G)) (w.drew.alloc (.cells cs 2)) :=
   ⟨_, _, _, rfl, Own.of_row hrow rfl hsz (Nat.zero_le _) (by unfold maxLen at hcm; omega) (Nat.le_refl _) (fun j hj => absurd hj (Nat.not_lt_zero _)), ((Below.refl _ _).drew).alloc (Nat.le_refl _) _⟩
  have HF := hid F
  have hG63 : G ≤ 9223372036854775807 := by unfold maxLen at hcm; omega
  clear F hrow hsz hcs hG hcm
  have h1 : (0 : Int) < (s : Int) := by omega
  go_enter Try.func117, Try.ntmps117
  go_wp2_with (at_builtin; refine Lib.wpList_append_run _ rfl _ _ _ _ rfl _ _ rfl rfl _ _ (hr _) ?_)
  go_wp2
  go_ret
  exact HF.out
def catL (xss : List (List Int)) (k : Nat) : List Int := (xss.take k).flatten
theorem cat_len {xss : List (List Int)} {k : Nat} : (catL xss k).length = sumL xss k := by unfold catL sumL; rw [List.length_flatten]
theorem cat_succ {xss : List (List Int)} {k : Nat} (h : k < xss.length) : catL xss (k + 1) = catL xss k ++ xss.getD k [] := by
 unfold catL
 rw [List.take_succ_eq_append_getElem h, List.flatten_append]
 simp [List.getD, h]
set_option maxHeartbeats 1000000 in
theorem concat (S : Option Addr) (k c : Nat) (xss : List (List Int)) (w : World) (h : Segs w w.heap.size S k xss) (ht : tot xss ≤ 1048576) :
  Calls Try.prog 86 #[.slice S k c] w (AnsList w xss.flatten) := by
 have HL := hid h.1
 have hk : k ≤ 1048576 := tot_len h.1 ht
 have hs1 : Hid (∀ j, j ≤ k → sumL xss j ≤ 1048576) := hid (fun j hj => by have := sumL_mono (xss := xss) (k := j) (m := xss.length) (by rw [h.1]; exact hj) (Nat.le_refl _); unfold tot at ht; omega)
 have HS : Hid (∀ j, j < k → sumL xss (j + 1) = sumL xss j + (xss.getD j []).length) := hid (fun j hj => sumL_succ (by rw [h.1]; exact hj))
 have HC : Hid (∀ j, j < k → catL xss (j + 1) = catL xss j ++ xss.getD j []) := hid (fun j hj => cat_succ (by rw [h.1]; exact hj))
 have HF := hid (show catL xss k = xss.flatten by unfold catL; rw [List.take_of_length_le (by rw [h.1]; exact Nat.le_refl _)])
 have HCL := hid (fun j => cat_len (xss := xss) (k := j))
 have HH := hid h
 have S0 := hid (show sumL xss 0 = 0 by simp [sumL])
 have C0 := hid (show catL xss 0 = [] by simp [catL])
 clear h ht
 go_enter Try.func86, Try.ntmps86
 go_wp2
 go_loopg [3, 11] k (fun g s i wr => w = wr ∧ ∃ j : Nat, i = .int .i64 j ∧ j + g = k ∧ s = .int .i64 (sumL xss j : Nat))
 case atStart => exact ⟨rfl, 0, rfl, by omega, by rw [S0.out]; rfl⟩
 case round =>
  obtain ⟨rfl, j, rfl, hj, rfl⟩ := hrel
  have HJ := hid hj
  clear hj
  by_cases hjk : j < k
  ·obtain ⟨b, off, A', n', c', rfl, hb, hc, hsg, hcap⟩ := HH.out.spot hjk
   have hl := hsg.1
   have hb1 := hs1.out j (by omega)
   have hb2 := hs1.out (j + 1) (by omega)
   have hsu := HS.out j hjk
   obtain ⟨s, hs⟩ : ∃ s, sumL xss j = s := ⟨_, rfl⟩
   have HSS := hid (show sumL xss (j + 1) = s + n' by rw [hsu, hs, hl])
   have hb3 : s + n' ≤ 1048576 := by rw [← HSS.out]; exact hb2
   rw [hs]
   clear hsg hcap hl hb1 hb2 hsu hs
   go_wp2
   go_roundg (gk - 1)
   case measure => have := HJ.out; omega
   case rel => exact ⟨rfl, j + 1, by simp, by have := HJ.out; omega, by rw [HSS.out]; simp⟩
  ·have hjk2 : j = k := by have := HJ.out; omega
   obtain ⟨s, hs⟩ : ∃ s, sumL xss j = s := ⟨_, rfl⟩
   have hs2 : s ≤ 2097152 := by rw [← hs]; have := hs1.out j (by omega); omega
   rw [hs]
   have LG := hid (growNil s w hs2)
   clear hs hs2 hjk2
   go_wp2_with fail
   refine LG.out.mono ?_
   rintro e w1 ⟨O, on, oc, rfl, o1, b1⟩
   have on0 : on = 0 := Own.len o1
   subst on0
   have P0 : Own w1 w.heap.size (.slice O 0 oc) (catL xss 0) := by rw [C0.out]; exact o1
   have HP := hid (And.intro P0 b1)
   clear P0 o1 b1 LG
   go_wp2
   go_loopg [6, 27] k (fun g s i wr => ∃ (j : Nat) (O : Option Addr) (on oc : Nat), i = .int .i64 j ∧ j + g = k ∧ s = .slice O on oc ∧ Own wr w.heap.size (.slice O on oc) (catL xss j) ∧ Below w.heap.size w wr)
   case atStart => exact ⟨0, O, 0, oc, rfl, by omega, rfl, HP.out.1, HP.out.2⟩
   case round =>
    obtain ⟨j, O, on, oc, rfl, hj, rfl, ho, hb⟩ := hrel
    clear HP
    have HJ := hid hj
    clear hj
    by_cases hjk : j < k
    ·have hsegs := (HH.out.below hb)
     obtain ⟨b, off, A', n', c', rfl, hbb, hc, hsg, hcap⟩ := hsegs.spot hjk
     have hon : on ≤ 1048576 := by rw [Own.len ho, HCL.out j]; exact hs1.out j (by omega)
     have hn' : n' ≤ 1048576 := by have h1 := hsg.1; have h2 := hs1.out (j + 1) (by omega); rw [HS.out j hjk, h1] at h2; omega
     have HCAP := hid hcap.2.2
     have hsz := hb.size
     clear hsegs hcap
     go_wp2_with (at_builtin; refine appAll rfl _ _ rfl w.heap.size O on oc (catL xss j) rfl ho A' n' c' w.heap.size (xss.getD j []) rfl hsg HCAP.out (by omega) (by omega) hsz ?_; intro O' oc' w3 ho3 b3)
     have S := hid (show Own w3 w.heap.size (.slice O' (on + n') oc') (catL xss (j + 1)) ∧ Below w.heap.size w w3 from ⟨by rw [HC.out j hjk]; exact ho3, hb.trans b3⟩)
     clear ho ho3 hb b3 hsg hc
     go_wp2
     go_roundg (gk - 1)
     case measure => have := HJ.out; omega
     case rel => exact ⟨j + 1, O', on + n', oc', by simp, by have := HJ.out; omega, rfl, S.out⟩
    ·have hjk2 : j = k := by have := HJ.out; omega
     have F : AnsList w xss.flatten (.returned (.slice O on oc)) wr := ⟨O, on, oc, rfl, by rw [← HF.out, ← hjk2]; exact ho, hb⟩
     have HFF := hid F
     clear F ho hb hjk2
     go_wp2
     go_ret
     exact HFF.out
end concat
end
section
open Go.Lib (hid)
namespace inside
open Go.RowKit base ints sig term arity endOf cursor termOk endAt
set_option maxRecDepth 100000
def Tells (w : World) (b : Bool) (e : Ending) (w' : World) : Prop := e = .returned (.bool b) ∧ Below w.heap.size w w'
structure Fr (w wr : World) (A : Option Addr) (n c : Nat) (sg : List Int) (A' : Option Addr) (m : Nat) (t : List Int) : Prop where
 r : Row wr w.heap.size 26 #[.slice A n c]
 s : Seg wr w.heap.size A n sg
 s' : Seg wr w.heap.size A' m t
 b : Below w.heap.size w wr
section
variable {w wr w' : World} {A : Option Addr} {n c : Nat} {sg : List Int} {A' : Option Addr} {m : Nat} {t : List Int}
theorem Fr.start (h : Seg w w.heap.size A n sg) (h' : Seg w w.heap.size A' m t) : Fr w (w.alloc (.cells #[.slice A n c] 26)) A n c sg A' m t :=
 have b : Below w.heap.size w (w.alloc (.cells #[.slice A n c] 26)) := (Below.refl _ _).alloc (Nat.le_refl _) _
 ⟨Row.new _ _ _, h.below b, h'.below b, b⟩
theorem Fr.next (f : Fr w wr A n c sg A' m t) (hb : Below wr.heap.size wr w') : Fr w w' A n c sg A' m t :=
 have b : Below w.heap.size wr w' := hb.mono (Nat.le_of_lt f.r.lt)
 ⟨f.r.next hb, f.s.below b, f.s'.below b, f.b.trans b⟩
theorem Fr.over (f : Fr w wr A n c sg A' m t) (hb : Below (w.heap.size + 1) wr w') : Fr w w' A n c sg A' m t :=
 have b : Below w.heap.size wr w' := hb.mono (Nat.le_succ _)
 ⟨f.r.below hb (Nat.lt_succ_self _), f.s.below b, f.s'.below b, f.b.trans b⟩
theorem Fr.s1 (f : Fr w wr A n c sg A' m t) : Seg wr wr.heap.size A n sg := f.s.more (Nat.le_of_lt f.r.lt)
theorem Fr.t1 (f : Fr w wr A n c sg A' m t) : Seg wr wr.heap.size A' m t := f.s'.more (Nat.le_of_lt f.r.lt)
theorem Fr.size (f : Fr w wr A n c sg A' m t) : w.heap.size < wr.heap.size := f.r.lt
end
set_option maxHeartbeats 1000000 in
theorem right (A A' : Option Addr) (n c m c' : Nat) (sg t : List Int) (x : Int) (w : World) (h : Seg w w.heap.size A n sg) (h' : Seg w w.heap.size A' m t) (hn : n ≤ 1048576) (hm : m ≤ 1048576) :
  Calls Try.prog 77 #[.agg #[.slice A n c], .slice A' m c', .int .i64 x] w (Tells w (thereB sg t x)) := by
 obtain ⟨W, hW⟩ : ∃ W, W = w.alloc (.cells #[.slice A n c] 26) := ⟨_, rfl⟩
 have f : Fr w W A n c sg A' m t := by rw [hW]; exact Fr.start h h'
 have HW := hid hW
 have HL := hid h'.1
 have L := hid (specTermOk A A' n c m c' sg t W f.s1 f.t1 hn hm)
 clear hW h h'
 cases hok : termOkB sg t with
 | false =>
  have HS := hid hok
  have HT := hid (there_no (x := x) (.inl hok))
  clear hok
  go_enter Try.func77, Try.ntmps77
  go_wp2_with fail
  rw [← HW.out]
  refine L.out.mono ?_
  rintro e w1 ⟨he, bb⟩
  rw [HS.out] at he
  subst he
  have F := hid (show Tells w (thereB sg t x) (.returned (.bool false)) w1 from ⟨by rw [HT.out], (f.next bb).b⟩)
  clear f L bb HT
  go_wp2
  go_ret
  exact F.out
 | true =>
  have HS := hid hok
  obtain ⟨b, hb⟩ : ∃ b, decide (0 ≤ x ∧ x < (m : Int)) = b := ⟨_, rfl⟩
  have HD := hid hb
  have HT : thereB sg t x = b := by unfold thereB inB; rw [hok, HL.out, hb]; rfl
  replace HT := hid HT
  clear hok hb
  go_enter Try.func77, Try.ntmps77
  go_wp2_with fail
  rw [← HW.out]
  refine L.out.mono ?_
  rintro e w1 ⟨he, bb⟩
  rw [HS.out] at he
  subst he
  have F := hid (show Tells w (thereB sg t x) (.returned (.bool b)) w1 from ⟨by rw [HT.out], (f.next bb).b⟩)
  clear f L bb HT
  go_wp2_with fail
  refine (there _ _ _ x b _ hm HD.out).mono ?_
  rintro e w2 ⟨rfl, rfl⟩
  go_wp2
  go_ret
  exact F.out
end inside
end
section
namespace anyOf
open Go.RowKit base ints sig segs segsHelp inside
set_option maxRecDepth 100000
def Tests (g : Nat) (lb : Array Value) (w : World) (f : List Int → Bool) : Prop :=
 ∀ (W : World) (D : Option Addr) (dn dc : Nat) (ys : List Int), Below w.heap.size w W → Seg W W.heap.size D dn ys → dn ≤ 1048576 → Cap D dn dc → Calls Try.prog g (#[.slice D dn dc] ++ lb) W (Tells W (f ys))
theorem Tests.next {g : Nat} {lb : Array Value} {w w' : World} {f : List Int → Bool} (h : Tests g lb w f) (hb : Below w.heap.size w w') : Tests g lb w' f :=
 fun W D dn dc ys hW hs hn hc => h W D dn dc ys (next_trans hb hW) hs hn hc
def HeadIx (w : World) (n : Nat) (f : List Int → Bool) (xss : List (List Int)) (i : Value) (wr : World) : Prop := ∃ k : Nat, k ≤ n ∧ i = .int .i64 k ∧ (∀ j, j < k → f (xss.getD j []) = false) ∧ Below w.heap.size w wr
end anyOf
end
section
namespace unifDom
open sig term termOk termFacts endAt sub termMath fillMath posMath renMath matchMath plainMath unifMath
def InTwo (a b : List Int) (z : Int) : Prop := z ∈ a ∨ z ∈ b
structure Dom (a b : List Int) (L : Nat → List Int) : Prop where
 rng : ∀ z, InTwo a b z → z < 0 → ∀ y ∈ L (vr z), y < 0 → InTwo a b y
 out : ∀ i : Nat, ¬ InTwo a b (-1 - (i : Int)) → L i = vt i
section
variable {sg a b : List Int} {L : Nat → List Int}
theorem mem_len {x : Int} : ∀ {t : List Int}, x ∈ t → x < 0 → (L (vr x)).length ≤ (fillL L t).length
 | [], hx, _ => absurd hx (List.not_mem_nil)
 | y :: r, hx, h0 => by
  rw [fill_cons, List.length_append]
  rcases List.mem_cons.1 hx with rfl | hx
  ·rw [rep_vr h0]; omega
  ·have := mem_len hx h0; omega
theorem Dom.each (h : Dom a b L) (ha : (fillL L a).length ≤ 60) (hb : (fillL L b).length ≤ 60) (i : Nat) : (L i).length ≤ 60 := by
 by_cases hi : InTwo a b (-1 - (i : Int))
 ·rcases hi with hi | hi
  ·have := mem_len (L := L) hi (by omega)
   rw [vr_vt] at this
   omega
  ·have := mem_len (L := L) hi (by omega)
   rw [vr_vt] at this
   omega
 ·rw [h.out i hi]; simp [vt]
end
structure Wy (sg a b : List Int) (L : Nat → List Int) (x y : List Int) : Prop where
 ta : termOkB sg a = true
 tb : termOkB sg b = true
 part : Part sg a b L
 dom : Dom a b L
 ex : x = fillL L a
 ey : y = fillL L b
 lx : x.length ≤ 60
 ly : y.length ≤ 60
section
variable {sg a b x y : List Int} {L : Nat → List Int}
theorem Wy.tx (h : Wy sg a b L x y) : Trm sg x := by rw [h.ex]; exact h.part.sub.fill (term_parts h.ta).2.2
theorem Wy.each (h : Wy sg a b L x y) (i : Nat) : (L i).length ≤ 60 := h.dom.each (by rw [← h.ex]; exact h.lx) (by rw [← h.ey]; exact h.ly) i
theorem Wy.done (h : Wy sg a b L x y) (e : x = y) : IsU sg a b true (plainL L 24) :=
 isU_mg h.ta h.tb (h.part.done (by rw [← h.ex, ← h.ey]; exact e)) h.each (by rw [← h.ex]; exact h.lx)
theorem Wy.spot (h : Wy sg a b L x y) {k : Nat} (e : x.take k = y.take k) (kx : k < x.length) (ky : k < y.length) (ne : x.getD k 0 ≠ y.getD k 0) : Spot sg a b L k :=
 ⟨(term_parts h.ta).2.2, (term_parts h.tb).2.2, by rw [← h.ex, ← h.ey]; exact e, by rw [← h.ex]; exact kx, by rw [← h.ey]; exact ky, by rw [← h.ex, ← h.ey]; exact ne⟩
end
end unifDom
end
section
namespace thn
open Go.RowKit base ints cursor marks app sym segs fillMath Go.Proofs.Ytfclafbdbdmlhaa.look
set_option maxRecDepth 100000
def LooksE (x : Option Nat) (g : Nat) (lb : Array Value) (w : World) (L : Nat → List Int) (N : Nat) : Prop :=
 ∀ (W : World) (i : Nat), w.grownBy W x → i < N → Calls Try.prog g (#[.int .i64 (i : Int)] ++ lb) W (AnsLook w.heap.size W (L i))
section
variable {x : Option Nat} {g : Nat} {lb : Array Value} {w w' : World} {L L' : Nat → List Int} {N : Nat}
theorem LooksE.next (h : LooksE x g lb w L N) (hg : w.grownBy w' x) : LooksE x g lb w' L N :=
 fun W i hW hi => (h W i (grown_trans hg hW) hi).mono fun _ _ ⟨A, n, c, he, h1, h2, h3, h4⟩ => ⟨A, n, c, he, h1, h2, fun k hk => by have := h3 k hk; have := hg.size; omega, h4⟩
theorem LooksE.ext (h : LooksE x g lb w L N) (e : ∀ i, i < N → L i = L' i) : LooksE x g lb w L' N := fun W i hW hi => by rw [← e i hi]; exact h W i hW hi
end
end thn
end
section
namespace varsOf
open Go.RowKit base
end varsOf
end
section
namespace substOk
open Go.RowKit base ints sig term termOk marks app sym sub segs segsHelp termFacts varsMath varsOf fillMath Go.Proofs.Ytfclafbdbdmlhaa.look
set_option maxRecDepth 100000
end substOk
end
section
namespace gives
open Go.RowKit base ints sig term termOk marks app sym sub segs segsHelp termFacts varsMath varsOf fillMath Go.Proofs.Ytfclafbdbdmlhaa.look substOk
set_option maxRecDepth 100000
end gives
end
section
namespace heldT
section
variable {P : Program} {md : Region.Mode} {ops : Array Oper} {Q : Exit → Act → World → Prop} {S : World → Prop} {late : Nat → Bool}
def AnyT (P : Program) (md : Region.Mode) (ops : Array Oper) (Q : Exit → Act → World → Prop) (S : World → Prop) (late : Nat → Bool) : Nat → Array Bool → Act → World → Prop
 | 0, listed, a, w => Region.ready md ops listed = [] ∧ Q .normal a w
 | fuel + 1, listed, a, w => (Region.ready md ops listed = [] → Q .normal a w) ∧
  ∀ i ∈ Region.ready md ops listed, wpOp P ops Q i (fun a' w' => (late i = false → S w → S w') ∧ AnyT P md ops Q S late fuel (listed.setIfInBounds i true) a' w') a w
theorem AnyT.any : ∀ (fuel : Nat) (listed : Array Bool) (a : Act) (w : World), AnyT P md ops Q S late fuel listed a w → wpAny P md ops Q fuel listed a w
 | 0, _, _, _, h => h
 | fuel + 1, _, _, _, h => ⟨h.1, fun i hi => wpOp_mono (fun a' w' h' => AnyT.any fuel _ a' w' h'.2) (h.2 i hi)⟩
def Waits (md : Region.Mode) (ops : Array Oper) (late : Nat → Bool) (listed : Array Bool) (i : Nat) : Prop :=
 ∀ j o, ops[j]? = some o → late j = true → listed.getD j true = false → ∃ e ∈ o.after, Region.binds md e = true ∧ e.on = i
def waitsB (md : Region.Mode) (ops : Array Oper) (late : Nat → Bool) (listed : Array Bool) (i : Nat) : Bool :=
 (List.range ops.size).all fun j => !late j || listed.getD j true || ((ops[j]?).map fun o => o.after.any fun e => Region.binds md e && e.on == i).getD false
theorem waits_of {listed : Array Bool} {i : Nat} (h : waitsB md ops late listed i = true) : Waits md ops late listed i := by
 intro j o ho hl hu
 have hj : j < ops.size := by
  rcases Nat.lt_or_ge j ops.size with h' | h'
  ·exact h'
  ·rw [Array.getElem?_eq_none h'] at ho; cases ho
 have := List.all_eq_true.1 h j (List.mem_range.2 hj)
 rw [hl, hu, ho] at this
 simp only [Bool.not_true, Bool.false_or, Option.map_some, Option.getD_some, Array.any_eq_true', Bool.and_eq_true, beq_iff_eq] at this
 exact this
theorem AnyT.first {i : Nat} {oi : Oper} {v : Value} (hi : ops[i]? = some oi) (hsel : ∀ (j : Nat) (o : Oper) cs b, ops[j]? = some o → o.op ≠ .select cs b) (hQ : ∀ c a w, Q (.panic c) (a.put oi.dst v) w → Q (.panic c) a w) :
  ∀ (fuel : Nat) (listed : Array Bool) (a : Act) (w : World),
   (∀ j oj, ops[j]? = some oj → j ≠ i → listed.getD j true = false → (∀ e ∈ oj.after, Region.binds md e = true → e.on ≠ i) → oi.apart ops oj = true) → Waits md ops late listed i →
   i ∈ Region.ready md ops listed → YieldsIf P ops S oi v a → S w → AnyT P md ops Q S late fuel (listed.setIfInBounds i true) (a.put oi.dst v) w → AnyT P md ops Q S late (fuel + 1) listed a w := by
 intro fuel
 induction fuel with
 | zero =>
  intro listed a w _ _ hr hy hS H
  refine ⟨fun h => (by rw [h] at hr; cases hr), fun j hj => ?_⟩
  rcases Classical.em (j = i) with e | e
  ·subst e; exact hy.wpOp hi hS ⟨fun _ h => h, H⟩
  ·have := ready_mono hj e
   rw [H.1] at this
   cases this
 | succ fuel ih =>
  intro listed a w hfree hwait hr hy hS H
  refine ⟨fun h => (by rw [h] at hr; cases hr), fun j hj => ?_⟩
  rcases Classical.em (j = i) with e | hji
  ·subst e; exact hy.wpOp hi hS ⟨fun _ h => h, H⟩
  have h1 := H.2 j (ready_mono hj hji)
  obtain ⟨hjun, oj, hoj, hall⟩ := mem_ready.1 hj
  have h0 := (mem_ready.1 hr).1
  have hnot : ∀ e ∈ oj.after, Region.binds md e = true → e.on ≠ i := fun e he hb heq => by
   have h1 := hall e he hb
   rw [heq] at h1
   rcases Nat.lt_or_ge i listed.size with h' | h'
   ·simp [h'] at h0 h1; rw [h0] at h1; cases h1
   ·simp [Array.getElem?_eq_none h'] at h1
  have hlj : late j = false := by
   cases e : late j with
   | false => rfl
   | true =>
    obtain ⟨x, hx, hb, ho⟩ := hwait j oj hoj e hjun
    exact absurd ho (hnot x hx hb)
  have far : ∀ {k : Nat}, j ≠ k → (listed.setIfInBounds j true).getD k true = false → listed.getD k true = false := fun hjk h => by rwa [getD_set_ne true hjk] at h
  have same : ∀ {k : Nat}, k = j → listed.getD k true = false := fun e => by rw [e]; exact hjun
  have un : ∀ (k : Nat), (listed.setIfInBounds j true).getD k true = false → listed.getD k true = false := fun k h => by
   rcases Classical.em (k = j) with e | e
   ·exact same e
   ·exact far (fun e' => e e'.symm) h
  have h2 := wpOp_putIf hoj (hfree j oj hoj hji hjun hnot) (fun cs b => hsel i oi cs b hi) (fun cs b => hsel j oj cs b hoj) hQ hy h1
  refine wpOp_mono (fun a' w' h3 => ⟨h3.2.1, ih (listed.setIfInBounds j true) a' w' (fun k ok hk hki hun hno => hfree k ok hk hki (un k hun) hno) (fun k o hk hl hu => hwait k o hk hl (un k hu)) (ready_mono hr (Ne.symm hji)) h3.1 (h3.2.1 hlj hS) ?_⟩) h2
  rw [Array.setIfInBounds_comm _ _ hji]
  exact h3.2.2
theorem AnyT.take {i : Nat} {oi : Oper} {v : Value} {fuel : Nat} {listed : Array Bool} {a : Act} {w : World} (hi : ops[i]? = some oi) (hs : Region.noSelect ops = true) (hf : Region.free md ops listed i = true) (hw : waitsB md ops late listed i = true) (hr : (Region.ready md ops listed).contains i = true)
  (hQ : ∀ c a w, Q (.panic c) (a.put oi.dst v) w → Q (.panic c) a w) (hy : YieldsIf P ops S oi v a) (hS : S w) (h : AnyT P md ops Q S late fuel (listed.setIfInBounds i true) (a.put oi.dst v) w) : AnyT P md ops Q S late (fuel + 1) listed a w :=
 AnyT.first hi (Region.noSelect_spec hs) hQ fuel listed a w (Region.free_spec hi hf) (waits_of hw) (by simpa using hr) hy hS h
theorem AnyT.firstA {i : Nat} {oi : Oper} {v : Value} (hi : ops[i]? = some oi) (hsel : ∀ (j : Nat) (o : Oper) cs b, ops[j]? = some o → o.op ≠ .select cs b) (hQ : ∀ c a w, Q (.panic c) (a.put oi.dst v) w → Q (.panic c) a w) :
  ∀ (fuel : Nat) (listed : Array Bool) (a : Act) (w : World),
   (∀ j oj, ops[j]? = some oj → j ≠ i → listed.getD j true = false → (∀ e ∈ oj.after, Region.binds md e = true → e.on ≠ i) → oi.apart ops oj = true) →
   i ∈ Region.ready md ops listed → YieldsIf P ops (fun _ => True) oi v a → AnyT P md ops Q S late fuel (listed.setIfInBounds i true) (a.put oi.dst v) w → AnyT P md ops Q S late (fuel + 1) listed a w := by
 intro fuel
 induction fuel with
 | zero =>
  intro listed a w _ hr hy H
  refine ⟨fun h => (by rw [h] at hr; cases hr), fun j hj => ?_⟩
  rcases Classical.em (j = i) with e | e
  ·subst e; exact hy.wpOp hi trivial ⟨fun _ h => h, H⟩
  ·have := ready_mono hj e
   rw [H.1] at this
   cases this
 | succ fuel ih =>
  intro listed a w hfree hr hy H
  refine ⟨fun h => (by rw [h] at hr; cases hr), fun j hj => ?_⟩
  rcases Classical.em (j = i) with e | hji
  ·subst e; exact hy.wpOp hi trivial ⟨fun _ h => h, H⟩
  have h1 := H.2 j (ready_mono hj hji)
  obtain ⟨hjun, oj, hoj, hall⟩ := mem_ready.1 hj
  have h0 := (mem_ready.1 hr).1
  have hnot : ∀ e ∈ oj.after, Region.binds md e = true → e.on ≠ i := fun e he hb heq => by
   have h1 := hall e he hb
   rw [heq] at h1
   rcases Nat.lt_or_ge i listed.size with h' | h'
   ·simp [h'] at h0 h1; rw [h0] at h1; cases h1
   ·simp [Array.getElem?_eq_none h'] at h1
  have un : ∀ (k : Nat), (listed.setIfInBounds j true).getD k true = false → listed.getD k true = false := fun k h => by
   rcases Classical.em (k = j) with e | e
   ·rw [e]; exact hjun
   ·rwa [getD_set_ne true (fun e' => e e'.symm)] at h
  have h2 := wpOp_putIf hoj (hfree j oj hoj hji hjun hnot) (fun cs b => hsel i oi cs b hi) (fun cs b => hsel j oj cs b hoj) hQ hy h1
  refine wpOp_mono (fun a' w' h3 => ⟨h3.2.1, ih (listed.setIfInBounds j true) a' w' (fun k ok hk hki hun hno => hfree k ok hk hki (un k hun) hno) (ready_mono hr (Ne.symm hji)) h3.1 ?_⟩) h2
  rw [Array.setIfInBounds_comm _ _ hji]
  exact h3.2.2
theorem AnyT.takeA {i : Nat} {oi : Oper} {v : Value} {fuel : Nat} {listed : Array Bool} {a : Act} {w : World} (hi : ops[i]? = some oi) (hs : Region.noSelect ops = true) (hf : Region.free md ops listed i = true) (hr : (Region.ready md ops listed).contains i = true)
  (hQ : ∀ c a w, Q (.panic c) (a.put oi.dst v) w → Q (.panic c) a w) (hy : YieldsIf P ops (fun _ => True) oi v a) (h : AnyT P md ops Q S late fuel (listed.setIfInBounds i true) (a.put oi.dst v) w) : AnyT P md ops Q S late (fuel + 1) listed a w :=
 AnyT.firstA hi (Region.noSelect_spec hs) hQ fuel listed a w (Region.free_spec hi hf) (by simpa using hr) hy h
theorem AnyT.call {i : Nat} {o : Oper} {fuel : Nat} {listed : Array Bool} {a : Act} {w : World} (hr : Region.ready md ops listed = [i]) (ho : ops[i]? = some o)
  (h : ∀ K' : Act → World → Prop, Shut (∀ a w', (late i = false → S w → S w') → ((late i = false → S w → S w') → AnyT P md ops Q S late fuel (listed.setIfInBounds i true) a w') → K' a w') → if Region.wanted o (yielded ops a.tmps) = true then Oper.wp P o a w K' Q else K' (a.put o.dst undef) w) : AnyT P md ops Q S late (fuel + 1) listed a w :=
 ⟨fun h0 => absurd (hr ▸ h0) (by simp), fun j hj => by
  rw [hr, List.mem_singleton] at hj
  subst hj
  exact wpOp_step ho (fun K' hK => h K' (fun a w' hS hW => hK a w' ⟨hS, hW hS⟩))⟩
theorem AnyT.done {listed : Array Bool} {a : Act} {w : World} (hr : Region.ready md ops listed = []) (h : Q .normal a w) : ∀ fuel, AnyT P md ops Q S late fuel listed a w
 | 0 => ⟨hr, h⟩
 | _ + 1 => ⟨fun _ => h, by rw [hr]; simp⟩
theorem AnyT.start {id : Nat} {a : Act} {w : World} (late : Nat → Bool) (hm : P.follows .mixedOrders = true) (hS : S w.drew) (h : S w.drew → AnyT P .any ops Q S late ops.size (Array.replicate ops.size false) a w.drew) : (Code.region id ops true).wp P Q a w :=
 wp_region_any hm (AnyT.any _ _ _ _ (h hS))
end
end heldT
end
section
namespace unifRep
open Go.RowKit base ints sig cursor marks app sym segs fillMath gives unifMath Go.Proofs.Ytfclafbdbdmlhaa.look thn heldT
set_option maxRecDepth 100000
section
variable {w w' : World} {g : Nat} {A : Option Addr} {n c : Nat} {sg : List Int} {P : Option Addr} {pn pc : Nat} {x : List Int} {Q : Option Addr} {qn qc : Nat} {y : List Int} {gl : Nat} {lb : Array Value} {L : Nat → List Int}
end
end unifRep
end
section
open Go.Lib (hid)
namespace genSt
open Go.RowKit base ints sig cursor marks app appAt sym segs segsHelp kinds term sub curO concat anyOf inside unifMath genMath genPos genTab appZ unifRep
set_option maxRecDepth 100000
def gcs (A : Option Addr) (n c : Nat) (P : Option Addr) (m mc i : Nat) (Q : Option Addr) (k kc j : Nat) (D : Option Addr) (dn dc : Nat) : Array Value :=
 #[.slice A n c, .slice P m mc, .int .i64 (i : Int), .slice A n c, .slice Q k kc, .int .i64 (j : Int), .slice D dn dc]
structure Gn (w : World) (g hi : Nat) (A : Option Addr) (n c : Nat) (sg : List Int) (P : Option Addr) (m mc : Nat) (a : List Int) (i : Nat) (Q : Option Addr) (k kc : Nat) (b : List Int) (j : Nat) (D : Option Addr) (dn dc : Nat) (xss : List (List Int)) : Prop where
 row : Row w g 118 (gcs A n c P m mc i Q k kc j D dn dc)
 s : Seg w g A n sg
 pa : Seg w g P m a
 qb : Seg w g Q k b
 o : Owns w (g + 1) hi D dn dc xss
 le : hi ≤ w.heap.size
 li : i ≤ m
 lj : j ≤ k
 hn : n ≤ 1048576
 hm : m ≤ 1048576
 hk : k ≤ 1048576
 ars : Arities sg
section
variable {w w' : World} {g hi : Nat} {A : Option Addr} {n c : Nat} {sg : List Int} {P : Option Addr} {m mc : Nat} {a : List Int} {i i' : Nat} {Q : Option Addr} {k kc : Nat} {b : List Int} {j j' : Nat} {D : Option Addr} {dn dc : Nat} {xss : List (List Int)}
theorem Gn.lt (h : Gn w g hi A n c sg P m mc a i Q k kc b j D dn dc xss) : g < w.heap.size := h.row.lt
theorem Gn.next (h : Gn w g hi A n c sg P m mc a i Q k kc b j D dn dc xss) (hb : Below w.heap.size w w') : Gn w' g hi A n c sg P m mc a i Q k kc b j D dn dc xss :=
 have hp := Nat.le_of_lt h.row.lt
 ⟨h.row.next hb, h.s.below (hb.mono hp), h.pa.below (hb.mono hp), h.qb.below (hb.mono hp), h.o.next hb, Nat.le_trans h.le hb.size, h.li, h.lj, h.hn, h.hm, h.hk, h.ars⟩
theorem Gn.alloc (h : Gn w g hi A n c sg P m mc a i Q k kc b j D dn dc xss) (o : Obj) : Gn (w.alloc o) g hi A n c sg P m mc a i Q k kc b j D dn dc xss := h.next ((Below.refl _ _).alloc (Nat.le_refl _) o)
theorem Gn.drewN (h : Gn w g hi A n c sg P m mc a i Q k kc b j D dn dc xss) (d : Nat) : Gn (w.drewN d) g hi A n c sg P m mc a i Q k kc b j D dn dc xss := h.next ⟨rfl, rfl, rfl, Nat.le_refl _, fun _ _ => rfl⟩
theorem Gn.cell (h : Gn w g hi A n c sg P m mc a i Q k kc b j D dn dc xss) (z : Nat) : w.cell? ⟨g, z, none⟩ = (gcs A n c P m mc i Q k kc j D dn dc)[z]? := h.row.cell z
theorem Gn.move (h : Gn w g hi A n c sg P m mc a i Q k kc b j D dn dc xss) (hg : w.grownBy w' (some g)) (hr : Row w' g 118 (gcs A n c P m mc i' Q k kc j' D dn dc)) (hi' : i' ≤ m) (hj' : j' ≤ k) : Gn w' g hi A n c sg P m mc a i' Q k kc b j' D dn dc xss :=
 have hp := h.row.lt
 ⟨hr, seg_grown h.s hg hp, seg_grown h.pa hg hp, seg_grown h.qb hg hp, h.o.btw (Btw.of_grown (lo := g) (hi := g + 1) hg (fun z e => by injection e; omega)) (by right; omega), Nat.le_trans h.le hg.size, hi', hj', h.hn, h.hm, h.hk, h.ars⟩
theorem Gn.curA (h : Gn w g hi A n c sg P m mc a i Q k kc b j D dn dc xss) : CurO w g 0 118 (gcs A n c P m mc 0 Q k kc j D dn dc) A n c P m mc sg a i :=
 ⟨by have r := h.row; simpa [gcs] using r, by simp [gcs], by simp [gcs], by simp [gcs], h.s, h.pa, h.li, h.hn, h.hm, h.ars⟩
theorem Gn.curB (h : Gn w g hi A n c sg P m mc a i Q k kc b j D dn dc xss) : CurO w g 3 118 (gcs A n c P m mc i Q k kc 0 D dn dc) A n c Q k kc sg b j :=
 ⟨by have r := h.row; simpa [gcs] using r, by simp [gcs], by simp [gcs], by simp [gcs], h.s, h.qb, h.lj, h.hn, h.hk, h.ars⟩
theorem rowA (h : CurO w g 0 118 (gcs A n c P m mc 0 Q k kc j D dn dc) A n c P m mc sg a i) : Row w g 118 (gcs A n c P m mc i Q k kc j D dn dc) := by have r := h.row; simpa [gcs] using r
theorem rowB (h : CurO w g 3 118 (gcs A n c P m mc i Q k kc 0 D dn dc) A n c Q k kc sg b j) : Row w g 118 (gcs A n c P m mc i Q k kc j D dn dc) := by have r := h.row; simpa [gcs] using r
end
theorem partA {w : World} {g hi : Nat} {A : Option Addr} {n c : Nat} {sg : List Int} {b1 o1 m mc : Nat} {a : List Int} {i : Nat} {Q : Option Addr} {k kc : Nat} {b : List Int} {j : Nat} {D : Option Addr} {dn dc : Nat} {xss : List (List Int)} (h : Gn w g hi A n c sg (some ⟨b1, o1, none⟩) m mc a i Q k kc b j D dn dc xss) {p : Nat} (hp : scan sg 1 (a.drop i) = some p) (hip : i + p ≤ m) (h1 : 1 ≤ p) (hmc : m ≤ mc) (hc : mc ≤ 9223372036854775807) :
  Calls Try.prog 90 #[.pointer (some ⟨g, 0, none⟩)] w fun e w' => e = .returned (.slice (some ⟨b1, o1 + i, none⟩) p (mc - i)) ∧ Gn w' g hi A n c sg (some ⟨b1, o1, none⟩) m mc a (i + p) Q k kc b j D dn dc xss ∧ w.grownBy w' (some g) :=
 (partO g 0 _ _ A n c b1 o1 m mc sg a i p w h.curA hp hip h1 hmc hc).mono fun _ _ ⟨e1, e2, e3⟩ => ⟨e1, h.move e2 (rowA e3) hip h.lj, e2⟩
theorem partB {w : World} {g hi : Nat} {A : Option Addr} {n c : Nat} {sg : List Int} {P : Option Addr} {m mc : Nat} {a : List Int} {i : Nat} {b2 o2 k kc : Nat} {b : List Int} {j : Nat} {D : Option Addr} {dn dc : Nat} {xss : List (List Int)} (h : Gn w g hi A n c sg P m mc a i (some ⟨b2, o2, none⟩) k kc b j D dn dc xss) {q : Nat} (hq : scan sg 1 (b.drop j) = some q) (hjq : j + q ≤ k) (h1 : 1 ≤ q) (hkc : k ≤ kc) (hc : kc ≤ 9223372036854775807) :
  Calls Try.prog 90 #[.pointer (some ⟨g, 3, none⟩)] w fun e w' => e = .returned (.slice (some ⟨b2, o2 + j, none⟩) q (kc - j)) ∧ Gn w' g hi A n c sg P m mc a i (some ⟨b2, o2, none⟩) k kc b (j + q) D dn dc xss ∧ w.grownBy w' (some g) :=
 (partO g 3 _ _ A n c b2 o2 k kc sg b j q w h.curB hq hjq h1 hkc hc).mono fun _ _ ⟨e1, e2, e3⟩ => ⟨e1, h.move e2 (rowB e3) h.li hjq, e2⟩
theorem catTwo {w : World} {gb : Nat} {X Y : Option Addr} {xn xc yn yc : Nat} {x y : List Int} (hr : Row w gb 24 #[.slice X xn xc, .slice Y yn yc]) (hx : Seg w w.heap.size X xn x) (hy : Seg w w.heap.size Y yn y) (kx : Cap X xn xc) (ky : Cap Y yn yc) (lx : xn ≤ 1000) (ly : yn ≤ 1000) :
  Calls Try.prog 86 #[.slice (some ⟨gb, 0, none⟩) 2 2] w (AnsList w (x ++ y)) := by
 have hs : Segs w w.heap.size (some ⟨gb, 0, none⟩) 2 [x, y] := ⟨rfl, fun _ => ⟨gb, 0, rfl, hr.lt, fun j hj => by
  match j, hj with
  | 0, _ => exact ⟨X, xn, xc, hr.cell 0, hx, kx⟩
  | 1, _ => exact ⟨Y, yn, yc, hr.cell 1, hy, ky⟩⟩⟩
 have h := concat (some ⟨gb, 0, none⟩) 2 2 [x, y] w hs (by simp [tot, sumL]; rw [hx.1, hy.1]; omega)
 simpa using h
def AnsFx (w : World) (f : List Int → Bool) (n : Nat) (xss : List (List Int)) (e : Ending) (w' : World) : Prop :=
 Below w.heap.size w w' ∧ ((∃ k : Nat, k < n ∧ e = .returned (.int .i64 (k : Int)) ∧ f (xss.getD k []) = true) ∨ (e = .returned (.int .i64 (-1)) ∧ ∀ j, j < n → f (xss.getD j []) = false))
set_option maxHeartbeats 2000000 in
theorem indexAt (g : Nat) (lb : Array Value) (eg : ∀ args w, (callFunc g args).run Try.prog w = .ok (.enter g args) w) (f : List Int → Bool) (A : Option Addr) (n c : Nat) (xss : List (List Int)) (w : World) (hT : Tests g lb w f)
  (h : Segs w w.heap.size A n xss) (hn : n ≤ 1048576) (hE : ∀ j, (xss.getD j []).length ≤ 1048576) :
  Calls Try.prog 138 #[.slice A n c, .func (.func g) #[] lb] w (AnsFx w f n xss) := by
 have HE := hid hE
 have HL := hid h.1
 have HK := hid hT
 have HH : Hid (HeadIx w n f xss (.int .i64 0) w) := hid ⟨0, Nat.zero_le _, rfl, fun j hj => absurd hj (Nat.not_lt_zero _), Below.refl _ _⟩
 clear hE hT
 go_enter Try.func138, Try.ntmps138
 go_wp2_with fail
 go_loopw [8] (fun i wr => HeadIx w n f xss i wr) (fun i _ => n - (intOf i).toNat)
 case atStart => exact HH.out
 case round =>
  obtain ⟨k, hk, rfl, hlow, hb⟩ := hrel
  have HLOW := hid hlow
  clear hlow HH
  by_cases hlt : k < n
  ·obtain ⟨b, off, A', n', cc, rfl, hbB, hx0, hseg, hcap⟩ := h.spot hlt
   have hx : wr.cell? ⟨b, off + k, none⟩ = some (.slice A' n' cc) := (hb.cell (p := ⟨b, off + k, none⟩) hbB).trans hx0
   have hn' : n' ≤ 1048576 := by rw [← hseg.1]; exact HE.out k
   obtain ⟨ys, hys⟩ : ∃ ys, xss.getD k [] = ys := ⟨_, rfl⟩
   rw [hys] at hseg
   have HY := hid hys
   have hcall := HK.out wr A' n' cc ys hb (hseg.below hb |>.more hb.size) hn' hcap
   obtain ⟨v, hv⟩ : ∃ v, f ys = v := ⟨_, rfl⟩
   rw [hv] at hcall
   have HV := hid hv
   have HC := hid hcall
   have i0 : (0 : Int) ≤ (k : Int) := by omega
   have i1 : (k : Int) < (n : Int) := by omega
   clear hseg hcap h hx0 hys hv hcall
   cases v with
   | true =>
    go_wp2_with (first
     | (go_at_fn g; refine HC.out.mono ?_; rintro e w1 ⟨rfl, bb⟩))
    have F : AnsFx w f n xss (.returned (.int .i64 (k : Int))) w1 := ⟨next_trans hb bb, .inl ⟨k, hlt, rfl, by rw [HY.out]; exact HV.out⟩⟩
    have HF := hid F
    clear F hx bb hb HC
    go_wp2
    go_ret
    exact HF.out
   | false =>
    go_wp2_with (first
     | (go_at_fn g; refine HC.out.mono ?_; rintro e w1 ⟨rfl, bb⟩))
    have S1 : HeadIx w n f xss (.int .i64 ((k : Int) + 1)) w1 := ⟨k + 1, hlt, by simp, fun j hj => by
     by_cases e : j = k
     ·rw [e, HY.out]; exact HV.out
     ·exact HLOW.out j (by omega), next_trans hb bb⟩
    have HS1 := hid S1
    clear S1 hx bb hb HC
    go_wp2
    go_roundw
    case rel => exact HS1.out
    case measure => simp [intOf]; omega
  ·have F : AnsFx w f n xss (.returned (.int .i64 (-1))) wr := ⟨hb, .inr ⟨rfl, fun j hj => HLOW.out j (by omega)⟩⟩
   have HF := hid F
   clear F h hb
   go_wp2
   go_ret
   exact HF.out
def cat (x : List Int × List Int) : List Int := x.1 ++ x.2
def Fine2 (sg : List Int) (T : Tb) : Prop := ∀ x ∈ T, Trm sg x.1 ∧ Trm sg x.2 ∧ x.1.length ≤ 60 ∧ x.2.length ≤ 60
theorem cat_inj {sg s t u v : List Int} (hs : Trm sg s) (hu : Trm sg u) (e : cat (s, t) = cat (u, v)) : s = u ∧ t = v := trm_front hs hu e
theorem cat_get {T : Tb} {k : Nat} (h : k < T.length) : ∃ x, T[k]? = some x ∧ (T.map cat).getD k [] = cat x := ⟨T[k], by simp [h], by simp [List.getD, h]⟩
theorem Fine2.snoc {sg u v : List Int} {T : Tb} (h : Fine2 sg T) (hu : Trm sg u) (hv : Trm sg v) (lu : u.length ≤ 60) (lv : v.length ≤ 60) : Fine2 sg (T ++ [(u, v)]) := fun x hx => by
 rcases List.mem_append.1 hx with hx | hx
 ·exact h x hx
 ·rw [List.mem_singleton] at hx; subst hx; exact ⟨hu, hv, lu, lv⟩
theorem Fine2.each {sg : List Int} {T : Tb} (h : Fine2 sg T) (j : Nat) : ((T.map cat).getD j []).length ≤ 120 := by
 by_cases hj : j < T.length
 ·have hm : T[j] ∈ T := List.getElem_mem hj
  obtain ⟨_, _, h3, h4⟩ := h _ hm
  have e : (T.map cat).getD j [] = cat T[j] := by simp [List.getD, hj]
  rw [e]
  unfold cat
  rw [List.length_append]
  omega
 ·have e : (T.map cat).getD j [] = [] := by simp [List.getD, hj]
  rw [e]; simp
def AnsNx (w : World) (g : Nat) (A : Option Addr) (n c : Nat) (sg : List Int) (P : Option Addr) (m mc : Nat) (a : List Int) (i : Nat) (Q : Option Addr) (k kc : Nat) (b : List Int) (j : Nat) (D : Option Addr) (dn : Nat) (T : Tb) (e : Ending) (w' : World) : Prop :=
 ∃ (x : Int) (i' j' : Nat) (D' : Option Addr) (dn' dc' : Nat) (T' : Tb), e = .returned (.int .i64 x) ∧ Gn w' g w'.heap.size A n c sg P m mc a i' Q k kc b j' D' dn' dc' (T'.map cat) ∧ Fine2 sg T' ∧ Two w w' (some ⟨g, 0, none⟩) D ∧ (∀ z, blk D' = some z → z < w.heap.size → blk D = some z) ∧
  (∀ Z : Nat → Prop, (∀ z, Z z → z < w.heap.size) → Avoid Z w D dn → Avoid Z w' D' dn') ∧
  ((0 ≤ x ∧ a.getD i 0 = x ∧ b.getD j 0 = x ∧ i' = i + 1 ∧ j' = j + 1 ∧ T' = T) ∨ (i' = i + (subL sg a i).length ∧ j' = j + (subL sg b j).length ∧ Gs sg T 1 (subL sg a i) (subL sg b j) [x] T'))
end genSt
end
section
namespace plainOf
open Go.RowKit base ints sig cursor marks app appAt sym sub segs segsHelp kinds varsOf fillMath Go.Proofs.Ytfclafbdbdmlhaa.look substOk gives plainMath plain
set_option maxRecDepth 100000
end plainOf
end
section
namespace compMath
open term termOk termFacts segsHelp fillMath substOk gives plainMath plainOf
end compMath
end
section
namespace shifted
open Go.RowKit base ints sig term termOk marks app sym segs termFacts varsMath fillMath Go.Proofs.Ytfclafbdbdmlhaa.look
set_option maxRecDepth 100000
end shifted
end
section
namespace filled
open Go.RowKit base ints sig cursor term termOk marks app appAt sym sub segs segsHelp termFacts varsMath varsOf fillMath Go.Proofs.Ytfclafbdbdmlhaa.look shifted substOk gives
set_option maxRecDepth 100000
end filled
end
section
namespace maxi
open Go.RowKit base
end maxi
end
section
namespace compSpec
open Go.RowKit base ints sig cursor marks app appAt sym segs segsHelp kinds termFacts fillMath substOk gives shifted filled plainMath plain plainOf compMath maxi
set_option maxRecDepth 100000
end compSpec
end
section
namespace compImpl
open Go.RowKit base ints sig cursor marks app appAt sym segs segsHelp kinds termFacts fillMath Go.Proofs.Ytfclafbdbdmlhaa.look substOk gives shifted filled plainMath plain plainOf compMath compSpec thn
set_option maxRecDepth 100000
theorem sz_alloc (w : World) (o : Obj) : (w.alloc o).heap.size = w.heap.size + 1 := by simp
theorem sz_drew (w : World) : w.drew.heap.size = w.heap.size := rfl
theorem row_top {w : World} {t : TypeId} {cs : Array Value} {n : Nat} (hn : n = w.heap.size) : Row (w.alloc (.cells cs t)) n t cs := by subst hn; exact Row.new _ _ _
theorem row_alloc {w : World} {o : Obj} {t : TypeId} {cs : Array Value} {n : Nat} (h : Row w n t cs) : Row (w.alloc o) n t cs := h.alloc o
theorem row_drew {w : World} {t : TypeId} {cs : Array Value} {n : Nat} (h : Row w n t cs) : Row w.drew n t cs := h.drew
theorem keep_alloc {w : World} {a : Addr} {v : Value} {o : Obj} (h : w.cell? a = some v) : (w.alloc o).cell? a = some v := (World.cell?_alloc_some w a o (by rw [h]; rfl)).trans h
theorem cell_top {w : World} {v : Value} {t : TypeId} {n : Nat} (hn : n = w.heap.size) : (w.alloc (.cells #[v] t)).cell? ⟨n, 0, none⟩ = some v := by subst hn; simp
end compImpl
end
section
namespace appStep
open Go.RowKit base ints cursor same marks app appAt sym sub segs segsHelp kinds Go.Proofs.Ytfclafbdbdmlhaa.look plain appZ
set_option maxRecDepth 100000
set_option maxHeartbeats 1000000 in
theorem stepS1Z {w : World} {ops : Array Oper} {o : Oper} {a : Act} {K : Act → World → Prop} {Q : Exit → Act → World → Prop} {E : Prop} (hgd : o.guard = none) (s x : Operand)
  (ho : o.op = .call { callee := .builtin .append, args := #[s, x], argTypes := #[53, 53] })
  (lo mid : Nat) (A : Option Addr) (n c : Nat) (xss : List (List Int)) (hs : a.eval s = .slice A n c) (hown : Owns w lo mid A n c xss)
  (g c2 : Nat) (v : Value) (ys : List Int) (hx : a.eval x = .slice (some ⟨g, 0, none⟩) 1 c2) (hy : w.cell? ⟨g, 0, none⟩ = some v) (hv : Inn w mid w.heap.size v ys) (hn : n ≤ 1048576) (hlo : lo ≤ mid) (hmid : mid ≤ w.heap.size) (H : Nat) (hH : w.heap.size = H)
  (h : ∀ g' c' w', Owns w' lo w'.heap.size (some ⟨g', 0, none⟩) (n + 1) c' (xss ++ [ys]) → w.grownBy w' (blk A) → (blk A = some g' ∨ g' = H) → Below lo w w' → (∀ j u, j < n + 1 → w'.cell? ⟨g', j, none⟩ = some u → (∃ b, j < n ∧ A = some ⟨b, 0, none⟩ ∧ w.cell? ⟨b, j, none⟩ = some u) ∨ (j = n ∧ u = v)) → K (a.put o.dst (.slice (some ⟨g', 0, none⟩) (n + 1) c')) w') :
  if Region.wanted o (yielded ops a.tmps) = true then Oper.wp Try.prog o a w K Q else E := by
 obtain ⟨i0, hi, hz0, hz1, hz2⟩ := info_parts info_list
 obtain ⟨hlen, ⟨vs, hr, hin, hap⟩, htop⟩ := hown
 have hvl : vs.length = n := by have := hr.1; omega
 have hvc : v.oneCell' = true := by obtain ⟨A1, c1, rfl, _⟩ := hv; rfl
 refine step_append_lies w hgd s x 53 ho lo 24 i0 (.slice none 0 0) 1 24 Try.underlying53 hi hz0 hz1 hz2 rfl (by decide) (.slice A n c) n vs hs hr
  ⟨g, 0, none⟩ 1 c2 [v] hx rfl (fun j u hj => ?_) (fun u hu => ?_) (by omega) (by unfold maxLen; omega) (by omega) (by omega) H hH ?_
 ·match j, hj with
  | 0, hj => simp at hj; subst hj; simpa [Addr.add] using hy
 ·simp at hu; subst hu; exact hvc
 ·intro g' c' w' hown' hg hat hlt
  rw [blk_own] at hg hat
  have hsz := hg.size
  have hne : ∀ {u : Value} {zs : List Int} {l2 h2 : Nat}, Inn w l2 h2 u zs → u.ownBlock = none ∨ u.ownBlock ≠ blk A := fun {u zs l2 h2} hu => by
   rcases own_form hr with ⟨rfl, _⟩ | ⟨g', cur, rfl, _, hrow, _⟩
   ·cases e : u.ownBlock with
    | none => exact .inl rfl
    | some z => exact .inr (fun e2 => by cases e2)
   ·exact .inr (hu.ne hrow)
  have hget : ∀ j, j < n → (vs ++ [v]).getD j undef = vs.getD j undef := fun j hj => by simp [List.getD, List.getElem?_append_left (show j < vs.length by omega)]
  have hget2 : ∀ j, j < n → (xss ++ [ys]).getD j [] = xss.getD j [] := fun j hj => by simp [List.getD, List.getElem?_append_left (show j < xss.length by omega)]
  have hnew : (vs ++ [v]).getD n undef = v := by simp [List.getD, ← hvl]
  have hnew2 : (xss ++ [ys]).getD n [] = ys := by simp [List.getD, ← hlen]
  refine h g' c' w' ⟨by simp [hlen], ⟨vs ++ [v], hown', fun j hj => ?_, fun i j k hij hj e1 e2 => ?_⟩, fun k hk => (World.ownsRow.lt hown' k (by rw [blk_own]; exact hk)).2⟩ hg hat ?_ ?_
  ·by_cases e : j = n
   ·subst e
    rw [hnew, hnew2]
    exact (hv.kept hg (hne hv)).wider (by omega) (by omega)
   ·rw [hget j (by omega), hget2 j (by omega)]
    exact ((hin j (by omega)).kept hg (hne (hin j (by omega)))).wider (Nat.le_refl _) (by omega)
  ·by_cases e : j = n
   ·subst e
    rw [hget i hij] at e1
    rw [hnew] at e2
    have h1 := ((hin i hij).blk k e1).2.1
    have h2 := (hv.blk k e2).1
    omega
   ·rw [hget i (by omega)] at e1
    rw [hget j (by omega)] at e2
    exact hap i j k hij (by omega) e1 e2
  ·refine (Below.refl lo w).grown hg (by omega) (fun k hk => ?_)
   exact (World.ownsRow.lt hr k (by rw [blk_own]; exact hk)).1
  ·intro j u hj hc
   rcases own_form (n := n + 1) hown' with ⟨e, _⟩ | ⟨g2, cur, e, _, hrow, _, _, _, _, hcell⟩
   ·cases e
   ·injection e with e
    injection e with e1
    subst e1
    rw [hrow.cell j, hcell j hj] at hc
    injection hc with hc
    by_cases e : j = n
    ·subst e
     rw [hnew] at hc
     exact .inr ⟨rfl, hc.symm⟩
    ·refine .inl ?_
     rw [hget j (by omega)] at hc
     rcases own_form (n := n) hr with ⟨_, hz, _⟩ | ⟨g3, cur3, e3, _, hrow3, _, _, _, _, hcell3⟩
     ·omega
     ·exact ⟨g3, by omega, e3, by rw [hrow3.cell j, hcell3 j (by omega), hc]⟩
end appStep
end
end Go.Proofs.Ytfclafbdbdmlhaa
