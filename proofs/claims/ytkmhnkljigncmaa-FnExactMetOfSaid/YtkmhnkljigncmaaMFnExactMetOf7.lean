/-
  MERGED: my texts GenRec, GenMain, General, Met, MetX, WMetOf, one behind the other, as they are. By an AI agent.
-/
import Derived.Test.YtkmhnkljigncmaaMFnExactMetOf6
import Derived.Deep.RegionHeld3
section
/-
  The loop of spec.l5General over the arguments: what stands at its head ('Hr'), and one round ('Hr.step'). By an AI agent.
-/
namespace Go.Proofs.Ytkmhnkljigncmaa.genRec
open Go.RowKit Go.Proofs.Ytkmhnkljigncmaa.base Go.Proofs.Ytkmhnkljigncmaa.ints Go.Proofs.Ytkmhnkljigncmaa.sig Go.Proofs.Ytkmhnkljigncmaa.cursor Go.Proofs.Ytkmhnkljigncmaa.marks Go.Proofs.Ytkmhnkljigncmaa.app Go.Proofs.Ytkmhnkljigncmaa.appAt Go.Proofs.Ytkmhnkljigncmaa.sym Go.Proofs.Ytkmhnkljigncmaa.segs Go.Proofs.Ytkmhnkljigncmaa.segsHelp Go.Proofs.Ytkmhnkljigncmaa.term Go.Proofs.Ytkmhnkljigncmaa.args Go.Proofs.Ytkmhnkljigncmaa.sub Go.Proofs.Ytkmhnkljigncmaa.look Go.Proofs.Ytkmhnkljigncmaa.plain Go.Proofs.Ytkmhnkljigncmaa.same Go.Proofs.Ytkmhnkljigncmaa.posMath Go.Proofs.Ytkmhnkljigncmaa.unifMath Go.Proofs.Ytkmhnkljigncmaa.genMath Go.Proofs.Ytkmhnkljigncmaa.genPos Go.Proofs.Ytkmhnkljigncmaa.genTab Go.Proofs.Ytkmhnkljigncmaa.appZ Go.Proofs.Ytkmhnkljigncmaa.genSpec

theorem gs_bnd {sg : List Int} {T T' : Tb} {n B : Nat} {u w g : List Int} (h : Gs sg T n u w g T') : (∀ x ∈ T, x.1.length ≤ B ∧ x.2.length ≤ B) → u.length ≤ B → w.length ≤ B → ∀ x ∈ T', x.1.length ≤ B ∧ x.2.length ≤ B := by
  induction h with
  | nil T => exact fun h _ _ => h
  | sym _ _ _ ih => exact fun h h1 h2 => ih h (by simp only [List.length_cons] at h1; omega) (by simp only [List.length_cons] at h2; omega)
  | old _ _ _ _ _ ih => exact fun h h1 h2 => ih h (by simp only [List.length_append] at h1; omega) (by simp only [List.length_append] at h2; omega)
  | new _ _ _ _ _ ih =>
    intro h h1 h2
    simp only [List.length_append] at h1 h2
    refine ih (fun x hx => ?_) (by omega) (by omega)
    rcases List.mem_append.mp hx with hx | hx
    · exact h x hx
    · simp only [List.mem_singleton] at hx
      subst hx
      exact ⟨by simp only; omega, by simp only; omega⟩
theorem gs_pos {sg : List Int} {T T' : Tb} {n : Nat} {u w g : List Int} (h : Gs sg T n u w g T') : n ≤ g.length := by
  induction h with
  | nil T => simp
  | sym _ _ _ ih => simp only [List.length_cons]; omega
  | old _ _ _ _ _ ih => simp only [List.length_cons]; omega
  | new _ _ _ _ _ ih => simp only [List.length_cons]; omega
theorem ownRow {w : World} {base n c : Nat} {A : Option Addr} {xs : List Int} (h : Own w base (.slice A n c) xs) : ∀ k, blk A = some k → (∃ cs, Row w k 2 cs) ∧ base ≤ k ∧ k < w.heap.size := fun k hk => by
  have hl := Own.len h
  subst hl
  rcases own_form (n := xs.length) (vs := xs.map (Value.int .i64)) h with ⟨rfl, _⟩ | ⟨g, cur, rfl, hb, hg, _⟩
  · cases hk
  · injection hk with hk
    subst hk
    exact ⟨⟨cur, hg⟩, hb, hg.lt⟩

/-- what stands at the loop's head -/
structure Hr (w wr : World) (lo : Nat) (A : Option Addr) (n c : Nat) (sg : List Int) (P : Option Addr) (m : Nat) (a : List Int) (Q : Option Addr) (k : Nat) (b : List Int) (L R : Option Addr) (ln p q : Nat) (T : Tb) (x : Int) (X : Option Addr) (xn xc : Nat) (Y : Option Addr) (yn yc i : Nat) (L' R' : Option Addr) (ln' lc' rc' : Nat) (O : Option Addr) (on oc : Nat) (g : List Int) (T' : Tb) : Prop where
  r0 : Row wr w.heap.size 26 #[.slice A n c]
  s : Seg wr lo A n sg
  pa : Seg wr lo P m a
  qb : Seg wr lo Q k b
  t : Tabs wr lo L' ln' lc' R' rc' T'
  le : lo ≤ w.heap.size
  two : Two w wr L R
  hl : ∀ k, blk L' = some k → k < w.heap.size → blk L = some k
  hr : ∀ k, blk R' = some k → k < w.heap.size → blk R = some k
  ox : Own wr w.heap.size (.slice X xn xc) (argsL sg a p)
  oy : Own wr w.heap.size (.slice Y yn yc) (argsL sg b q)
  oo : Own wr w.heap.size (.slice O on oc) (x :: g)
  nx : ∀ z, blk O = some z → blk X ≠ some z
  ny : ∀ z, blk O = some z → blk Y ≠ some z
  ga : Ga sg a b p q T i g T'
  av : ∀ Z : Nat → Prop, (∀ z, Z z → z < w.heap.size) → Avoid Z w L ln → Avoid Z w R ln → Avoid Z wr L' ln' ∧ Avoid Z wr R' ln'
  ao : Avoid (fun z => blk O = some z) wr L' ln' ∧ Avoid (fun z => blk O = some z) wr R' ln'
section
variable {w wr wd w5 w6 : World} {lo : Nat} {A : Option Addr} {n c : Nat} {sg : List Int} {P : Option Addr} {m : Nat} {a : List Int} {Q : Option Addr} {k : Nat} {b : List Int} {L R : Option Addr} {ln p q : Nat} {T : Tb} {x : Int} {X : Option Addr} {xn xc : Nat} {Y : Option Addr} {yn yc i : Nat} {L' R' : Option Addr} {ln' lc' rc' : Nat} {O : Option Addr} {on oc : Nat} {g : List Int} {T' : Tb}
theorem own_away {base r0 : Nat} {r : Option Nat} {A : Option Addr} {n c : Nat} {xs : List Int} (h : Own w5 base (.slice A n c) xs) (hg : w5.grownBy w6 r) (hne : ∀ z, r = some z → blk A ≠ some z) (_ : r0 = 0) : Own w6 base (.slice A n c) xs := by
  refine World.ownsRow.kept h hg ?_
  rw [blk_own]
  cases e : blk A with
  | none => exact .inl rfl
  | some z => exact .inr (fun e2 => hne z e2.symm e)
theorem Hr.step (h : Hr w wr lo A n c sg P m a Q k b L R ln p q T x X xn xc Y yn yc i L' R' ln' lc' rc' O on oc g T') {L2 R2 : Option Addr} {n2 lc2 rc2 : Nat} {g' : List Int} {T2 : Tb}
    (hgs : Gs sg T' 1 (subL sg a (argP sg a i (p + 1))) (subL sg b (argP sg b i (q + 1))) g' T2) (ht2 : Tabs w5 lo L2 n2 lc2 R2 rc2 T2) (htwo : Two wr w5 L' R') (hl2 : ∀ k, blk L2 = some k → k < wr.heap.size → blk L' = some k) (hr2 : ∀ k, blk R2 = some k → k < wr.heap.size → blk R' = some k)
    (hav : ∀ Z : Nat → Prop, (∀ z, Z z → z < wr.heap.size) → Avoid Z wr L' ln' → Avoid Z wr R' ln' → Avoid Z w5 L2 n2 ∧ Avoid Z w5 R2 n2)
    {O' : Option Addr} {on' oc' : Nat} (ho6 : Own w6 w.heap.size (.slice O' on' oc') ((x :: g) ++ g')) (hg6 : w5.grownBy w6 (blk O)) (hat6 : blk O' = blk O ∨ blk O' = some w5.heap.size) :
    Hr w w6 lo A n c sg P m a Q k b L R ln p q T x X xn xc Y yn yc (i + 1) L2 R2 n2 lc2 rc2 O' on' oc' (g ++ g') T2 := by
  have tO := ownRow h.oo
  have hzw := h.two.size
  have hz5 := htwo.size
  have hz6 := hg6.size
  have oo5 := htwo.own h.oo h.t.rowL h.t.rowR
  have tO5 := ownRow oo5
  have ox5 := htwo.own h.ox h.t.rowL h.t.rowR
  have oy5 := htwo.own h.oy h.t.rowL h.t.rowR
  have b5 : Below lo wr w5 := htwo.below h.t.loL h.t.loR (Nat.le_trans h.le hzw)
  have hOlo : ∀ z, blk O = some z → w.heap.size ≤ z := fun z hz => (tO z hz).2.1
  have hOL : ∀ z, blk L2 = some z → blk O ≠ some z := fun z hz e => by
    obtain ⟨cs, h1⟩ := ht2.rowL z hz
    obtain ⟨⟨cs2, h2⟩, _⟩ := tO5 z e
    exact Row.ne_ h2 h1 (by decide) rfl
  have hOR : ∀ z, blk R2 = some z → blk O ≠ some z := fun z hz e => by
    obtain ⟨cs, h1⟩ := ht2.rowR z hz
    obtain ⟨⟨cs2, h2⟩, _⟩ := tO5 z e
    exact Row.ne_ h2 h1 (by decide) rfl
  have r5 : Row w5 w.heap.size 26 #[.slice A n c] := htwo.row h.r0 (fun e => by obtain ⟨cs, h1⟩ := h.t.rowL _ e; exact Row.ne_ h.r0 h1 (by decide) rfl) (fun e => by obtain ⟨cs, h1⟩ := h.t.rowR _ e; exact Row.ne_ h.r0 h1 (by decide) rfl)
  have hOs : blk O ≠ some w.heap.size := fun e => by
    obtain ⟨⟨cs, h1⟩, _⟩ := tO5 _ e
    exact Row.ne_ r5 h1 (by decide) rfl
  have hfar : ∀ z, blk O = some z → lo ≤ z := fun z hz => Nat.le_trans h.le (hOlo z hz)
  have hlo5 : lo ≤ w5.heap.size := by have := h.le; omega
  obtain ⟨avO1, avO2⟩ := hav (fun z => blk O = some z) (fun z hz => (tO z hz).2.2) h.ao.1 h.ao.2
  have kL : ∀ b j, L2 = some ⟨b, 0, none⟩ → w6.cell? ⟨b, j, none⟩ = w5.cell? ⟨b, j, none⟩ := fun b j e => World.cell?_of_block (hg6.block b (ht2.l.top b (by rw [e]; rfl)) (fun e2 => hOL b (by rw [e]; rfl) e2.symm))
  have kR : ∀ b j, R2 = some ⟨b, 0, none⟩ → w6.cell? ⟨b, j, none⟩ = w5.cell? ⟨b, j, none⟩ := fun b j e => World.cell?_of_block (hg6.block b (ht2.r.top b (by rw [e]; rfl)) (fun e2 => hOR b (by rw [e]; rfl) e2.symm))
  have two5 : Two w w5 L R := h.two.trans htwo h.hl h.hr
  refine ⟨?_, Seg.far (h.s.below b5) hg6 hlo5 hfar, Seg.far (h.pa.below b5) hg6 hlo5 hfar, Seg.far (h.qb.below b5) hg6 hlo5 hfar, ⟨(Avoid.owns ht2.l avO1 hOL hg6).wider (Nat.le_refl _) hz6, (Avoid.owns ht2.r avO2 hOR hg6).wider (Nat.le_refl _) hz6, ht2.ne⟩, h.le, ?_, fun z hz hlt => h.hl z (hl2 z hz (by omega)) hlt, fun z hz hlt => h.hr z (hr2 z hz (by omega)) hlt, own_away (r0 := 0) ox5 hg6 h.nx rfl, own_away (r0 := 0) oy5 hg6 h.ny rfl, ho6, fun z hz => ?_, fun z hz => ?_, ga_succ h.ga hgs, fun Z hZ a1 a2 => ?_, ?_⟩
  · exact (hg6.block _ r5.lt (fun e => hOs e.symm)).trans r5
  · exact ⟨hg6.os.trans two5.os, hg6.tape.trans two5.tape, hg6.output.trans two5.output, Nat.le_trans two5.size hz6, fun z hz h1 h2 => (hg6.block z (by omega) (fun e => by have := hOlo z e.symm; omega)).trans (two5.block z hz h1 h2)⟩
  · rcases hat6 with e | e
    · exact h.nx z (by rw [← e]; exact hz)
    · intro e2
      rw [e] at hz
      injection hz with hz
      have := (ownRow ox5 z e2).2.2
      omega
  · rcases hat6 with e | e
    · exact h.ny z (by rw [← e]; exact hz)
    · intro e2
      rw [e] at hz
      injection hz with hz
      have := (ownRow oy5 z e2).2.2
      omega
  · obtain ⟨c1, c2⟩ := h.av Z hZ a1 a2
    obtain ⟨d1, d2⟩ := hav Z (fun z hz => by have := hZ z hz; omega) c1 c2
    exact ⟨d1.keep kL, d2.keep kR⟩
  · rcases hat6 with e | e
    · rw [e]; exact ⟨avO1.keep kL, avO2.keep kR⟩
    · refine ⟨(Avoid.fresh ht2.l (fun z hz => ?_)).keep kL, (Avoid.fresh ht2.r (fun z hz => ?_)).keep kR⟩
      · rw [e] at hz; injection hz with hz; omega
      · rw [e] at hz; injection hz with hz; omega
end
end Go.Proofs.Ytkmhnkljigncmaa.genRec
end

section
/-
  CONTRACT: spec.l5General, whole, by induction on the length of what is read. Conditions: the slices read as lists, the places begin subterms, the lists of the tables are at most 1048576 numbers long. By an AI agent.
-/
namespace Go.Proofs.Ytkmhnkljigncmaa.genMain
open Go.RowKit Go.Proofs.Ytkmhnkljigncmaa.base Go.Proofs.Ytkmhnkljigncmaa.ints Go.Proofs.Ytkmhnkljigncmaa.sig Go.Proofs.Ytkmhnkljigncmaa.cursor Go.Proofs.Ytkmhnkljigncmaa.marks Go.Proofs.Ytkmhnkljigncmaa.app Go.Proofs.Ytkmhnkljigncmaa.appAt Go.Proofs.Ytkmhnkljigncmaa.sym Go.Proofs.Ytkmhnkljigncmaa.segs Go.Proofs.Ytkmhnkljigncmaa.segsHelp Go.Proofs.Ytkmhnkljigncmaa.term Go.Proofs.Ytkmhnkljigncmaa.args Go.Proofs.Ytkmhnkljigncmaa.sub Go.Proofs.Ytkmhnkljigncmaa.look Go.Proofs.Ytkmhnkljigncmaa.plain Go.Proofs.Ytkmhnkljigncmaa.same Go.Proofs.Ytkmhnkljigncmaa.posMath Go.Proofs.Ytkmhnkljigncmaa.unifMath Go.Proofs.Ytkmhnkljigncmaa.genMath Go.Proofs.Ytkmhnkljigncmaa.genPos Go.Proofs.Ytkmhnkljigncmaa.genTab Go.Proofs.Ytkmhnkljigncmaa.appZ Go.Proofs.Ytkmhnkljigncmaa.genSpec Go.Proofs.Ytkmhnkljigncmaa.genRec
set_option maxRecDepth 100000

section
variable {w wr w5 : World} {lo : Nat} {A : Option Addr} {n c : Nat} {sg : List Int} {P : Option Addr} {m : Nat} {a : List Int} {Q : Option Addr} {k : Nat} {b : List Int} {L R : Option Addr} {ln p q : Nat} {T : Tb} {x : Int} {X : Option Addr} {xn xc : Nat} {Y : Option Addr} {yn yc i : Nat} {L' R' : Option Addr} {ln' lc' rc' : Nat} {O : Option Addr} {on oc : Nat} {g : List Int} {T' : Tb}
theorem two_drew (h : Two wr.drew w5 L' R') : Two wr w5 L' R' := ⟨h.os, h.tape, h.output, h.size, h.block⟩
theorem cells (h : Hr w wr lo A n c sg P m a Q k b L R ln p q T x X xn xc Y yn yc i L' R' ln' lc' rc' O on oc g T') (htwo : Two wr w5 L' R') : w5.cell? ⟨w.heap.size, 0, none⟩ = some (.slice A n c) ∧ (∀ b o j, X = some ⟨b, o, none⟩ → w5.cell? ⟨b, j, none⟩ = wr.cell? ⟨b, j, none⟩) ∧ (∀ b o j, Y = some ⟨b, o, none⟩ → w5.cell? ⟨b, j, none⟩ = wr.cell? ⟨b, j, none⟩) := by
  have key : ∀ z t cs, Row wr z t cs → t ≠ 24 → Row w5 z t cs := fun z t cs hr ht => htwo.row hr (fun e => by obtain ⟨cs2, h1⟩ := h.t.rowL _ e; exact Row.ne_ hr h1 ht rfl) (fun e => by obtain ⟨cs2, h1⟩ := h.t.rowR _ e; exact Row.ne_ hr h1 ht rfl)
  refine ⟨(key _ _ _ h.r0 (by decide)).cell 0, fun b o j e => ?_, fun b o j e => ?_⟩
  · obtain ⟨⟨cs, h1⟩, _⟩ := ownRow h.ox b (by rw [e]; rfl)
    rw [(key _ _ _ h1 (by decide)).cell j, h1.cell j]
  · obtain ⟨⟨cs, h1⟩, _⟩ := ownRow h.oy b (by rw [e]; rfl)
    rw [(key _ _ _ h1 (by decide)).cell j, h1.cell j]
theorem upto_len {sg t : List Int} {p k : Nat} : (upto sg t p k).length ≤ argP sg t k (p + 1) - (p + 1) ∧ (upto sg t p k).length ≤ t.length := by
  unfold upto
  rw [List.length_take, List.length_drop]
  omega
end
/-- what the loop's head says -/
def HeadR (w : World) (lo : Nat) (A : Option Addr) (n c : Nat) (sg : List Int) (P : Option Addr) (m : Nat) (a : List Int) (Q : Option Addr) (k : Nat) (b : List Int) (L R : Option Addr) (ln p q : Nat) (T : Tb) (x : Int) (X : Option Addr) (xn xc : Nat) (Y : Option Addr) (yn yc : Nat) (l r o iv : Value) (wr : World) : Prop :=
  ∃ (i : Nat) (L' R' : Option Addr) (ln' lc' rc' : Nat) (O : Option Addr) (on oc : Nat) (g : List Int) (T' : Tb), i ≤ xn ∧ l = .slice L' ln' lc' ∧ r = .slice R' ln' rc' ∧ o = .slice O on oc ∧ iv = .int .i64 i ∧ Hr w wr lo A n c sg P m a Q k b L R ln p q T x X xn xc Y yn yc i L' R' ln' lc' rc' O on oc g T'

set_option maxHeartbeats 4000000 in
theorem l5General (A P Q : Option Addr) (n c m mc k kc lo : Nat) (sg a b : List Int) (hn : n ≤ 1048576) (hm : m ≤ 1048576) (hk : k ≤ 1048576) (hcm : m ≤ mc ∧ mc ≤ 9223372036854775807) (hck : k ≤ kc ∧ kc ≤ 9223372036854775807) (hs : Arities sg) :
    ∀ (N : Nat) (L R : Option Addr) (ln lc rc p q j j' : Nat) (T : Tb) (w : World), Seg w lo A n sg → Seg w lo P m a → Seg w lo Q k b → Tabs w lo L ln lc R rc T → lo ≤ w.heap.size → (∀ x ∈ T, x.1.length ≤ 1048576 ∧ x.2.length ≤ 1048576) → T.length + j ≤ 1048576 → scan sg 1 (a.drop p) = some j → scan sg 1 (b.drop q) = some j' → j ≤ N →
    Calls Try.prog 118 #[.agg #[.slice A n c], .slice P m mc, .int .i64 (p : Int), .slice Q k kc, .int .i64 (q : Int), .slice L ln lc, .slice R ln rc] w (AnsGen sg w lo L R ln T (subL sg a p) (subL sg b q)) := by
  intro N
  induction N with
  | zero =>
    intro L R ln lc rc p q j j' T w h hp hq ht hlo hT hTj hj hj' hN
    obtain ⟨_, e, _⟩ := scan_args hj
    omega
  | succ N IH =>
  intro L R ln lc rc p q j j' T w h hp hq ht hlo hT hTj hj hj' hN
  by_cases hsame : 0 ≤ a.getD p 0 ∧ a.getD p 0 = b.getD q 0
  case neg =>
    have hl := ht.len
    exact apart A P Q L R n c m mc k kc ln lc rc lo p q j j' sg a b T w h hp hq ht hlo hn hm hk hcm hck (by omega) hs hj hj' hT hsame
  obtain ⟨h0, hxy⟩ := hsame
  have la := hp.1
  have lb := hq.1
  obtain ⟨ja, ea, hpm, _, _⟩ := scan_args hj
  obtain ⟨jb, eb, hqk, _, _⟩ := scan_args hj'
  have s2 := scan_le hj
  have s3 := scan_le hj'
  rw [List.length_drop] at s2 s3
  rw [la] at hpm s2
  rw [lb] at hqk s3
  have eN : arN sg b q = arN sg a p := by unfold arN; rw [hxy]
  have GD := Lib.hid (fun g T' (e : Ga sg a b p q T (arN sg a p) g T') => ga_done hj hj' h0 hxy e)
  obtain ⟨W, hW⟩ : ∃ W, W = w.alloc (.cells #[.slice A n c] 26) := ⟨_, rfl⟩
  have G0 : Gw w W lo A n c sg P m a Q k b L ln lc R rc T := by rw [hW]; exact Gw.start h hp hq ht hlo
  have T0 := Lib.hid ht
  have LP := Lib.hid (fun w' (G : Gw w w' lo A n c sg P m a Q k b L ln lc R rc T) => l1Args A P n c m mc sg a p _ w' (G.s.more G.low) (G.pa.more G.low) hn hm hs hpm hj (by omega))
  have LQ := Lib.hid (fun w' (G : Gw w w' lo A n c sg P m a Q k b L ln lc R rc T) => l1Args A Q n c k kc sg b q _ w' (G.s.more G.low) (G.qb.more G.low) hn hk hs hqk hj' (by omega))
  obtain ⟨b1, o1, x, hPe, hb1, hx, ex⟩ := G0.pa.spot hpm
  obtain ⟨b2, o2, y, hQe, hb2, hy, ey⟩ := G0.qb.spot hqk
  have hxy2 : x = y := by rw [← ex.out, ← ey.out]; exact hxy
  rw [ex.out] at h0
  have EX := Lib.hid ex.out
  subst hxy2
  have hlx : (argsL sg a p).length = arN sg a p := by unfold argsL arN; rw [places_len]
  have hly : (argsL sg b q).length = arN sg a p := by rw [← eN]; unfold argsL arN; rw [places_len]
  have h3 := argsL_len (t := a) hs p
  have HC := Lib.hid (fun (X Y : Option Addr) (xn xc yn yc i : Nat) (L' R' : Option Addr) (ln' lc' rc' : Nat) (O : Option Addr) (on oc : Nat) (g : List Int) (T' : Tb) wr (H : Hr w wr lo A n c sg P m a Q k b L R ln p q T x X xn xc Y yn yc i L' R' ln' lc' rc' O on oc g T') (hi : i < arN sg a p) => by
    obtain ⟨j1, q1, q2, q3⟩ := arg_sub hj hi
    obtain ⟨j2, q4, q5, q6⟩ := arg_sub hj' (by rw [eN]; exact hi)
    have u1 := upto_len (sg := sg) (t := a) (p := p) (k := i)
    have u2 := upto_len (sg := sg) (t := b) (p := q) (k := i)
    have u3 := gs_len H.ga
    have u4 := argP_ge (sg := sg) (t := a) i (p + 1)
    exact IH L' R' ln' lc' rc' (argP sg a i (p + 1)) (argP sg b i (q + 1)) j1 j2 T' wr.drew H.s.drew H.pa.drew H.qb.drew (H.t.next (drewN_below wr 1)) (Nat.le_trans H.le H.two.size) (gs_bnd H.ga hT (by omega) (by omega)) (by omega) q1 q4 (by omega))
  have HPX := Lib.hid (fun i (hi : i < arN sg a p) => (show (argsL sg a p).getD i 0 = (argP sg a i (p + 1) : Int) from places_get hi))
  have HPY := Lib.hid (fun i (hi : i < arN sg a p) => (show (argsL sg b q).getD i 0 = (argP sg b i (q + 1) : Int) from places_get (by rw [← eN] at hi; exact hi)))
  have HPB := Lib.hid (fun i (hi : i < arN sg a p) => (show argP sg a i (p + 1) ≤ 1048576 ∧ argP sg b i (q + 1) ≤ 1048576 from by
    obtain ⟨j1, q1, q2, q3⟩ := arg_sub hj hi
    obtain ⟨j2, q4, q5, q6⟩ := arg_sub hj' (by rw [eN]; exact hi)
    exact ⟨by omega, by omega⟩))
  subst hPe hQe
  have i0 : (0 : Int) ≤ (p : Int) := by omega
  have i1 : (p : Int) < (m : Int) := by omega
  have j0 : (0 : Int) ≤ (q : Int) := by omega
  have j1 : (q : Int) < (k : Int) := by omega
  have HW := Lib.hid hW
  have HTM := Lib.hid (show T.length ≤ 1048576 by omega)
  have har : arN sg a p ≤ 3 := by omega
  generalize hu : subL sg a p = u at *
  generalize hv : subL sg b q = v at *
  have HLA := Lib.hid la
  have HLU : Hid (∀ i, (subL sg a i).length ≤ a.length) := Lib.hid (fun i => by unfold subL; rw [List.length_take, List.length_drop]; omega)
  clear hW h hp hq ht ex ey hT hj hj' s2 s3 hu hv la lb hs IH hxy ea eb hTj hN h3
  have HLX := Lib.hid hlx
  have HLY := Lib.hid hly
  clear hlx hly eN
  generalize arN sg a p = aN at *
  go_enter Try.func118, Try.ntmps118
  go_wp2_with fail
  rw [← HW.out]
  go_quiet (fail)
  have bd := drewN_below W nq
  have G1 := G0.next bd
  have hx1 : (W.drewN nq).cell? ⟨b1, o1 + p, none⟩ = some (.int .i64 x) := hx
  clear G0 hx hy HW bd
  generalize W.drewN nq = w1 at *
  have G1z := Lib.hid G1.bel.size
  have B2 : Below w1.heap.size w1 (w1.alloc (.cells #[.int .i64 x] 2)) := (Below.refl _ _).alloc (Nat.le_refl _) _
  have G2 := G1.next B2
  have O2 := one_own w1 w.heap.size x G1.bel.size
  have c2 : (w1.alloc (.cells #[.int .i64 x] 2)).cell? ⟨w.heap.size, 0, none⟩ = some (.slice A n c) := G2.c0
  have z2 : (w1.alloc (.cells #[.int .i64 x] 2)).heap.size = w1.heap.size + 1 := by simp
  have L2 := Lib.hid (LP.out _ G2)
  clear LP
  go_wp2_with fail
  refine L2.out.mono ?_
  rintro e w3 ⟨X, xn, xc, rfl, ox, bb⟩
  have G3 := G2.next bb
  have O3 := Own.next O2 bb
  have z3 := bb.size
  clear G1 G2 O2 c2 bb L2 hx1 B2
  have c3 := G3.c0
  go_wp2_with fail
  refine (LQ.out w3 G3).mono ?_
  rintro e w4 ⟨Y, yn, yc, rfl, oy, bb⟩
  have G4 := G3.next bb
  have O4 := Own.next O3 bb
  have ox4 := Own.next ox bb
  have hxn : xn = aN := by rw [Own.len ox, HLX.out]
  have hyn : yn = aN := by rw [Own.len oy, HLY.out]
  have gx := (ownRow ox)
  have gy := (ownRow oy)
  have zw := G1z.out
  have z4 := bb.size
  have H0 : Hr w w4 lo A n c sg (some ⟨b1, o1, none⟩) m a (some ⟨b2, o2, none⟩) k b L R ln p q T x X xn xc Y yn yc 0 L R ln lc rc (some ⟨w1.heap.size, 0, none⟩) 1 1 [] T := by
    refine ⟨G4.r0, G4.s, G4.pa, G4.qb, G4.t, G4.le, Two.of_below G4.bel, fun k h _ => h, fun k h _ => h, Own.lower ox4 (by omega), Own.lower oy (by omega), O4, fun z hz e => ?_, fun z hz e => ?_, ga_zero, fun Z hZ a1 a2 => ⟨avSame G4.bel T0.out.l.top a1, avSame G4.bel T0.out.r.top a2⟩, Avoid.fresh (T0.out.l.next G4.bel) (fun z hz => ?_), Avoid.fresh (T0.out.r.next G4.bel) (fun z hz => ?_)⟩
    · have hz : w1.heap.size = z := Option.some.inj hz
      have := (gx z e).2.1
      omega
    · have hz : w1.heap.size = z := Option.some.inj hz
      have := (gy z e).2.1
      omega
    · have hz : w1.heap.size = z := Option.some.inj hz
      omega
    · have hz : w1.heap.size = z := Option.some.inj hz
      omega
  have HS := Lib.hid (show HeadR w lo A n c sg (some ⟨b1, o1, none⟩) m a (some ⟨b2, o2, none⟩) k b L R ln p q T x X xn xc Y yn yc (.slice L ln lc) (.slice R ln rc) (.slice (some ⟨w1.heap.size, 0, none⟩) 1 1) (.int .i64 0) w4 from ⟨0, L, R, ln, lc, rc, _, 1, 1, [], T, Nat.zero_le _, rfl, rfl, rfl, rfl, H0⟩)
  clear H0 G3 G4 O3 O4 ox ox4 oy gx gy bb c3 z2 z3 z4 zw LQ T0 G1z
  go_wp2_with fail
  go_loopw [5, 6, 17, 20] (fun l r o i wr => HeadR w lo A n c sg (some ⟨b1, o1, none⟩) m a (some ⟨b2, o2, none⟩) k b L R ln p q T x X xn xc Y yn yc l r o i wr) (fun _ _ _ i _ => xn - (intOf i).toNat)
  case atStart => exact HS.out
  case round =>
    obtain ⟨i, L', R', ln', lc', rc', O, on, oc, g, T', hi, rfl, rfl, rfl, rfl, H⟩ := hrel
    clear HS
    by_cases hlt : i < xn
    · have i3 : (0 : Int) ≤ (i : Int) := by omega
      have i4 : (i : Int) < (xn : Int) := by omega
      have i5 : (i : Int) < (yn : Int) := by omega
      obtain ⟨bX, oX, vX, hXe, hbX, cX, eX⟩ := (Own.seg H.ox).spot hlt
      obtain ⟨bY, oY, vY, hYe, hbY, cY, eY⟩ := (Own.seg H.oy).spot (k := i) (by omega)
      rw [show vX = (argP sg a i (p + 1) : Int) by rw [← eX.out]; exact HPX.out i (by omega)] at cX
      rw [show vY = (argP sg b i (q + 1) : Int) by rw [← eY.out]; exact HPY.out i (by omega)] at cY
      have CL := Lib.hid (HC.out X Y xn xc yn yc i L' R' ln' lc' rc' O on oc g T' wr H (by omega))
      have c0 : wr.cell? ⟨w.heap.size, 0, none⟩ = some (.slice A n c) := H.r0.cell 0
      have hon : on ≤ 1048577 := by
        have e1 := Own.len H.oo
        have e2 := gs_glen H.ga
        have e3 := (upto_len (sg := sg) (t := a) (p := p) (k := i)).2
        have e4 := HLA.out
        simp only [List.length_cons] at e1
        omega
      have KC := Lib.hid (fun w5 (h : Two wr.drew w5 L' R') => cells H (two_drew h))
      have KO := Lib.hid (fun w5 (h : Two wr.drew w5 L' R') => (two_drew h).own H.oo H.t.rowL H.t.rowR)
      have hzz := H.two.size
      have HH := Lib.hid H
      have hb := HPB.out i (by omega)
      subst hXe hYe
      clear H eX eY
      generalize hpx : argP sg a i (p + 1) = px at *
      generalize hpy : argP sg b i (q + 1) = py at *
      have HPX' := Lib.hid hpx
      have HPY' := Lib.hid hpy
      clear hpx hpy
      go_wp2_with fail
      go_region_held3 (fun w' => w'.cell? ⟨w.heap.size, 0, none⟩ = some (.slice A n c) ∧ w'.cell? ⟨bX, oX + i, none⟩ = some (.int .i64 (px : Int)) ∧ w'.cell? ⟨bY, oY + i, none⟩ = some (.int .i64 (py : Int)))
        (go_keep)
        (first
          | (go_at_call 118; refine CL.out.mono ?_; rintro e w5 ⟨g', T2, O2, L2, R2, on2, oc2, n2, lc2, rc2, rfl, ho2, hgs2, ht2, htwo, hl2, hr2, hav2⟩; have c0' : w5.cell? ⟨w.heap.size, 0, none⟩ = some (.slice A n c) := (KC.out _ htwo).1; have cX' : w5.cell? ⟨bX, oX + i, none⟩ = some (.int .i64 (px : Int)) := ((KC.out _ htwo).2.1 _ _ _ rfl).trans cX; have cY' : w5.cell? ⟨bY, oY + i, none⟩ = some (.int .i64 (py : Int)) := ((KC.out _ htwo).2.2 _ _ _ rfl).trans cY))
      have hgp := gs_pos hgs2
      have hgl := gs_glen hgs2
      have hul := HLU.out px
      have hla := HLA.out
      have e2 := Own.len ho2
      have oo5 := KO.out _ htwo
      have z5 := htwo.size
      have hbase : w.heap.size ≤ w5.heap.size := by
        have e5 : wr.heap.size ≤ w5.heap.size := z5
        omega
      have STEP := Lib.hid (fun (O' : Option Addr) (on' oc' : Nat) w6 (ho6 : Own w6 w.heap.size (.slice O' on' oc') ((x :: g) ++ g')) (hg6 : w5.grownBy w6 (blk O)) (hat6 : blk O' = blk O ∨ blk O' = some w5.heap.size) => HH.out.step (by rw [HPX'.out, HPY'.out]; exact hgs2) ht2 (two_drew htwo) hl2 hr2 hav2 ho6 hg6 hat6)
      clear hgs2 hl2 hr2 hav2 ht2 htwo KC KO HH CL HC c0 c0' cX cX' cY cY'
      go_wp2_with (at_builtin; go_must (refine appAllAt rfl _ _ rfl w.heap.size O on oc (x :: g) rfl oo5 O2 on2 oc2 w5.heap.size g' rfl (Own.seg ho2) (by omega) (by omega) (by omega) hbase ?_; intro O' oc' w6 ho6 hg6 hat6))
      have S := Lib.hid (show HeadR w lo A n c sg (some ⟨b1, o1, none⟩) m a (some ⟨b2, o2, none⟩) k b L R ln p q T x (some ⟨bX, oX, none⟩) xn xc (some ⟨bY, oY, none⟩) yn yc (.slice L2 n2 lc2) (.slice R2 n2 rc2) (.slice O' (on + on2) oc') (.int .i64 ((i : Int) + 1)) w6 from ⟨i + 1, L2, R2, n2, lc2, rc2, O', on + on2, oc', g ++ g', T2, hlt, rfl, rfl, rfl, by simp, STEP.out _ _ _ _ ho6 hg6 hat6⟩)
      clear STEP ho6 hg6 hat6 oo5 ho2
      go_wp2
      go_roundw
      case rel => rw [← e2]; exact S.out
      case measure => simp [intOf]; omega
    · obtain rfl : i = xn := by omega
      have hga := H.ga
      rw [hxn] at hga
      have hgs := GD.out g T' hga
      rw [EX.out] at hgs
      have F := Lib.hid (show AnsGen sg w lo L R ln T u v (.returned (.tuple #[.slice O on oc, .slice L' ln' lc', .slice R' ln' rc'])) wr from ⟨x :: g, T', O, L', R', on, oc, ln', lc', rc', rfl, H.oo, hgs, H.t, H.two, H.hl, H.hr, H.av⟩)
      clear hga hgs H GD HC
      go_wp2
      go_ret3
      exact F.out
end Go.Proofs.Ytkmhnkljigncmaa.genMain
end

section
/-
  CONTRACTS: spec.l5Least: the least general pattern of two right terms, none where it would need too many variables; spec.Generalised (what is told of the two lists is given: 'IsG'). Conditions: the slices read as lists, at most 1048576 numbers. By an AI agent.
-/
namespace Go.Proofs.Ytkmhnkljigncmaa.general
open Go.RowKit Go.Proofs.Ytkmhnkljigncmaa.base Go.Proofs.Ytkmhnkljigncmaa.ints Go.Proofs.Ytkmhnkljigncmaa.sig Go.Proofs.Ytkmhnkljigncmaa.cursor Go.Proofs.Ytkmhnkljigncmaa.marks Go.Proofs.Ytkmhnkljigncmaa.app Go.Proofs.Ytkmhnkljigncmaa.appAt Go.Proofs.Ytkmhnkljigncmaa.sym Go.Proofs.Ytkmhnkljigncmaa.segs Go.Proofs.Ytkmhnkljigncmaa.segsHelp Go.Proofs.Ytkmhnkljigncmaa.term Go.Proofs.Ytkmhnkljigncmaa.args Go.Proofs.Ytkmhnkljigncmaa.sub Go.Proofs.Ytkmhnkljigncmaa.look Go.Proofs.Ytkmhnkljigncmaa.plain Go.Proofs.Ytkmhnkljigncmaa.unifMath Go.Proofs.Ytkmhnkljigncmaa.genMath Go.Proofs.Ytkmhnkljigncmaa.genPos Go.Proofs.Ytkmhnkljigncmaa.genTab Go.Proofs.Ytkmhnkljigncmaa.genSpec Go.Proofs.Ytkmhnkljigncmaa.genMain Go.Proofs.Ytkmhnkljigncmaa.termOk Go.Proofs.Ytkmhnkljigncmaa.termFacts Go.Proofs.Ytkmhnkljigncmaa.termMath Go.Proofs.Ytkmhnkljigncmaa.endAt Go.Proofs.Ytkmhnkljigncmaa.unifLaw
set_option maxRecDepth 100000

theorem owns_empty {w : World} {lo hi g : Nat} (hr : Row w g 24 #[]) (h1 : lo ≤ g) (h2 : g < hi) : Owns w lo hi (some ⟨g, 0, none⟩) 0 0 [] :=
  ⟨rfl, ⟨[], by have := rowsOf (n := 0) (c := 0) hr rfl (Nat.le_refl _) (by omega) h1; simpa using this, fun j hj => absurd hj (Nat.not_lt_zero _), fun i j k _ hj => absurd hj (Nat.not_lt_zero _)⟩, fun k hk => by
    have hk : g = k := Option.some.inj hk
    omega⟩
theorem sub_all {sg t : List Int} (h : Trm sg t) : subL sg t 0 = t := by
  unfold subL
  rw [List.drop_zero, len1_eq (j := t.length) (by rw [List.drop_zero]; exact h), List.take_length]

set_option maxHeartbeats 2000000 in
theorem l5Least (A P Q : Option Addr) (n c m mc k kc : Nat) (sg a b : List Int) (w : World) (h : Seg w w.heap.size A n sg) (hp : Seg w w.heap.size P m a) (hq : Seg w w.heap.size Q k b) (hn : n ≤ 1048576) (hm : m ≤ 1048576) (hk : k ≤ 1048576) (hcm : m ≤ mc ∧ mc ≤ 9223372036854775807) (hck : k ≤ kc ∧ kc ≤ 9223372036854775807) (hs : Arities sg)
    (ha : Trm sg a) (hb : Trm sg b) (G : List Int) (T' : Tb) (hG : Gs sg [] 1 a b G T') :
    Calls Try.prog 79 #[.agg #[.slice A n c], .slice P m mc, .slice Q k kc] w (AnsList w (if T'.length ≤ 24 then G else [])) := by
  obtain ⟨W, hW⟩ : ∃ W, W = ((w.alloc (.cells #[.slice A n c] 26)).alloc (.cells #[] 24)).alloc (.cells #[] 24) := ⟨_, rfl⟩
  have z : W.heap.size = w.heap.size + 1 + 1 + 1 := by rw [hW]; simp
  have bW : Below w.heap.size w W := by rw [hW]; exact (((Below.refl _ _).alloc (Nat.le_refl _) _).alloc (by simp) _).alloc (by simp; omega) _
  have r1 : Row W (w.heap.size + 1) 24 #[] := by
    rw [hW]
    have := (Row.new (w.alloc (.cells #[.slice A n c] 26)) 24 #[]).alloc (.cells #[] 24)
    simpa using this
  have r2 : Row W (w.heap.size + 1 + 1) 24 #[] := by
    rw [hW]
    have := Row.new ((w.alloc (.cells #[.slice A n c] 26)).alloc (.cells #[] 24)) 24 #[]
    simpa using this
  have tabs : Tabs W (w.heap.size + 1) (some ⟨w.heap.size + 1, 0, none⟩) 0 0 (some ⟨w.heap.size + 1 + 1, 0, none⟩) 0 [] := by
    refine ⟨owns_empty r1 (Nat.le_refl _) (by omega), owns_empty r2 (by omega) (by omega), fun k hk e => ?_⟩
    have h1 : w.heap.size + 1 = k := Option.some.inj hk
    have h2 : w.heap.size + 1 + 1 = k := Option.some.inj e
    omega
  have la := hp.1
  have C := Lib.hid (l5General A P Q n c m mc k kc (w.heap.size + 1) sg a b hn hm hk hcm hck hs a.length (some ⟨w.heap.size + 1, 0, none⟩) (some ⟨w.heap.size + 1 + 1, 0, none⟩) 0 0 0 0 0 a.length b.length [] W ((h.below bW).more (Nat.le_succ _)) ((hp.below bW).more (Nat.le_succ _)) ((hq.below bW).more (Nat.le_succ _)) tabs (by omega) (fun x hx => absurd hx (List.not_mem_nil)) (by simp only [List.length_nil]; omega) (by rw [List.drop_zero]; exact ha) (by rw [List.drop_zero]; exact hb) (Nat.le_refl _))
  rw [sub_all ha, sub_all hb] at C
  have HG := Lib.hid hG
  obtain ⟨ys, hys⟩ : ∃ ys, (if T'.length ≤ 24 then G else []) = ys := ⟨_, rfl⟩
  rw [hys]
  have HY := Lib.hid hys
  clear hys
  have HW := Lib.hid hW
  have HB := Lib.hid bW
  have HZ := Lib.hid z
  clear h hp hq ha hb hG hW bW tabs r1 r2 la hs z
  go_enter Try.func79, Try.ntmps79
  go_wp2_with fail
  rw [← HW.out]
  refine C.out.mono ?_
  rintro e w1 ⟨g, T2, O, L2, R2, on, oc, n2, lc2, rc2, rfl, ho, hgs, ht, htwo, -, -, -⟩
  obtain ⟨e1, e2⟩ := gs_one hgs List.nodup_nil HG.out
  subst e1 e2
  have hn2 : T2.length = n2 := ht.len
  have b1 : Below w.heap.size w w1 := HB.out.trans (htwo.below (fun k hk => by have : w.heap.size + 1 = k := Option.some.inj hk; omega) (fun k hk => by have : w.heap.size + 1 + 1 = k := Option.some.inj hk; omega) HB.out.size)
  by_cases h24 : T2.length ≤ 24
  · have hy := HY.out
    rw [if_pos h24] at hy
    subst hy
    have F := Lib.hid (show AnsList w g (.returned (.slice O on oc)) w1 from ⟨O, on, oc, rfl, Own.lower ho HB.out.size, b1⟩)
    clear ho hgs ht htwo b1 C
    go_wp2
    go_ret
    exact F.out
  · have hy := HY.out
    rw [if_neg h24] at hy
    subst hy
    have F := Lib.hid (show AnsList w [] (.returned (.slice (some ⟨w1.heap.size, 0, none⟩) 0 0)) (w1.alloc (.cells #[] 2)) from ⟨_, 0, 0, rfl, own_empty w1 _ b1.size, b1.alloc b1.size _⟩)
    clear ho hgs ht htwo b1 C
    go_wp2
    go_ret
    exact F.out
/-- what stands in the course of a call with a boxed signature -/
structure Gr (w wr : World) (A : Option Addr) (n c : Nat) (sg : List Int) (P : Option Addr) (m : Nat) (a : List Int) (Q : Option Addr) (k : Nat) (b : List Int) : Prop where
  r0 : Row wr w.heap.size 26 #[.slice A n c]
  s : Seg wr wr.heap.size A n sg
  pa : Seg wr wr.heap.size P m a
  qb : Seg wr wr.heap.size Q k b
  b : Below w.heap.size w wr
theorem Gr.next {w wr w' : World} {A : Option Addr} {n c : Nat} {sg : List Int} {P : Option Addr} {m : Nat} {a : List Int} {Q : Option Addr} {k : Nat} {b : List Int} (h : Gr w wr A n c sg P m a Q k b) (hb : Below wr.heap.size wr w') : Gr w w' A n c sg P m a Q k b :=
  ⟨h.r0.next hb, h.s.next hb, h.pa.next hb, h.qb.next hb, next_trans h.b hb⟩
theorem isG_off {sg a b g : List Int} (h : IsG sg a b g) (ho : termOkB sg a = false ∨ termOkB sg b = false) : g = [] := by
  rcases h with ⟨h1, h2, _⟩ | ⟨_, e⟩
  · rcases ho with h | h
    · rw [h1] at h; cases h
    · rw [h2] at h; cases h
  · exact e

set_option maxHeartbeats 2000000 in
theorem specGeneralised (A P Q : Option Addr) (n c m mc k kc : Nat) (sg a b : List Int) (w : World) (ys : List Int) (hG : IsG sg a b ys) (h : Seg w w.heap.size A n sg) (hp : Seg w w.heap.size P m a) (hq : Seg w w.heap.size Q k b) (hn : n ≤ 1048576) (hm : m ≤ 1048576) (hk : k ≤ 1048576) (hcm : m ≤ mc ∧ mc ≤ 9223372036854775807) (hck : k ≤ kc ∧ kc ≤ 9223372036854775807) :
    Calls Try.prog 27 #[.agg #[.slice A n c], .slice P m mc, .slice Q k kc] w (AnsList w ys) := by
  obtain ⟨W, hW⟩ : ∃ W, W = w.alloc (.cells #[.slice A n c] 26) := ⟨_, rfl⟩
  have b0 : Below w.heap.size w W := by rw [hW]; exact (Below.refl _ _).alloc (Nat.le_refl _) _
  have M : Gr w W A n c sg P m a Q k b := ⟨by rw [hW]; exact Row.new _ _ _, h.next b0, hp.next b0, hq.next b0, b0⟩
  have HW := Lib.hid hW
  have HG := Lib.hid hG
  have L1 := Lib.hid (specTermOk A P n c m mc sg a W M.s M.pa hn hm)
  have L2 := Lib.hid (fun w' (M : Gr w w' A n c sg P m a Q k b) => specTermOk A Q n c k kc sg b w' M.s M.qb hn hk)
  have c0 : (w.alloc (.cells #[.slice A n c] 26)).cell? ⟨w.heap.size, 0, none⟩ = some (.slice A n c) := by rw [← hW]; exact M.r0.cell 0
  clear hG hW h hp hq b0
  obtain ⟨va, hva⟩ : ∃ v, termOkB sg a = v := ⟨_, rfl⟩
  obtain ⟨vb, hvb⟩ : ∃ v, termOkB sg b = v := ⟨_, rfl⟩
  have HA := Lib.hid hva
  have HB := Lib.hid hvb
  clear hva hvb
  cases va with
  | false =>
    go_enter Try.func27, Try.ntmps27
    go_wp2_with fail
    rw [← HW.out]
    refine L1.out.mono ?_
    rintro e w1 ⟨he, bb⟩
    rw [HA.out] at he
    subst he
    replace M := M.next bb
    obtain rfl := isG_off HG.out (.inl HA.out)
    have F := Lib.hid (show AnsList w [] (.returned (.slice (some ⟨w1.heap.size, 0, none⟩) 0 0)) (w1.alloc (.cells #[] 2)) from ⟨_, 0, 0, rfl, own_empty w1 _ M.b.size, M.b.alloc M.b.size _⟩)
    clear M bb L1 L2
    go_wp2
    go_ret
    exact F.out
  | true =>
    cases vb with
    | false =>
      go_enter Try.func27, Try.ntmps27
      go_wp2_with fail
      rw [← HW.out]
      refine L1.out.mono ?_
      rintro e w1 ⟨he, bb⟩
      rw [HA.out] at he
      subst he
      replace M := M.next bb
      have c1 := M.r0.cell 0
      clear bb c0
      go_wp2_with fail
      refine (L2.out w1 M).mono ?_
      rintro e w2 ⟨he, bb⟩
      rw [HB.out] at he
      subst he
      replace M := M.next bb
      obtain rfl := isG_off HG.out (.inr HB.out)
      have F := Lib.hid (show AnsList w [] (.returned (.slice (some ⟨w2.heap.size, 0, none⟩) 0 0)) (w2.alloc (.cells #[] 2)) from ⟨_, 0, 0, rfl, own_empty w2 _ M.b.size, M.b.alloc M.b.size _⟩)
      clear M bb L1 L2 c1
      go_wp2
      go_ret
      exact F.out
    | true =>
      have hars := (sig_arities (termOk_parts HA.out).1).1
      obtain ⟨G, T', hgs, hys⟩ : ∃ G T', Gs sg [] 1 a b G T' ∧ ys = if T'.length ≤ 24 then G else [] := by
        rcases HG.out with ⟨_, _, h⟩ | ⟨h, _⟩
        · exact h
        · rw [HA.out, HB.out] at h
          rcases h with h | h <;> cases h
      have LL := Lib.hid (fun w' (M : Gr w w' A n c sg P m a Q k b) => l5Least A P Q n c m mc k kc sg a b w' M.s M.pa M.qb hn hm hk hcm hck hars (term_parts HA.out).2.2 (term_parts HB.out).2.2 G T' hgs)
      rw [← hys] at LL
      clear hys hgs hars
      go_enter Try.func27, Try.ntmps27
      go_wp2_with fail
      rw [← HW.out]
      refine L1.out.mono ?_
      rintro e w1 ⟨he, bb⟩
      rw [HA.out] at he
      subst he
      replace M := M.next bb
      have c1 : w1.cell? ⟨w.heap.size, 0, none⟩ = some (.slice A n c) := M.r0.cell 0
      clear bb c0
      go_wp2_with fail
      refine (L2.out w1 M).mono ?_
      rintro e w2 ⟨he, bb⟩
      rw [HB.out] at he
      subst he
      replace M := M.next bb
      have c2 : w2.cell? ⟨w.heap.size, 0, none⟩ = some (.slice A n c) := M.r0.cell 0
      clear bb c1
      go_wp2_with fail
      refine (LL.out w2 M).mono ?_
      rintro e w3 ⟨D, dn, dc, rfl, od, bb⟩
      have F := Lib.hid (show AnsList w ys (.returned (.slice D dn dc)) w3 from ⟨D, dn, dc, rfl, Own.lower od M.b.size, next_trans M.b bb⟩)
      clear M bb L1 L2 LL c2 od
      go_wp2
      go_ret
      exact F.out
end Go.Proofs.Ytkmhnkljigncmaa.general
end

section
/-
  CONTRACTS: spec.MetOf, impl.MetOf. Conditions: the slices read as lists ('Seg'), at most 1048576 numbers; what is told is given ('IsA'). By an AI agent.
-/
namespace Go.Proofs.Ytkmhnkljigncmaa.met
open Go.RowKit Go.Proofs.Ytkmhnkljigncmaa.base Go.Proofs.Ytkmhnkljigncmaa.ints Go.Proofs.Ytkmhnkljigncmaa.sig Go.Proofs.Ytkmhnkljigncmaa.term Go.Proofs.Ytkmhnkljigncmaa.termOk Go.Proofs.Ytkmhnkljigncmaa.termFacts Go.Proofs.Ytkmhnkljigncmaa.endAt Go.Proofs.Ytkmhnkljigncmaa.cursor Go.Proofs.Ytkmhnkljigncmaa.marks Go.Proofs.Ytkmhnkljigncmaa.app Go.Proofs.Ytkmhnkljigncmaa.sym Go.Proofs.Ytkmhnkljigncmaa.segs Go.Proofs.Ytkmhnkljigncmaa.segsHelp Go.Proofs.Ytkmhnkljigncmaa.kinds Go.Proofs.Ytkmhnkljigncmaa.fillMath Go.Proofs.Ytkmhnkljigncmaa.look Go.Proofs.Ytkmhnkljigncmaa.shifted Go.Proofs.Ytkmhnkljigncmaa.substOk Go.Proofs.Ytkmhnkljigncmaa.gives Go.Proofs.Ytkmhnkljigncmaa.filled Go.Proofs.Ytkmhnkljigncmaa.plainMath Go.Proofs.Ytkmhnkljigncmaa.plain Go.Proofs.Ytkmhnkljigncmaa.renMath Go.Proofs.Ytkmhnkljigncmaa.renPure Go.Proofs.Ytkmhnkljigncmaa.rename Go.Proofs.Ytkmhnkljigncmaa.renImpl Go.Proofs.Ytkmhnkljigncmaa.genSpec Go.Proofs.Ytkmhnkljigncmaa.unifMath Go.Proofs.Ytkmhnkljigncmaa.unifLaw Go.Proofs.Ytkmhnkljigncmaa.unified Go.Proofs.Ytkmhnkljigncmaa.unifImpl Go.Proofs.Ytkmhnkljigncmaa.behind Go.Proofs.Ytkmhnkljigncmaa.apart5
set_option maxRecDepth 100000

/-- the common term, renamed -/
def metL (v : Bool) (F : List (List Int)) (a : List Int) : List Int := if v = true then renL (fillL (givesL F) a) else []
theorem isA_each {sg a b : List Int} {v : Bool} {F : List (List Int)} (h : IsA sg a b v F) : tot F ≤ 1048576 := by
  rcases h with ⟨_, h⟩ | ⟨_, _, rfl⟩
  · exact isU_each h
  · simp [tot, sumL]
theorem isA_true {sg a b : List Int} {F : List (List Int)} (h : IsA sg a b true F) : substOkB sg F = true ∧ termOkB sg a = true ∧ fitsB F a = true ∧ filledB sg F a = true ∧ termOkB sg (fillL (givesL F) a) = true := by
  rcases h with ⟨_, h⟩ | ⟨_, e, _⟩
  · obtain ⟨h1, _, h3, _⟩ := isU_facts h
    obtain ⟨_, p2, p3, p4⟩ := filled_parts h3
    refine ⟨h1, p2, ?_, h3, ?_⟩
    · rw [← filled_b h1 p2]; exact h3
    · exact term_mk (term_parts p2).1 p4 ((gives_sub h1).fill (term_parts p2).2.2)
  · cases e
theorem met_len {sg a b : List Int} {v : Bool} {F : List (List Int)} (h : IsA sg a b v F) : (metL v F a).length ≤ 1048576 := by
  unfold metL
  split
  · rename_i e
    subst e
    have h5 := (isA_true h).2.2.2.2
    have := (term_len (ren_ok h5)).2
    omega
  · simp

set_option maxHeartbeats 2000000 in
theorem specMetOf (A P Q : Option Addr) (n c pn pc m mc : Nat) (sg p t : List Int) (w : World) (v : Bool) (F : List (List Int)) (hU : IsA sg p t v F) (h : Seg w w.heap.size A n sg) (hp : Seg w w.heap.size P pn p) (ht : Seg w w.heap.size Q m t) (hn : n ≤ 1048576) (hpn : pn ≤ 1048576) (hm : m ≤ 1048576) :
    Calls Try.prog 48 #[.agg #[.slice A n c], .slice P pn pc, .slice Q m mc] w (AnsPairO w (metL v F p) v) := by
  obtain ⟨W, hW⟩ : ∃ W, W = w.alloc (.cells #[.slice A n c] 26) := ⟨_, rfl⟩
  have bW : Below w.heap.size w W := by rw [hW]; exact (Below.refl _ _).alloc (Nat.le_refl _) _
  have HW := Lib.hid hW
  have sp := hp.next bW
  have L := Lib.hid (specUnifiedApart A P Q n c pn pc m mc sg p t W v F hU (h.next bW) sp (ht.next bW) hn hpn hm)
  have HU := Lib.hid hU
  clear hU hW h hp ht
  go_enter Try.func48, Try.ntmps48
  go_wp2_with fail
  rw [← HW.out]
  refine L.out.mono ?_
  rintro e w1 ⟨D, dn, dc, rfl, od, bb⟩
  have b1 := next_trans bW bb
  have B2 : Below w1.heap.size w1 (w1.alloc (.cells #[.slice D dn dc] 31)) := (Below.refl _ _).alloc (Nat.le_refl _) _
  have s2 := (sp.next bb).next B2
  have o2 := (od.next B2).segs
  have b2 := next_trans b1 B2
  clear bb L bW sp od
  cases v with
  | false =>
    have F1 := Lib.hid (show AnsPairO w [] false (.returned (.tuple #[.slice (some ⟨(w1.alloc (.cells #[.slice D dn dc] 31)).heap.size, 0, none⟩) 0 0, .bool false])) ((w1.alloc (.cells #[.slice D dn dc] 31)).alloc (.cells #[] 2)) from ⟨_, 0, 0, rfl, own_empty _ _ b2.size, b2.alloc b2.size _⟩)
    clear b1 b2 B2 s2 o2
    go_wp2
    go_ret2
    have G := F1.out
    simp at G
    exact G
  | true =>
    obtain ⟨h1, h2, h3, h4, h5⟩ := isA_true HU.out
    have hp60 : pn ≤ 60 := by rw [← s2.1]; exact (term_len h2).2
    have LF := Lib.hid (l2Filled D P dn dc pn pc F p _ o2 s2 (isA_each HU.out) hp60 (fun x hx => (term_mem h2 hx).1) (gives_len h1))
    have E := Lib.hid (show fitL F p = fillL (givesL F) p by unfold fitL; rw [if_pos h3])
    have H5 := Lib.hid h5
    have HB2 := Lib.hid b2
    rw [h3] at LF
    clear h1 h2 h3 h4 h5 b1 b2 B2 s2 o2
    go_wp2_with fail
    refine LF.out.mono ?_
    rintro e w3 ⟨X, xn, xc, rfl, ox, b3⟩
    rw [E.out] at ox
    have sx := Own.seg ox
    have hx60 : xn ≤ 1048576 := by rw [← sx.1]; have := (term_len H5.out).2; omega
    have LR := Lib.hid (l2Renamed X xn xc (fillL (givesL F) p) w3 sx hx60)
    have B3 := Lib.hid (next_trans HB2.out b3)
    clear ox sx b3 LF
    go_wp2_with fail
    refine LR.out.mono ?_
    rintro e w4 ⟨Y, yn, yc, rfl, oy, b4⟩
    have F1 := Lib.hid (show AnsPairO w (metL true F p) true (.returned (.tuple #[.slice Y yn yc, .bool true])) w4 from ⟨Y, yn, yc, rfl, Own.lower oy B3.out.size, next_trans B3.out b4⟩)
    clear oy b4 LR
    go_wp2
    go_ret2
    exact F1.out

set_option maxHeartbeats 2000000 in
theorem implMetOf (A P Q : Option Addr) (n c pn pc m mc : Nat) (sg p t : List Int) (w : World) (v : Bool) (F : List (List Int)) (hU : IsA sg p t v F) (h : Seg w w.heap.size A n sg) (hp : Seg w w.heap.size P pn p) (ht : Seg w w.heap.size Q m t) (hn : n ≤ 1048576) (hpn : pn ≤ 1048576) (hm : m ≤ 1048576) (kp : Cap P pn pc) :
    Calls Try.prog 49 #[.agg #[.slice A n c], .slice P pn pc, .slice Q m mc] w (AnsPairO w (metL v F p) v) := by
  obtain ⟨W, hW⟩ : ∃ W, W = w.alloc (.cells #[.slice A n c] 26) := ⟨_, rfl⟩
  have bW : Below w.heap.size w W := by rw [hW]; exact (Below.refl _ _).alloc (Nat.le_refl _) _
  have rW : Row W w.heap.size 26 #[.slice A n c] := by rw [hW]; exact Row.new _ _ _
  have HW := Lib.hid hW
  have sp := hp.next bW
  have sA := h.next bW
  have L := Lib.hid (implUnifiedApart A P Q n c pn pc m mc sg p t W v F hU sA sp (ht.next bW) hn hpn hm kp)
  have HU := Lib.hid hU
  clear hU hW h hp ht
  go_enter Try.func49, Try.ntmps49
  go_wp2_with fail
  rw [← HW.out]
  refine L.out.mono ?_
  rintro e w1 ⟨D, dn, dc, rfl, od, bb⟩
  have b1 := next_trans bW bb
  have B2 : Below w1.heap.size w1 (w1.alloc (.cells #[.slice D dn dc] 31)) := (Below.refl _ _).alloc (Nat.le_refl _) _
  have s2 := (sp.next bb).next B2
  have sA2 := (sA.next bb).next B2
  have r2 := (rW.next bb).next B2
  have c2 : (w1.alloc (.cells #[.slice D dn dc] 31)).cell? ⟨w.heap.size, 0, none⟩ = some (.slice A n c) := r2.cell 0
  have o2 := (od.next B2).segs
  have b2 := next_trans b1 B2
  clear bb L bW sp od sA rW
  cases v with
  | false =>
    have F1 := Lib.hid (show AnsPairO w [] false (.returned (.tuple #[.slice none 0 0, .bool false])) (w1.alloc (.cells #[.slice D dn dc] 31)) from ⟨none, 0, 0, rfl, Own.nil _ _, b2⟩)
    clear b1 b2 B2 s2 o2 c2 r2
    go_wp2
    go_ret2
    exact F1.out
  | true =>
    obtain ⟨h1, h2, h3, h4, h5⟩ := isA_true HU.out
    have LF := Lib.hid (implFilled A D P n c dn dc pn pc sg F p _ sA2 o2 s2 hn (isA_each HU.out) hpn)
    have E := Lib.hid (show filledL sg F p = fillL (givesL F) p by unfold filledL; rw [if_pos h4])
    have H5 := Lib.hid h5
    have HB2 := Lib.hid b2
    rw [h4] at LF
    clear h1 h2 h3 h4 h5 b1 b2 B2 s2 o2
    go_wp2_with fail
    refine LF.out.mono ?_
    rintro e w3 ⟨X, xn, xc, rfl, ox, b3⟩
    rw [E.out] at ox
    have sx := Own.seg ox
    have c3 : w3.cell? ⟨w.heap.size, 0, none⟩ = some (.slice A n c) := (r2.next b3).cell 0
    have hx60 : xn ≤ 1048576 := by rw [← sx.1]; have := (term_len H5.out).2; omega
    have LR := Lib.hid (implRenamed A X n c xn xc sg (fillL (givesL F) p) w3 (sA2.next b3) sx hn hx60)
    have ER := Lib.hid (show renI sg (fillL (givesL F) p) = metL true F p by unfold renI; rw [if_pos H5.out]; rfl)
    rw [ER.out] at LR
    have B3 := Lib.hid (next_trans HB2.out b3)
    clear ox sx b3 LF sA2 r2 c2
    go_wp2_with fail
    refine LR.out.mono ?_
    rintro e w4 ⟨Y, yn, yc, rfl, oy, b4⟩
    have F1 := Lib.hid (show AnsPairO w (metL true F p) true (.returned (.tuple #[.slice Y yn yc, .bool true])) w4 from ⟨Y, yn, yc, rfl, Own.lower oy B3.out.size, next_trans B3.out b4⟩)
    clear oy b4 LR
    go_wp2
    go_ret2
    exact F1.out
end Go.Proofs.Ytkmhnkljigncmaa.met
end

section
/-
  CONTRACTS of UnifiedApart, MetOf (spec and impl) in the form that the walks of the exact laws take. By an AI agent.
-/
namespace Go.Proofs.Ytkmhnkljigncmaa.metX
open Go.RowKit Go.Proofs.Ytkmhnkljigncmaa.base Go.Proofs.Ytkmhnkljigncmaa.sig Go.Proofs.Ytkmhnkljigncmaa.segs Go.Proofs.Ytkmhnkljigncmaa.shifted Go.Proofs.Ytkmhnkljigncmaa.unifMath Go.Proofs.Ytkmhnkljigncmaa.unified Go.Proofs.Ytkmhnkljigncmaa.apart5 Go.Proofs.Ytkmhnkljigncmaa.met
set_option linter.unusedSectionVars false
section
variable (A P Q : Option Addr) (n c pn pc m mc : Nat) (sg p t : List Int) (w : World) (h : Seg w w.heap.size A n sg) (hp : Seg w w.heap.size P pn p) (ht : Seg w w.heap.size Q m t) (hn : n ≤ 1048576) (hpn : pn ≤ 1048576) (hm : m ≤ 1048576) (kp : Cap P pn pc) {v : Bool} {F : List (List Int)} (hU : IsA sg p t v F)
include h hp ht hn hpn hm kp hU
theorem specUnifiedApartX : Calls Try.prog 46 #[.agg #[.slice A n c], .slice P pn pc, .slice Q m mc] w (AnsUB w F v) :=
  specUnifiedApart A P Q n c pn pc m mc sg p t w v F hU h hp ht hn hpn hm
theorem implUnifiedApartX : Calls Try.prog 47 #[.agg #[.slice A n c], .slice P pn pc, .slice Q m mc] w (AnsUB w F v) :=
  implUnifiedApart A P Q n c pn pc m mc sg p t w v F hU h hp ht hn hpn hm kp
theorem specMetOfX : Calls Try.prog 48 #[.agg #[.slice A n c], .slice P pn pc, .slice Q m mc] w (AnsPairO w (metL v F p) v) :=
  specMetOf A P Q n c pn pc m mc sg p t w v F hU h hp ht hn hpn hm
theorem implMetOfX : Calls Try.prog 49 #[.agg #[.slice A n c], .slice P pn pc, .slice Q m mc] w (AnsPairO w (metL v F p) v) :=
  implMetOf A P Q n c pn pc m mc sg p t w v F hU h hp ht hn hpn hm kp
end
end Go.Proofs.Ytkmhnkljigncmaa.metX
end

section
/-
  THE WALK of laws.FnExactMetOf: it returns true, whatever the arguments, and writes nothing that was there. Conditions: the slices read as lists. Written by a program of mine (gen_exact.py). By an AI agent.
-/
namespace Go.Proofs.Ytkmhnkljigncmaa.wMetOf
open Go.RowKit Go.Proofs.Ytkmhnkljigncmaa.base Go.Proofs.Ytkmhnkljigncmaa.ints Go.Proofs.Ytkmhnkljigncmaa.sig Go.Proofs.Ytkmhnkljigncmaa.cursor Go.Proofs.Ytkmhnkljigncmaa.marks Go.Proofs.Ytkmhnkljigncmaa.app Go.Proofs.Ytkmhnkljigncmaa.sym Go.Proofs.Ytkmhnkljigncmaa.appAt Go.Proofs.Ytkmhnkljigncmaa.segs Go.Proofs.Ytkmhnkljigncmaa.segsHelp Go.Proofs.Ytkmhnkljigncmaa.segsMark Go.Proofs.Ytkmhnkljigncmaa.kinds Go.Proofs.Ytkmhnkljigncmaa.inside Go.Proofs.Ytkmhnkljigncmaa.unifMath Go.Proofs.Ytkmhnkljigncmaa.unified Go.Proofs.Ytkmhnkljigncmaa.unifImpl Go.Proofs.Ytkmhnkljigncmaa.unifLaw Go.Proofs.Ytkmhnkljigncmaa.apart5 Go.Proofs.Ytkmhnkljigncmaa.met Go.Proofs.Ytkmhnkljigncmaa.metX
set_option maxRecDepth 100000

set_option maxHeartbeats 8000000 in
theorem law (a0 : Option Addr) (n0 c0 : Nat) (xs0 : List Int) (a1 : Option Addr) (n1 c1 : Nat) (xs1 : List Int) (a2 : Option Addr) (n2 c2 : Nat) (xs2 : List Int) (w : World) (s0 : Seg w w.heap.size a0 n0 xs0) (hN0 : n0 ≤ 9223372036854775807) (s1 : Seg w w.heap.size a1 n1 xs1) (hN1 : n1 ≤ 9223372036854775807) (s2 : Seg w w.heap.size a2 n2 xs2) (hN2 : n2 ≤ 9223372036854775807) :
    Calls Try.prog 9 #[.agg #[.slice a0 n0 c0], .slice a1 n1 c1, .slice a2 n2 c2] w (Fine w) := by
  obtain ⟨vv, FF, hU⟩ := isA_ex xs0 xs1 xs2
  obtain ⟨W, hW⟩ : ∃ W, W = w.alloc (.cells #[.slice a0 n0 c0] 44) := ⟨_, rfl⟩
  have rA0 : Row W (w.heap.size) 44 #[.slice a0 n0 c0] := by rw [hW]; have := Row.new (w) 44 #[.slice a0 n0 c0]; simpa using this
  have bW : Below w.heap.size w W := by rw [hW]; exact (Below.refl w.heap.size w).alloc (by simp) (.cells #[.slice a0 n0 c0] 44)
  have zA0 := rA0.lt
  replace s0 := s0.next bW
  have Hl0 := Lib.hid s0.1
  replace s1 := s1.next bW
  have Hl1 := Lib.hid s1.1
  replace s2 := s2.next bW
  have Hl2 := Lib.hid s2.1
  have HW := Lib.hid hW
  clear hW
  obtain ⟨v, hv⟩ : ∃ v, vv = v := ⟨_, rfl⟩
  have HV := Lib.hid hv
  clear hv
  have ev : (v != v) = false := by simp
  by_cases h1 : n1 ≤ 1048576
  case neg =>
    go_enter Try.func9, Try.ntmps9
    go_wp2_with fail
    rw [← HW.out]
    go_ret
    exact ⟨rfl, bW⟩
  by_cases h2 : n2 ≤ 1048576
  case neg =>
    go_enter Try.func9, Try.ntmps9
    go_wp2_with fail
    rw [← HW.out]
    go_ret
    exact ⟨rfl, bW⟩
  go_enter Try.func9, Try.ntmps9
  go_wp2_with fail
  rw [← HW.out]
  clear HW
  have bel := Below.refl W.heap.size W
  have cA0 : W.cell? ⟨w.heap.size, 0, none⟩ = some (.slice a0 n0 c0) := (rA0.next bel).cell 0
  refine (szSig _ _ _ (1048576) _ hN0 (by omega) (by omega)).mono ?_
  rintro e w1 ⟨he, bb⟩
  replace bel := next_trans bel bb
  have zw1 := bb.size
  clear bb
  by_cases q0 : n0 ≤ 1048576
  case neg =>
    rw [if_pos (by omega)] at he
    subst he
    have F := Lib.hid (bW.trans (bel.mono bW.size))
    clear bel bW cA0
    go_wp2
    go_ret
    exact ⟨rfl, F.out⟩
  rw [if_neg (by omega)] at he
  subst he
  have h0 : n0 ≤ 1048576 := by omega
  clear cA0
  have cA0 : w1.cell? ⟨w.heap.size, 0, none⟩ = some (.slice a0 n0 c0) := (rA0.next bel).cell 0
  have hlen : (metL vv FF xs1).length ≤ 1048576 := met_len hU
  obtain ⟨ys, hys⟩ : ∃ ys, metL vv FF xs1 = ys := ⟨_, rfl⟩
  rw [hys] at hlen
  have HY := Lib.hid hys
  clear hys
  replace hlen := Lib.hid hlen
  go_wp2_with fail
  refine (sigTo _ _ _ xs0 _ (s0.next bel) h0).mono ?_
  rintro e w2 ⟨gp0, rfl, op0, yp0, bb⟩
  replace bel := next_trans bel bb
  have zw2 := bb.size
  clear bb
  clear cA0
  have cA0 : w2.cell? ⟨w.heap.size, 0, none⟩ = some (.slice a0 n0 c0) := (rA0.next bel).cell 0
  go_wp2_with fail
  refine (intsTo _ _ _ xs1 _ (s1.next bel) h1).mono ?_
  rintro e w3 ⟨gp1, rfl, op1, yp1, bb⟩
  replace op0 := op0.next bb
  replace bel := next_trans bel bb
  have zw3 := bb.size
  clear bb
  clear cA0
  have cA0 : w3.cell? ⟨w.heap.size, 0, none⟩ = some (.slice a0 n0 c0) := (rA0.next bel).cell 0
  go_wp2_with fail
  refine (intsTo _ _ _ xs2 _ (s2.next bel) h2).mono ?_
  rintro e w4 ⟨gp2, rfl, op2, yp2, bb⟩
  replace op0 := op0.next bb
  replace op1 := op1.next bb
  replace bel := next_trans bel bb
  have zw4 := bb.size
  clear bb
  clear cA0
  have cA0 : w4.cell? ⟨w.heap.size, 0, none⟩ = some (.slice a0 n0 c0) := (rA0.next bel).cell 0
  go_wp2_with fail
  refine (specMetOfX _ _ _ _ _ _ _ _ _ xs0 xs1 xs2 _ op0.rd op1.rd op2.rd h0 h1 h2 ⟨Nat.le_refl _, by omega, fun e => by cases e⟩ hU).mono ?_
  rintro e w5 ⟨A0, m0, d0, he, o0, bb⟩
  rw [HV.out] at he
  subst he
  replace op0 := op0.next bb
  replace op1 := op1.next bb
  replace op2 := op2.next bb
  replace bel := next_trans bel bb
  have zw5 := bb.size
  clear bb
  rw [HY.out] at o0
  have sw := Own.seg o0
  clear o0
  clear op0 op1 op2
  clear cA0
  have cA0 : w5.cell? ⟨w.heap.size, 0, none⟩ = some (.slice a0 n0 c0) := (rA0.next bel).cell 0
  obtain ⟨Aw, mw, dw, eA, em, ed⟩ : ∃ A m d, A = A0 ∧ m = m0 ∧ d = d0 := ⟨_, _, _, rfl, rfl, rfl⟩
  subst eA em ed
  have belw := Below.refl w5.heap.size w5
  clear cA0
  have cA0 : w5.cell? ⟨w.heap.size, 0, none⟩ = some (.slice a0 n0 c0) := (rA0.next bel).cell 0
  go_wp2_with fail
  refine (sigTo _ _ _ xs0 _ (s0.next bel) h0).mono ?_
  rintro e w6 ⟨gx0, rfl, ox0, yx0, bb⟩
  replace bel := next_trans bel bb
  replace belw := next_trans belw bb
  have zw6 := bb.size
  clear bb
  clear cA0
  have cA0 : w6.cell? ⟨w.heap.size, 0, none⟩ = some (.slice a0 n0 c0) := (rA0.next bel).cell 0
  have dA0 : (w6.alloc (.cells #[.slice (some ⟨gx0, 0, none⟩) n0 n0] 26)).cell? ⟨w.heap.size, 0, none⟩ = some (.slice a0 n0 c0) := ((rA0.next bel).alloc _).cell 0
  go_wp2_with fail
  obtain ⟨w7, hw⟩ : ∃ W, W = w6.alloc (.cells #[.slice (some ⟨gx0, 0, none⟩) n0 n0] 26) := ⟨_, rfl⟩
  rw [← hw]
  have rx0 : Row w7 w6.heap.size 26 #[.slice (some ⟨gx0, 0, none⟩) n0 n0] := by rw [hw]; exact Row.new _ _ _
  have bb : Below w6.heap.size w6 w7 := by rw [hw]; exact (Below.refl _ _).alloc (Nat.le_refl _) _
  have yrx0 : w6.heap.size < w7.heap.size := by rw [hw]; simp
  clear hw
  replace ox0 := ox0.next bb
  replace bel := next_trans bel bb
  replace belw := next_trans belw bb
  have zw7 := bb.size
  clear bb
  clear dA0
  clear cA0
  have cA0 : w7.cell? ⟨w.heap.size, 0, none⟩ = some (.slice a0 n0 c0) := (rA0.next bel).cell 0
  have cx0 : w7.cell? ⟨w6.heap.size, 0, none⟩ = some (.slice (some ⟨gx0, 0, none⟩) n0 n0) := (rx0).cell 0
  refine (intsTo _ _ _ xs1 _ (s1.next bel) h1).mono ?_
  rintro e w8 ⟨gx1, rfl, ox1, yx1, bb⟩
  replace ox0 := ox0.next bb
  replace rx0 := rx0.next bb
  replace bel := next_trans bel bb
  replace belw := next_trans belw bb
  have zw8 := bb.size
  clear bb
  clear cA0 cx0
  have cA0 : w8.cell? ⟨w.heap.size, 0, none⟩ = some (.slice a0 n0 c0) := (rA0.next bel).cell 0
  have cx0 : w8.cell? ⟨w6.heap.size, 0, none⟩ = some (.slice (some ⟨gx0, 0, none⟩) n0 n0) := (rx0).cell 0
  go_wp2_with fail
  refine (intsTo _ _ _ xs2 _ (s2.next bel) h2).mono ?_
  rintro e w9 ⟨gx2, rfl, ox2, yx2, bb⟩
  replace ox0 := ox0.next bb
  replace rx0 := rx0.next bb
  replace ox1 := ox1.next bb
  replace bel := next_trans bel bb
  replace belw := next_trans belw bb
  have zw9 := bb.size
  clear bb
  clear cA0 cx0
  have cA0 : w9.cell? ⟨w.heap.size, 0, none⟩ = some (.slice a0 n0 c0) := (rA0.next bel).cell 0
  have cx0 : w9.cell? ⟨w6.heap.size, 0, none⟩ = some (.slice (some ⟨gx0, 0, none⟩) n0 n0) := (rx0).cell 0
  go_wp2_with fail
  refine (implMetOfX _ _ _ _ _ _ _ _ _ xs0 xs1 xs2 _ ox0.rd ox1.rd ox2.rd h0 h1 h2 ⟨Nat.le_refl _, by omega, fun e => by cases e⟩ hU).mono ?_
  rintro e w10 ⟨A0, m0, d0, he, o0, bb⟩
  rw [HV.out] at he
  subst he
  replace ox0 := ox0.next bb
  replace rx0 := rx0.next bb
  replace ox1 := ox1.next bb
  replace ox2 := ox2.next bb
  replace bel := next_trans bel bb
  replace belw := next_trans belw bb
  have zw10 := bb.size
  clear bb
  rw [HY.out] at o0
  have og := Ownd.of_own o0
  clear o0
  obtain ⟨Ag, mg, dg, eA, em, ed⟩ : ∃ A m d, A = A0 ∧ m = m0 ∧ d = d0 := ⟨_, _, _, rfl, rfl, rfl⟩
  subst eA em ed
  clear cA0 cx0
  have cA0 : w10.cell? ⟨w.heap.size, 0, none⟩ = some (.slice a0 n0 c0) := (rA0.next bel).cell 0
  have cx0 : w10.cell? ⟨w6.heap.size, 0, none⟩ = some (.slice (some ⟨gx0, 0, none⟩) n0 n0) := (rx0).cell 0
  have hlenn : mg ≤ 1048576 := by rw [← og.rd.1]; exact hlen.out
  go_wp2_with fail
  refine (intsEq _ _ _ _ _ _ ys _ og.rd (sw.next belw) hlenn).mono ?_
  rintro e w11 ⟨rfl, bb⟩
  replace ox0 := ox0.next bb
  replace rx0 := rx0.next bb
  replace ox1 := ox1.next bb
  replace ox2 := ox2.next bb
  replace og := og.next bb
  replace bel := next_trans bel bb
  replace belw := next_trans belw bb
  have zw11 := bb.size
  clear bb
  clear cA0 cx0
  have cA0 : w11.cell? ⟨w.heap.size, 0, none⟩ = some (.slice a0 n0 c0) := (rA0.next bel).cell 0
  have cx0 : w11.cell? ⟨w6.heap.size, 0, none⟩ = some (.slice (some ⟨gx0, 0, none⟩) n0 n0) := (rx0).cell 0
  go_wp2_with fail
  replace ox0 := ox0.drew
  replace rx0 := rx0.drew
  replace ox1 := ox1.drew
  replace ox2 := ox2.drew
  replace og := og.drew
  replace bel := bel.drew
  replace belw := belw.drew
  have zdw11 := (drew_below w11).size
  go_region_held3 (fun w' => w'.cell? ⟨w6.heap.size, 0, none⟩ = some (.slice (some ⟨gx0, 0, none⟩) n0 n0) ∧ w'.cell? ⟨w.heap.size, 0, none⟩ = some (.slice a0 n0 c0))
    (go_keep)
    (first
      | (go_at_call 34; refine (sigTo _ _ _ xs0 _ (s0.next bel) h0).mono ?_; rintro e w12 ⟨gt0, rfl, ot, yt0, bb⟩; replace ox0 := ox0.next bb; replace rx0 := rx0.next bb; replace ox1 := ox1.next bb; replace ox2 := ox2.next bb; replace og := og.next bb; replace bel := next_trans bel bb; replace belw := next_trans belw bb; have k0w12 : w12.cell? ⟨w.heap.size, 0, none⟩ = some (.slice a0 n0 c0) := (rA0.next bel).cell 0; have l0w12 : w12.cell? ⟨w6.heap.size, 0, none⟩ = some (.slice (some ⟨gx0, 0, none⟩) n0 n0) := rx0.cell 0; have zqw12 := bb.size; clear bb)
      | (go_at_call 37; refine (sigEq _ _ _ _ _ _ xs0 _ ox0.rd ot.rd h0).mono ?_; rintro e w13 ⟨rfl, bb⟩; replace ox0 := ox0.next bb; replace rx0 := rx0.next bb; replace ox1 := ox1.next bb; replace ox2 := ox2.next bb; replace og := og.next bb; replace bel := next_trans bel bb; replace belw := next_trans belw bb; have k0w13 : w13.cell? ⟨w.heap.size, 0, none⟩ = some (.slice a0 n0 c0) := (rA0.next bel).cell 0; have l0w13 : w13.cell? ⟨w6.heap.size, 0, none⟩ = some (.slice (some ⟨gx0, 0, none⟩) n0 n0) := rx0.cell 0; have zqw13 := bb.size; clear bb ot))
  clear k0w12 l0w12 k0w13 l0w13
  clear cA0 cx0
  have cA0 : w13.cell? ⟨w.heap.size, 0, none⟩ = some (.slice a0 n0 c0) := (rA0.next bel).cell 0
  have cx0 : w13.cell? ⟨w6.heap.size, 0, none⟩ = some (.slice (some ⟨gx0, 0, none⟩) n0 n0) := (rx0).cell 0
  go_wp2_with fail
  refine (intsTo _ _ _ xs1 _ (s1.next bel) h1).mono ?_
  rintro e w14 ⟨gt1, rfl, ot1, yt1, bb⟩
  replace ox0 := ox0.next bb
  replace rx0 := rx0.next bb
  replace ox1 := ox1.next bb
  replace ox2 := ox2.next bb
  replace og := og.next bb
  replace bel := next_trans bel bb
  replace belw := next_trans belw bb
  have zw14 := bb.size
  clear bb
  clear cA0 cx0
  have cA0 : w14.cell? ⟨w.heap.size, 0, none⟩ = some (.slice a0 n0 c0) := (rA0.next bel).cell 0
  have cx0 : w14.cell? ⟨w6.heap.size, 0, none⟩ = some (.slice (some ⟨gx0, 0, none⟩) n0 n0) := (rx0).cell 0
  go_wp2_with fail
  refine (intsEq _ _ _ _ _ _ xs1 _ ox1.rd ot1.rd h1).mono ?_
  rintro e w15 ⟨rfl, bb⟩
  replace ox0 := ox0.next bb
  replace rx0 := rx0.next bb
  replace ox1 := ox1.next bb
  replace ox2 := ox2.next bb
  replace og := og.next bb
  replace ot1 := ot1.next bb
  replace bel := next_trans bel bb
  replace belw := next_trans belw bb
  have zw15 := bb.size
  clear bb
  clear ot1
  clear cA0 cx0
  have cA0 : w15.cell? ⟨w.heap.size, 0, none⟩ = some (.slice a0 n0 c0) := (rA0.next bel).cell 0
  have cx0 : w15.cell? ⟨w6.heap.size, 0, none⟩ = some (.slice (some ⟨gx0, 0, none⟩) n0 n0) := (rx0).cell 0
  go_wp2_with fail
  refine (intsTo _ _ _ xs2 _ (s2.next bel) h2).mono ?_
  rintro e w16 ⟨gt2, rfl, ot2, yt2, bb⟩
  replace ox0 := ox0.next bb
  replace rx0 := rx0.next bb
  replace ox1 := ox1.next bb
  replace ox2 := ox2.next bb
  replace og := og.next bb
  replace bel := next_trans bel bb
  replace belw := next_trans belw bb
  have zw16 := bb.size
  clear bb
  clear cA0 cx0
  have cA0 : w16.cell? ⟨w.heap.size, 0, none⟩ = some (.slice a0 n0 c0) := (rA0.next bel).cell 0
  have cx0 : w16.cell? ⟨w6.heap.size, 0, none⟩ = some (.slice (some ⟨gx0, 0, none⟩) n0 n0) := (rx0).cell 0
  go_wp2_with fail
  refine (intsEq _ _ _ _ _ _ xs2 _ ox2.rd ot2.rd h2).mono ?_
  rintro e w17 ⟨rfl, bb⟩
  replace ox0 := ox0.next bb
  replace rx0 := rx0.next bb
  replace ox1 := ox1.next bb
  replace ox2 := ox2.next bb
  replace og := og.next bb
  replace ot2 := ot2.next bb
  replace bel := next_trans bel bb
  replace belw := next_trans belw bb
  have zw17 := bb.size
  clear bb
  clear ot2
  clear cA0 cx0
  have cA0 : w17.cell? ⟨w.heap.size, 0, none⟩ = some (.slice a0 n0 c0) := (rA0.next bel).cell 0
  have cx0 : w17.cell? ⟨w6.heap.size, 0, none⟩ = some (.slice (some ⟨gx0, 0, none⟩) n0 n0) := (rx0).cell 0
  go_wp2_with fail
  refine (sigMark (w5.heap.size) (w6.heap.size) _ _ _ xs0 (1) _ ox0 h0 (by omega) (by omega)).mono ?_
  rintro e w18 ⟨he, -, bt⟩
  subst he
  clear ox0
  replace rx0 := Row.btw rx0 bt (by omega)
  replace ox1 := ox1.btw bt (by omega)
  replace ox2 := ox2.btw bt (by omega)
  replace og := og.btw bt (by omega)
  replace bel := Below.btw bel bt (by omega) bel.size
  replace belw := Below.btw belw bt (by omega) belw.size
  have zw18 := bt.size
  clear bt
  clear cA0 cx0
  have cA0 : w18.cell? ⟨w.heap.size, 0, none⟩ = some (.slice a0 n0 c0) := (rA0.next bel).cell 0
  have cx0 : w18.cell? ⟨w6.heap.size, 0, none⟩ = some (.slice (some ⟨gx0, 0, none⟩) n0 n0) := (rx0).cell 0
  go_wp2_with fail
  refine (intsMark (w7.heap.size) (w8.heap.size) _ _ _ xs1 (1 + (n0 : Int)) _ ox1 h1 (by omega) (by omega)).mono ?_
  rintro e w19 ⟨he, -, bt⟩
  subst he
  clear ox1
  replace rx0 := Row.btw rx0 bt (by omega)
  replace ox2 := ox2.btw bt (by omega)
  replace og := og.btw bt (by omega)
  replace bel := Below.btw bel bt (by omega) bel.size
  replace belw := Below.btw belw bt (by omega) belw.size
  have zw19 := bt.size
  clear bt
  clear cA0 cx0
  have cA0 : w19.cell? ⟨w.heap.size, 0, none⟩ = some (.slice a0 n0 c0) := (rA0.next bel).cell 0
  have cx0 : w19.cell? ⟨w6.heap.size, 0, none⟩ = some (.slice (some ⟨gx0, 0, none⟩) n0 n0) := (rx0).cell 0
  go_wp2_with fail
  refine (intsMark (w8.heap.size) (w9.heap.size) _ _ _ xs2 (1 + (n0 : Int) + (n1 : Int)) _ ox2 h2 (by omega) (by omega)).mono ?_
  rintro e w20 ⟨he, -, bt⟩
  subst he
  clear ox2
  replace rx0 := Row.btw rx0 bt (by omega)
  replace og := og.btw bt (by omega)
  replace bel := Below.btw bel bt (by omega) bel.size
  replace belw := Below.btw belw bt (by omega) belw.size
  have zw20 := bt.size
  clear bt
  clear cA0 cx0
  have cA0 : w20.cell? ⟨w.heap.size, 0, none⟩ = some (.slice a0 n0 c0) := (rA0.next bel).cell 0
  have cx0 : w20.cell? ⟨w6.heap.size, 0, none⟩ = some (.slice (some ⟨gx0, 0, none⟩) n0 n0) := (rx0).cell 0
  clear rx0
  clear cA0 cx0
  have cA0 : w20.cell? ⟨w.heap.size, 0, none⟩ = some (.slice a0 n0 c0) := (rA0.next bel).cell 0
  go_wp2_with fail
  refine (intsEq _ _ _ _ _ _ ys _ og.rd (sw.next belw) hlenn).mono ?_
  rintro e w21 ⟨rfl, bb⟩
  replace og := og.next bb
  replace bel := next_trans bel bb
  replace belw := next_trans belw bb
  have zw21 := bb.size
  clear bb
  clear cA0
  have cA0 : w21.cell? ⟨w.heap.size, 0, none⟩ = some (.slice a0 n0 c0) := (rA0.next bel).cell 0
  go_wp2_with fail
  refine (intsMark (w9.heap.size) (w10.heap.size) _ _ _ ys 1 _ og hlenn (by omega) (by omega)).mono ?_
  rintro e w22 ⟨he, om, bt⟩
  subst he
  clear og
  replace bel := Below.btw bel bt (by omega) bel.size
  replace belw := Below.btw belw bt (by omega) belw.size
  have zw22 := bt.size
  clear bt
  clear cA0
  have cA0 : w22.cell? ⟨w.heap.size, 0, none⟩ = some (.slice a0 n0 c0) := (rA0.next bel).cell 0
  go_wp2_with fail
  refine (intsHeld _ _ _ 1 _ om.rd hlenn (by omega) (by omega)).mono ?_
  rintro e w23 ⟨rfl, bb⟩
  replace om := om.next bb
  replace bel := next_trans bel bb
  replace belw := next_trans belw bb
  have zw23 := bb.size
  clear bb
  clear cA0
  have cA0 : w23.cell? ⟨w.heap.size, 0, none⟩ = some (.slice a0 n0 c0) := (rA0.next bel).cell 0
  go_wp2_with fail
  refine (sigTo _ _ _ xs0 _ (s0.next bel) h0).mono ?_
  rintro e w24 ⟨gp0, rfl, op0, yp0, bb⟩
  replace om := om.next bb
  replace bel := next_trans bel bb
  replace belw := next_trans belw bb
  have zw24 := bb.size
  clear bb
  clear cA0
  have cA0 : w24.cell? ⟨w.heap.size, 0, none⟩ = some (.slice a0 n0 c0) := (rA0.next bel).cell 0
  go_wp2_with fail
  refine (intsTo _ _ _ xs1 _ (s1.next bel) h1).mono ?_
  rintro e w25 ⟨gp1, rfl, op1, yp1, bb⟩
  replace om := om.next bb
  replace op0 := op0.next bb
  replace bel := next_trans bel bb
  replace belw := next_trans belw bb
  have zw25 := bb.size
  clear bb
  clear cA0
  have cA0 : w25.cell? ⟨w.heap.size, 0, none⟩ = some (.slice a0 n0 c0) := (rA0.next bel).cell 0
  go_wp2_with fail
  refine (intsTo _ _ _ xs2 _ (s2.next bel) h2).mono ?_
  rintro e w26 ⟨gp2, rfl, op2, yp2, bb⟩
  replace om := om.next bb
  replace op0 := op0.next bb
  replace op1 := op1.next bb
  replace bel := next_trans bel bb
  replace belw := next_trans belw bb
  have zw26 := bb.size
  clear bb
  clear cA0
  have cA0 : w26.cell? ⟨w.heap.size, 0, none⟩ = some (.slice a0 n0 c0) := (rA0.next bel).cell 0
  go_wp2_with fail
  refine (implMetOfX _ _ _ _ _ _ _ _ _ xs0 xs1 xs2 _ op0.rd op1.rd op2.rd h0 h1 h2 ⟨Nat.le_refl _, by omega, fun e => by cases e⟩ hU).mono ?_
  rintro e w27 ⟨A0, m0, d0, he, o0, bb⟩
  rw [HV.out] at he
  subst he
  replace om := om.next bb
  replace op0 := op0.next bb
  replace op1 := op1.next bb
  replace op2 := op2.next bb
  replace bel := next_trans bel bb
  replace belw := next_trans belw bb
  have zw27 := bb.size
  clear bb
  rw [HY.out] at o0
  have sh := Own.seg o0
  clear o0
  clear op0 op1 op2
  clear cA0
  have cA0 : w27.cell? ⟨w.heap.size, 0, none⟩ = some (.slice a0 n0 c0) := (rA0.next bel).cell 0
  obtain ⟨Ah, mh, dh, eA, em, ed⟩ : ∃ A m d, A = A0 ∧ m = m0 ∧ d = d0 := ⟨_, _, _, rfl, rfl, rfl⟩
  subst eA em ed
  have belh := Below.refl w27.heap.size w27
  clear cA0
  have cA0 : w27.cell? ⟨w.heap.size, 0, none⟩ = some (.slice a0 n0 c0) := (rA0.next bel).cell 0
  go_wp2_with fail
  refine (intsEq _ _ _ _ _ _ ys _ (sh.next belh) (sw.next belw) (by rw [← sh.1]; exact hlen.out)).mono ?_
  rintro e w28 ⟨rfl, bb⟩
  replace om := om.next bb
  replace bel := next_trans bel bb
  replace belw := next_trans belw bb
  replace belh := next_trans belh bb
  have zw28 := bb.size
  clear bb
  clear cA0
  have cA0 : w28.cell? ⟨w.heap.size, 0, none⟩ = some (.slice a0 n0 c0) := (rA0.next bel).cell 0
  go_wp2_with fail
  refine (intsHeld _ _ _ 1 _ om.rd hlenn (by omega) (by omega)).mono ?_
  rintro e w29 ⟨rfl, bb⟩
  replace om := om.next bb
  replace bel := next_trans bel bb
  replace belw := next_trans belw bb
  replace belh := next_trans belh bb
  have zw29 := bb.size
  clear bb
  clear cA0
  have cA0 : w29.cell? ⟨w.heap.size, 0, none⟩ = some (.slice a0 n0 c0) := (rA0.next bel).cell 0
  have F := Lib.hid (bW.trans (bel.mono bW.size))
  clear bel belw belh om bW cA0
  go_wp2
  go_ret
  exact ⟨rfl, F.out⟩
end Go.Proofs.Ytkmhnkljigncmaa.wMetOf
end
