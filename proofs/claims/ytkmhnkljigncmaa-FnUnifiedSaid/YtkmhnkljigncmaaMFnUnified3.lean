/-
  MERGED: my texts DrawSub, DrawS, DrawSA, Shifted, DrawVar, AnsB, SubstOk, Gives, PlainOf, DrawSS, one behind the other, as they are. By an AI agent.
-/
import Derived.Test.YtkmhnkljigncmaaMFnUnified2
import Derived.Deep.AppendLies
import Derived.Deep.RegionHeld3
import Derived.Deep.QuietTactic
import Derived.BigQuiet
import Derived.Deep.DeepMust
section
/-
  WORDS for a substitution that is being drawn: its row is the call's own, its terms may be read and lie outside the cursor's block. Conditions: none; plain lemmas. By an AI agent.
-/
namespace Go.Proofs.Ytkmhnkljigncmaa.drawSub
open Go.RowKit Go.Proofs.Ytkmhnkljigncmaa.base Go.Proofs.Ytkmhnkljigncmaa.ints Go.Proofs.Ytkmhnkljigncmaa.sig Go.Proofs.Ytkmhnkljigncmaa.cursor Go.Proofs.Ytkmhnkljigncmaa.marks Go.Proofs.Ytkmhnkljigncmaa.app Go.Proofs.Ytkmhnkljigncmaa.appAt Go.Proofs.Ytkmhnkljigncmaa.sym Go.Proofs.Ytkmhnkljigncmaa.segs Go.Proofs.Ytkmhnkljigncmaa.segsHelp Go.Proofs.Ytkmhnkljigncmaa.dice Go.Proofs.Ytkmhnkljigncmaa.drawSig Go.Proofs.Ytkmhnkljigncmaa.drawTerm Go.Proofs.Ytkmhnkljigncmaa.drawAny Go.Proofs.Ytkmhnkljigncmaa.drawPair Go.Proofs.Ytkmhnkljigncmaa.drawOne

/-- an element: a slice that reads as ys, outside block p and outside row r -/
def Elem (w : World) (p : Nat) (r : Option Nat) (v : Value) (ys : List Int) : Prop :=
  ∃ A' n' c', v = .slice A' n' c' ∧ Rd w p w.heap.size A' n' ys ∧ Cap A' n' c' ∧ (0 < n' → blk A' ≠ r)

/-- the row is the call's own, the elements may be read -/
def OwnR (w : World) (p lo : Nat) (A : Option Addr) (n c : Nat) (xss : List (List Int)) : Prop :=
  xss.length = n ∧ ∃ vs : List Value, w.ownsRow lo 24 1 (.slice A n c) n vs ∧ ∀ j, j < n → Elem w p (blk A) (vs.getD j undef) (xss.getD j [])

section
variable {w w' : World} {p lo n c : Nat} {A : Option Addr} {xss : List (List Int)} {r : Option Nat} {v : Value} {ys : List Int}
theorem Elem.below (h : Elem w p r v ys) (hb : Below w.heap.size w w') : Elem w' p r v ys := by
  obtain ⟨A', n', c', e, hr, hc, hne⟩ := h
  exact ⟨A', n', c', e, (hr.below hb (Nat.le_refl _)).more hb.size, hc, hne⟩
theorem Elem.dice (h : Elem w p r v ys) (hg : w.grownBy w' (some p)) : Elem w' p r v ys := by
  obtain ⟨A', n', c', e, hr, hc, hne⟩ := h
  exact ⟨A', n', c', e, (hr.grown hg (Nat.le_refl _)).more hg.size, hc, hne⟩
theorem OwnR.nil (w : World) (p lo : Nat) : OwnR w p lo none 0 0 [] := ⟨rfl, [], ⟨rfl, .inl ⟨rfl, rfl⟩⟩, fun j hj => absurd hj (Nat.not_lt_zero _)⟩
theorem OwnR.below (h : OwnR w p lo A n c xss) (hb : Below w.heap.size w w') : OwnR w' p lo A n c xss := by
  obtain ⟨h1, vs, h2, h3⟩ := h
  exact ⟨h1, vs, World.ownsRow.kept h2 ⟨hb.os, hb.tape, hb.output, hb.size, fun k hk _ => hb.block k hk⟩ (row := none) (by cases (Value.slice A n c).ownBlock <;> simp), fun j hj => (h3 j hj).below hb⟩
theorem OwnR.dice (h : OwnR w p lo A n c xss) (hg : w.grownBy w' (some p)) (hp : p < lo) : OwnR w' p lo A n c xss := by
  obtain ⟨h1, vs, h2, h3⟩ := h
  refine ⟨h1, vs, World.ownsRow.kept h2 hg ?_, fun j hj => (h3 j hj).dice hg⟩
  cases e : (Value.slice A n c).ownBlock with
  | none => exact .inl rfl
  | some k =>
    refine .inr (fun e2 => ?_)
    have := (World.ownsRow.lt h2 k e).1
    injection e2 with e2
    omega
theorem OwnR.lower {lo' : Nat} (h : OwnR w p lo A n c xss) (h1 : lo' ≤ lo) : OwnR w p lo' A n c xss := by
  obtain ⟨h3, vs, ho, h4⟩ := h
  refine ⟨h3, vs, ⟨ho.1, ?_⟩, h4⟩
  rcases ho.2 with q2 | ⟨g, cap, cur, hv, hg, q⟩
  · exact .inl q2
  · exact .inr ⟨g, cap, cur, hv, by omega, q⟩
theorem OwnR.ge (h : OwnR w p lo A n c xss) : ∀ k, blk A = some k → lo ≤ k ∧ k < w.heap.size := fun k hk => by
  obtain ⟨_, vs, ho, _⟩ := h
  exact World.ownsRow.lt ho k (by rw [blk_own]; exact hk)
theorem OwnR.cap (h : OwnR w p lo A n c xss) : Cap A n c := by
  obtain ⟨_, vs, hr, _⟩ := h
  rcases own_form hr with ⟨rfl, h1, rfl, _⟩ | ⟨g, cur, rfl, _, _, h1, h2, h3, _⟩
  · exact ⟨by omega, by omega, fun _ => rfl⟩
  · exact ⟨h1, h3, fun e => by cases e⟩

/-- one more -/
theorem ownR_app {vs : List Value} {A' : Option Addr} {c' : Nat} (hl : xss.length = n) (hr : w.ownsRow lo 24 1 (.slice A n c) n vs) (hin : ∀ j, j < n → Elem w p (blk A) (vs.getD j undef) (xss.getD j [])) (hv : Elem w p (blk A) v ys)
    (hown' : w'.ownsRow lo 24 1 (.slice A' (n + 1) c') (n + 1) (vs ++ [v])) (hg : w.grownBy w' (blk A)) (hat : blk A' = blk A ∨ blk A' = some w.heap.size) : OwnR w' p lo A' (n + 1) c' (xss ++ [ys]) := by
  have hvl : vs.length = n := by have := hr.1; omega
  have keep : ∀ {u : Value} {zs : List Int}, Elem w p (blk A) u zs → Elem w' p (blk A') u zs := fun {u zs} hu => by
    obtain ⟨B, m, q, e, hrd, hc, hne⟩ := hu
    refine ⟨B, m, q, e, ⟨hrd.1, fun hm => ?_⟩, hc, fun hm => ?_⟩
    · obtain ⟨b, off, e1, hb, hbp, hcell⟩ := hrd.2 hm
      have h1 := hne hm
      rw [e1] at h1
      refine ⟨b, off, e1, Nat.lt_of_lt_of_le hb hg.size, hbp, fun j hj => ?_⟩
      rw [World.cell?_of_block (a := ⟨b, off + j, none⟩) (hg.block b hb h1)]
      exact hcell j hj
    · obtain ⟨b, off, e1, hb, hbp, _⟩ := hrd.2 hm
      rcases hat with e2 | e2
      · rw [e2]; exact hne hm
      · rw [e2, e1]
        intro e3
        have e4 : b = w.heap.size := by injection e3
        omega
  refine ⟨by simp [hl], vs ++ [v], hown', fun j hj => ?_⟩
  by_cases e : j = n
  · subst e
    rw [show (vs ++ [v]).getD j undef = v by simp [List.getD, ← hvl], show (xss ++ [ys]).getD j [] = ys by simp [List.getD, ← hl]]
    exact keep hv
  · rw [show (vs ++ [v]).getD j undef = vs.getD j undef by simp [List.getD, List.getElem?_append_left (show j < vs.length by omega)], show (xss ++ [ys]).getD j [] = xss.getD j [] by simp [List.getD, List.getElem?_append_left (show j < xss.length by omega)]]
    exact keep (hin j (by omega))
end

/-- append of one list, in a walk -/
theorem appR1 {w : World} {ops : Array Oper} {rest : List Oper} {o : Oper} {a : Act} {Q : Exit → Act → World → Prop} (hgd : o.guard = none) (s x : Operand)
    (ho : o.op = .call { callee := .builtin .append, args := #[s, x], argTypes := #[29, 29] })
    (p lo : Nat) (A : Option Addr) (n c : Nat) (xss : List (List Int)) (hs : a.eval s = .slice A n c) (hown : OwnR w p lo A n c xss)
    (g c2 : Nat) (v : Value) (ys : List Int) (hx : a.eval x = .slice (some ⟨g, 0, none⟩) 1 c2) (hy : w.cell? ⟨g, 0, none⟩ = some v) (hv : Elem w p (blk A) v ys) (hn : n ≤ 1048576) (hlo : lo ≤ w.heap.size)
    (h : ∀ A' c' w', OwnR w' p lo A' (n + 1) c' (xss ++ [ys]) → w.grownBy w' (blk A) → (blk A' = blk A ∨ blk A' = some w.heap.size) → Below lo w w' → wpList Try.prog ops Q rest (a.put o.dst (.slice A' (n + 1) c')) w') : wpList Try.prog ops Q (o :: rest) a w := by
  obtain ⟨i0, hi, hz0, hz1, hz2⟩ := info_parts info_list
  obtain ⟨hlen, vs, hr, hin⟩ := hown
  have hvl : vs.length = n := by have := hr.1; omega
  have hvc : v.oneCell' = true := by obtain ⟨A1, n1, c1, rfl, _⟩ := hv; rfl
  refine wpList_append_own_at w hgd s x 29 ho lo 24 i0 (.slice none 0 0) 1 24 Try.underlying29 hi hz0 hz1 hz2 rfl (by decide) (.slice A n c) n vs hs hr
    ⟨g, 0, none⟩ 1 c2 [v] hx rfl (fun j u hj => ?_) (fun u hu => ?_) (by unfold maxLen; omega) (by omega) hlo ?_
  · match j, hj with
    | 0, hj => simp at hj; subst hj; simpa [Addr.add] using hy
  · simp at hu; subst hu; exact hvc
  · intro v' w' hown' hg _ hat
    have hform : ∃ A' c', v' = .slice A' (n + 1) c' := by
      rcases hown'.2 with ⟨_, h0⟩ | ⟨g', cap, cur, e, _⟩
      · omega
      · exact ⟨_, _, e⟩
    obtain ⟨A', c', rfl⟩ := hform
    rw [blk_own] at hg
    rw [blk_own, blk_own] at hat
    exact h A' c' w' (ownR_app hlen hr hin hv hown' hg hat) hg hat ((Below.refl lo w).grown hg hlo (fun k hk => (World.ownsRow.lt hr k (by rw [blk_own]; exact hk)).1))

/-- append of one list, at a step of a region that draws -/
theorem stepR1 {w : World} {ops : Array Oper} {o : Oper} {a : Act} {K : Act → World → Prop} {Q : Exit → Act → World → Prop} {E : Prop} (hgd : o.guard = none) (s x : Operand)
    (ho : o.op = .call { callee := .builtin .append, args := #[s, x], argTypes := #[29, 29] })
    (p lo : Nat) (A : Option Addr) (n c : Nat) (xss : List (List Int)) (hs : a.eval s = .slice A n c) (hown : OwnR w p lo A n c xss)
    (g c2 : Nat) (v : Value) (ys : List Int) (hx : a.eval x = .slice (some ⟨g, 0, none⟩) 1 c2) (hy : w.cell? ⟨g, 0, none⟩ = some v) (hv : Elem w p (blk A) v ys) (hn : n ≤ 1048576) (hlo : lo ≤ w.heap.size)
    (h : ∀ g' c' w', OwnR w' p lo (some ⟨g', 0, none⟩) (n + 1) c' (xss ++ [ys]) → w.grownBy w' (blk A) → (blk A = some g' ∨ g' = w.heap.size) → g' < w'.heap.size → K (a.put o.dst (.slice (some ⟨g', 0, none⟩) (n + 1) c')) w') :
    if Region.wanted o (yielded ops a.tmps) = true then Oper.wp Try.prog o a w K Q else E := by
  obtain ⟨i0, hi, hz0, hz1, hz2⟩ := info_parts info_list
  obtain ⟨hlen, vs, hr, hin⟩ := hown
  have hvl : vs.length = n := by have := hr.1; omega
  have hvc : v.oneCell' = true := by obtain ⟨A1, n1, c1, rfl, _⟩ := hv; rfl
  refine step_append_lies w hgd s x 29 ho lo 24 i0 (.slice none 0 0) 1 24 Try.underlying29 hi hz0 hz1 hz2 rfl (by decide) (.slice A n c) n vs hs hr
    ⟨g, 0, none⟩ 1 c2 [v] hx rfl (fun j u hj => ?_) (fun u hu => ?_) (by omega) (by unfold maxLen; omega) (by omega) hlo w.heap.size rfl ?_
  · match j, hj with
    | 0, hj => simp at hj; subst hj; simpa [Addr.add] using hy
  · simp at hu; subst hu; exact hvc
  · intro g' c' w' hown' hg hat hlt
    rw [blk_own] at hg hat
    exact h g' c' w' (ownR_app hlen hr hin hv hown' hg (hat.imp (fun e => e.symm) (fun e => by rw [← e]; rfl))) hg hat hlt

/-- a drawn substitution: at most M terms, each of at most L numbers -/
def Small (M L m : Nat) (xss : List (List Int)) : Prop := m ≤ M ∧ ∀ j, (xss.getD j []).length ≤ L
theorem small_nil (M L : Nat) : Small M L 0 [] := ⟨Nat.zero_le _, fun j => by simp⟩
theorem small_app {M M' L m : Nat} {xss : List (List Int)} {ys : List Int} (h : Small M L m xss) (hl : xss.length = m) (hy : ys.length ≤ L) (hM : m + 1 ≤ M') : Small M' L (m + 1) (xss ++ [ys]) :=
  ⟨hM, fun j => by
    rcases Nat.lt_trichotomy j m with h1 | h1 | h1
    · have := h.2 j
      simpa [List.getD, List.getElem?_append_left (show j < xss.length by omega)] using this
    · subst h1
      simpa [List.getD, ← hl] using hy
    · simp [List.getD, show xss.length + 1 ≤ j by omega]⟩
theorem small_wider {M L M' L' m : Nat} {xss : List (List Int)} (h : Small M L m xss) (h1 : M ≤ M') (h2 : L ≤ L') : Small M' L' m xss := ⟨Nat.le_trans h.1 h1, fun j => Nat.le_trans (h.2 j) h2⟩
theorem small_tot {M L m : Nat} {xss : List (List Int)} (h : Small M L m xss) (hl : xss.length = m) (hb : M + M * L ≤ 1048576) : tot xss ≤ 1048576 := by
  have h1 : ∀ k, sumL xss k ≤ k * L := fun k => by
    induction k with
    | zero => simp [sumL]
    | succ k ih =>
      by_cases hk : k < xss.length
      · rw [sumL_succ hk, Nat.add_mul]
        have := h.2 k
        omega
      · have e : sumL xss (k + 1) = sumL xss k := by
          unfold sumL
          rw [List.take_of_length_le (show xss.length ≤ k + 1 by omega), List.take_of_length_le (show xss.length ≤ k by omega)]
        rw [e, Nat.add_mul]
        omega
  unfold tot
  have h2 := h1 xss.length
  have h3 : xss.length * L ≤ M * L := Nat.mul_le_mul_right _ (by rw [hl]; exact h.1)
  have h4 := h.1
  omega

def AnsSub (w : World) (p : Nat) (A : Option Addr) (n c M L : Nat) (e : Ending) (w' : World) : Prop :=
  ∃ B m cB xss, e = .returned (.agg #[.slice B m cB]) ∧ OwnR w' p w.heap.size B m cB xss ∧ Small M L m xss ∧ Dice w' p A n c ∧ w.grownBy w' (some p)
end Go.Proofs.Ytkmhnkljigncmaa.drawSub
end

section
/-
  CONTRACT: spec.l2Draw: a drawn substitution. Conditions: a drawing cursor, a valid signature. By an AI agent.
-/
namespace Go.Proofs.Ytkmhnkljigncmaa.drawS
open Go.RowKit Go.Proofs.Ytkmhnkljigncmaa.base Go.Proofs.Ytkmhnkljigncmaa.ints Go.Proofs.Ytkmhnkljigncmaa.sig Go.Proofs.Ytkmhnkljigncmaa.term Go.Proofs.Ytkmhnkljigncmaa.cursor Go.Proofs.Ytkmhnkljigncmaa.termOk Go.Proofs.Ytkmhnkljigncmaa.marks Go.Proofs.Ytkmhnkljigncmaa.app Go.Proofs.Ytkmhnkljigncmaa.appAt Go.Proofs.Ytkmhnkljigncmaa.sym Go.Proofs.Ytkmhnkljigncmaa.segs Go.Proofs.Ytkmhnkljigncmaa.segsHelp Go.Proofs.Ytkmhnkljigncmaa.dice Go.Proofs.Ytkmhnkljigncmaa.drawSig Go.Proofs.Ytkmhnkljigncmaa.drawTerm Go.Proofs.Ytkmhnkljigncmaa.drawAny Go.Proofs.Ytkmhnkljigncmaa.drawPair Go.Proofs.Ytkmhnkljigncmaa.drawOne Go.Proofs.Ytkmhnkljigncmaa.drawSub
set_option maxRecDepth 100000

theorem grown_over {w a b : World} {B : Nat} {r : Option Nat} (g : w.grownBy a r) (hb : Below B a b) (hB : w.heap.size ≤ B) : w.grownBy b r :=
  ⟨hb.os.trans g.os, hb.tape.trans g.tape, hb.output.trans g.output, Nat.le_trans g.size hb.size, fun k hk hne => (hb.block k (by omega)).trans (g.block k hk hne)⟩
theorem OwnR.set {w : World} {p lo N n c : Nat} {A : Option Addr} {xss : List (List Int)} {a : Option Addr} {l k : Nat} (h : OwnR w p lo A n c xss) (hN : N < lo) (hc : w.cell? ⟨N, 0, none⟩ = some (.slice a l k)) (u : Value) : OwnR (w.setCell ⟨N, 0, none⟩ u) p lo A n c xss := by
  obtain ⟨h1, vs, h2, h3⟩ := h
  refine ⟨h1, vs, World.ownsRow.kept h2 (grown_put (World.grownBy.refl w _) 0 u) ?_, fun j hj => ?_⟩
  · cases e : (Value.slice A n c).ownBlock with
    | none => exact .inl rfl
    | some z =>
      refine .inr (fun e2 => ?_)
      have := (World.ownsRow.lt h2 z e).1
      injection e2 with e2
      omega
  · obtain ⟨A', n', c', e, hr, hcap, hne⟩ := h3 j hj
    exact ⟨A', n', c', e, (Rd.other hr hc u).more (by simp), hcap, hne⟩

/-- what is known while a substitution is drawn: the signature's box at w.heap.size, the result's behind it, the variable at o -/
structure DD (w : World) (p : Nat) (A : Option Addr) (n c : Nat) (S : Option Addr) (sn sc : Nat) (sg : List Int) (o : Nat) (B : Option Addr) (m cB : Nat) (xss : List (List Int)) (wr : World) : Prop where
  d : Dice wr p A n c
  rS : Row wr w.heap.size 26 #[.slice S sn sc]
  rR : Row wr (w.heap.size + 1) 31 #[.slice none 0 0]
  rO : Row wr o 31 #[.slice B m cB]
  own : OwnR wr p (o + 1) B m cB xss
  s : Rd wr p w.heap.size S sn sg
  g : w.grownBy wr (some p)
  hp : p < w.heap.size
  ho : w.heap.size + 1 < o
section
variable {w : World} {p : Nat} {A : Option Addr} {n c : Nat} {S : Option Addr} {sn sc : Nat} {sg : List Int} {o : Nat} {B : Option Addr} {m cB : Nat} {xss : List (List Int)} {wr w' : World}
theorem DD.dice (t : DD w p A n c S sn sc sg o B m cB xss wr) (d : Dice w' p A n c) (hg : wr.grownBy w' (some p)) : DD w p A n c S sn sc sg o B m cB xss w' :=
  ⟨d, Row.away t.rS hg (fun e => by injection e; have := t.hp; omega), Row.away t.rR hg (fun e => by injection e; have := t.hp; omega), Row.away t.rO hg (fun e => by injection e; have := t.hp; have := t.ho; omega), t.own.dice hg (by have := t.hp; have := t.ho; omega), t.s.grown hg t.g.size, grown_trans t.g hg, t.hp, t.ho⟩
theorem DD.next (t : DD w p A n c S sn sc sg o B m cB xss wr) (hb : Below wr.heap.size wr w') : DD w p A n c S sn sc sg o B m cB xss w' :=
  ⟨t.d.next hb, t.rS.next hb, t.rR.next hb, t.rO.next hb, t.own.below hb, t.s.below hb t.g.size, grown_over t.g hb t.g.size, t.hp, t.ho⟩
theorem DD.drew (t : DD w p A n c S sn sc sg o B m cB xss wr) : DD w p A n c S sn sc sg o B m cB xss wr.drew := t.next ⟨rfl, rfl, rfl, Nat.le_refl _, fun _ _ => rfl⟩
/-- a new value of the variable -/
theorem DD.put {B' : Option Addr} {m' cB' : Nat} {yss : List (List Int)} (t : DD w p A n c S sn sc sg o B m cB xss wr) (hb : Below (o + 1) wr w') (ho : OwnR w' p (o + 1) B' m' cB' yss) : DD w p A n c S sn sc sg o B' m' cB' yss (w'.setCell ⟨o, 0, none⟩ (.slice B' m' cB')) := by
  have h1 := t.hp
  have h2 := t.ho
  have hO := t.rO.below hb (Nat.lt_succ_self _)
  have hS := Below.setCell (Below.refl o w') (p := ⟨o, 0, none⟩) (Nat.le_refl _) (.slice B' m' cB')
  have hb2 : Below o wr (w'.setCell ⟨o, 0, none⟩ (.slice B' m' cB')) := (hb.mono (Nat.le_succ _)).trans hS
  exact ⟨t.d.keep (hb2.mono (by omega)), t.rS.below hb2 (by omega), t.rR.below hb2 (by omega), hO.put 0 _, OwnR.set ho (Nat.lt_succ_self _) (hO.cell 0) _, t.s.below hb2 (by omega), grown_over t.g hb2 (by omega), h1, h2⟩
theorem DD.result {M L : Nat} (t : DD w p A n c S sn sc sg o B m cB xss wr) (hs : Small M L m xss) : AnsSub w p A n c M L (.returned (.agg #[.slice B m cB])) (wr.setCell ⟨w.heap.size + 1, 0, none⟩ (.slice B m cB)) := by
  have h1 := t.hp
  have h2 := t.ho
  have hS := Below.setCell (Below.refl (w.heap.size + 1) wr) (p := ⟨w.heap.size + 1, 0, none⟩) (Nat.le_refl _) (.slice B m cB)
  exact ⟨B, m, cB, xss, rfl, (OwnR.set t.own (by omega) (t.rR.cell 0) _).lower (by omega), hs, t.d.keep (hS.mono (by omega)), grown_over t.g hS (by omega)⟩
end

/-- the head of the loop -/
def HeadD (w : World) (p : Nat) (A : Option Addr) (n c : Nat) (S : Option Addr) (sn sc : Nat) (sg : List Int) (o : Nat) (num : Value) (wr : World) : Prop :=
  ∃ (k : Nat) (B : Option Addr) (m cB : Nat) (xss : List (List Int)), num = .int .i64 k ∧ m + k ≤ 3 ∧ Small 3 16 m xss ∧ DD w p A n c S sn sc sg o B m cB xss wr
theorem elem_nil {w : World} {p : Nat} {r : Option Nat} {g : Nat} : Elem w p r (.slice (some ⟨g, 0, none⟩) 0 0) [] := ⟨_, 0, 0, rfl, Rd.none_, ⟨Nat.le_refl _, by omega, fun e => by cases e⟩, fun h => absurd h (by omega)⟩

set_option maxHeartbeats 4000000 in
theorem draw (p : Nat) (A : Option Addr) (n c : Nat) (S : Option Addr) (sn sc : Nat) (sg : List Int) (w : World) (hd : Dice w p A n c) (hr : Rd w p w.heap.size S sn sg) (hs : Arities sg) (hn1 : 1 ≤ sn) (hn2 : sn ≤ 256) :
    Calls Try.prog 109 #[.pointer (some ⟨p, 0, none⟩), .agg #[.slice S sn sc]] w (AnsSub w p A n c 3 16) := by
  obtain ⟨W, hW⟩ : ∃ W, W = ((w.alloc (.cells #[.slice S sn sc] 26)).alloc (.cells #[.slice none 0 0] 31)).alloc (.cells #[.slice none 0 0] 31) := ⟨_, rfl⟩
  have T : DD w p A n c S sn sc sg (w.heap.size + 2) none 0 0 [] W := by
    have b1 : Below w.heap.size w W := by rw [hW]; exact (((Below.refl _ _).alloc (Nat.le_refl _) _).alloc (by simp) _).alloc (by simp; omega) _
    refine ⟨hd.next b1, ?_, ?_, ?_, OwnR.nil _ _ _, hr.below b1 (Nat.le_refl _), grown_below b1 _, hd.lt, by omega⟩
    · rw [hW]; exact ((Row.new _ _ _).alloc _).alloc _
    · rw [hW]; have := (Row.new (w.alloc (.cells #[.slice S sn sc] 26)) 31 #[.slice none 0 0]).alloc (.cells #[.slice none 0 0] 31); simpa using this
    · rw [hW]; have := Row.new ((w.alloc (.cells #[.slice S sn sc] 26)).alloc (.cells #[.slice none 0 0] 31)) 31 #[.slice none 0 0]; simpa using this
  have HW := Lib.hid hW
  have hp := hd.lt
  have L1 := Lib.hid (below p A n c 4 W T.d (by omega) (by omega))
  clear hW hd hr
  go_enter Try.func109, Try.ntmps109
  go_wp2_with fail
  rw [← HW.out]
  refine L1.out.mono ?_
  rintro e w1 ⟨x, rfl, x0, x1, d1, g1⟩
  obtain ⟨k0, rfl⟩ := Int.eq_ofNat_of_zero_le x0
  have H0 : HeadD w p A n c S sn sc sg (w.heap.size + 2) (.int .i64 (k0 : Int)) w1 := ⟨k0, none, 0, 0, [], rfl, by omega, small_nil _ _, T.dice d1 g1⟩
  have HH := Lib.hid H0
  clear H0 T d1 g1 L1 HW
  go_wp2_with fail
  go_loopw [6] (fun num wr => HeadD w p A n c S sn sc sg (w.heap.size + 2) num wr) (fun num _ => (intOf num).toNat)
  case atStart => exact HH.out
  case round =>
    obtain ⟨k, B, m, cB, xss, rfl, hmk, hsm, T⟩ := hrel
    clear HH
    have ze1 : ¬ w.heap.size + 2 = w.heap.size + 1 := by omega
    by_cases hk : 0 < k
    · have i0 : (0 : Int) < (k : Int) := by omega
      have B1 : Below wr.heap.size wr (wr.alloc (.cells #[] 2)) := (Below.refl _ _).alloc (Nat.le_refl _) _
      have T1 := T.next B1
      have zwr := T.g.size
      clear T B1
      go_wp2_with fail
      refine (once p A n c 3 _ T1.d (by omega) (by omega)).mono ?_
      rintro e w2 ⟨b, rfl, d2, g2⟩
      have T2 := T1.dice d2 g2
      clear T1 d2 g2
      have finish : ∀ (wz : World) (v : Value) (ys : List Int), DD w p A n c S sn sc sg (w.heap.size + 2) B m cB xss wz → Elem wz p (blk B) v ys → ys.length ≤ 16 → ∀ (wt : World) (B' : Option Addr) (cB' : Nat), OwnR wt p (w.heap.size + 3) B' (m + 1) cB' (xss ++ [ys]) → Below (w.heap.size + 3) wz wt → HeadD w p A n c S sn sc sg (w.heap.size + 2) (.int .i64 ((k : Int) - 1)) (wt.setCell ⟨w.heap.size + 2, 0, none⟩ (.slice B' (m + 1) cB')) :=
        fun wz v ys t el hy wt B' cB' ho hb => ⟨k - 1, B', m + 1, cB', xss ++ [ys], by rw [show ((k - 1 : Nat) : Int) = (k : Int) - 1 by omega], by omega, small_app hsm t.own.1 hy (by omega), t.put hb ho⟩
      have FIN := Lib.hid finish
      clear finish
      cases b with
      | true =>
        have B3 : Below w2.heap.size w2 (w2.alloc (.cells #[.slice (some ⟨wr.heap.size, 0, none⟩) 0 0] 24)) := (Below.refl _ _).alloc (Nat.le_refl _) _
        have T3 := T2.next B3
        have cO : w2.cell? ⟨w.heap.size + 2, 0, none⟩ = some (.slice B m cB) := T2.rO.cell 0
        have zlt := T2.rO.lt
        clear B3
        go_wp2_with (at_builtin; go_must (refine appR1 rfl _ _ rfl p (w.heap.size + 3) B m cB xss rfl T3.own _ 1 (.slice (some ⟨wr.heap.size, 0, none⟩) 0 0) [] rfl ((Row.new _ _ _).cell 0) elem_nil (by omega) (by simp; omega) ?_; intro A' cA' w6 ho6 hg6 hat6 b6; have q2 := T3.rO.below b6 (by omega); have c6 : w6.cell? ⟨w.heap.size + 2, 0, none⟩ = some (.slice B m cB) := q2.cell 0; have f6 : w6.frozen? ⟨w.heap.size + 2, 0, none⟩ = false := q2.free 0))
        have S1 := Lib.hid (FIN.out _ (.slice (some ⟨wr.heap.size, 0, none⟩) 0 0) [] T3 elem_nil (by simp) w6 A' cA' ho6 b6)
        clear ho6 hg6 hat6 b6 T3 T2 q2 cO FIN
        go_wp2
        go_roundw
        case rel => exact S1.out
        case measure => simp [intOf]; omega
      | false =>
        have T3 := T2.drew
        have cS : w2.cell? ⟨w.heap.size, 0, none⟩ = some (.slice S sn sc) := T2.rS.cell 0
        clear T2
        go_wp2_with fail
        go_region_held3 (fun w' => w'.cell? ⟨w.heap.size, 0, none⟩ = some (.slice S sn sc))
          (go_keep)
          (first
            | (go_at_call 95; refine (below p A n c 3 _ T3.d (by omega) (by omega)).mono ?_; rintro e u1 ⟨x, rfl, x0, x1, d1, g1⟩; have T4 := T3.dice d1 g1; have cS2 : u1.cell? ⟨w.heap.size, 0, none⟩ = some (.slice S sn sc) := T4.rS.cell 0; have hw : IntKind.i64.wrap (1 + x) = 1 + x := by rw [IntKind.wrap_i64]; omega)
            | (go_at_call 111; refine (drawTerm p A n c S sn sc sg 3 hs (by omega) (by omega) (by omega) (by omega) 2 (1 + x) u1 T4.d (T4.s.more T4.g.size) (by omega) (by clear hw; omega) (by clear hw; omega)).mono ?_; rintro e u2 ⟨O, on, oc, ys, rfl, o2, h1, h2, d2, g2⟩; have T5 := T4.dice d2 g2; have cS3 : u2.cell? ⟨w.heap.size, 0, none⟩ = some (.slice S sn sc) := T5.rS.cell 0))
        have hyl : ys.length ≤ 16 := by rw [← Own.len o2]; exact h2
        have zu1 := T4.rO.lt
        have cO : u2.cell? ⟨w.heap.size + 2, 0, none⟩ = some (.slice B m cB) := T5.rO.cell 0
        have zlt := T5.rO.lt
        have EL : Elem u2 p (blk B) (.slice O on oc) ys := ⟨O, on, oc, rfl, Rd.of_own o2 (by omega), ⟨(Own.cap o2).1, (Own.cap o2).2, Own.none_cap o2⟩, fun _ e => by
          obtain ⟨gg, rfl⟩ := Own.some_ o2 h1
          have h3 := Own.ge o2 gg rfl
          have h4 := (T4.own.ge gg (by rw [← e]; rfl)).2
          omega⟩
        have B3 : Below u2.heap.size u2 (u2.alloc (.cells #[.slice O on oc] 24)) := (Below.refl _ _).alloc (Nat.le_refl _) _
        have T6 := T5.next B3
        have EL2 := EL.below B3
        clear hw T3 T4 T5 EL B3 d1 g1 d2 g2 cS cS2 cS3 o2 x0 x1
        go_wp2_with (at_builtin; go_must (refine appR1 rfl _ _ rfl p (w.heap.size + 3) B m cB xss rfl T6.own _ 1 (.slice O on oc) ys rfl ((Row.new _ _ _).cell 0) EL2 (by omega) (by simp; omega) ?_; intro A' cA' w6 ho6 hg6 hat6 b6; have q2 := T6.rO.below b6 (by omega); have c6 : w6.cell? ⟨w.heap.size + 2, 0, none⟩ = some (.slice B m cB) := q2.cell 0; have f6 : w6.frozen? ⟨w.heap.size + 2, 0, none⟩ = false := q2.free 0))
        have S1 := Lib.hid (FIN.out _ _ ys T6 EL2 hyl w6 A' cA' ho6 b6)
        clear ho6 hg6 hat6 b6 T6 EL2 q2 cO FIN
        go_wp2
        go_roundw
        case rel => exact S1.out
        case measure => simp [intOf]; omega
    · have i1 : ¬ (0 : Int) < (k : Int) := by omega
      have cO : wr.cell? ⟨w.heap.size + 2, 0, none⟩ = some (.slice B m cB) := T.rO.cell 0
      have cR : wr.cell? ⟨w.heap.size + 1, 0, none⟩ = some (.slice none 0 0) := T.rR.cell 0
      have fR : wr.frozen? ⟨w.heap.size + 1, 0, none⟩ = false := T.rR.free 0
      have F := Lib.hid (T.result hsm)
      clear T
      go_wp2
      exact bodyPost_ret (v := .agg #[.slice B m cB]) (by simp [results, Try.results109, go_sem, cR]) rfl F.out
end Go.Proofs.Ytkmhnkljigncmaa.drawS
end

section
/-
  CONTRACT: spec.l2DrawAny: a drawn substitution, bent sometimes. Conditions: a drawing cursor. By an AI agent.
-/
namespace Go.Proofs.Ytkmhnkljigncmaa.drawSA
open Go.RowKit Go.Proofs.Ytkmhnkljigncmaa.base Go.Proofs.Ytkmhnkljigncmaa.ints Go.Proofs.Ytkmhnkljigncmaa.sig Go.Proofs.Ytkmhnkljigncmaa.term Go.Proofs.Ytkmhnkljigncmaa.cursor Go.Proofs.Ytkmhnkljigncmaa.termOk Go.Proofs.Ytkmhnkljigncmaa.marks Go.Proofs.Ytkmhnkljigncmaa.app Go.Proofs.Ytkmhnkljigncmaa.appAt Go.Proofs.Ytkmhnkljigncmaa.sym Go.Proofs.Ytkmhnkljigncmaa.segs Go.Proofs.Ytkmhnkljigncmaa.segsHelp Go.Proofs.Ytkmhnkljigncmaa.dice Go.Proofs.Ytkmhnkljigncmaa.drawSig Go.Proofs.Ytkmhnkljigncmaa.drawTerm Go.Proofs.Ytkmhnkljigncmaa.drawAny Go.Proofs.Ytkmhnkljigncmaa.drawPair Go.Proofs.Ytkmhnkljigncmaa.drawOne Go.Proofs.Ytkmhnkljigncmaa.drawSub Go.Proofs.Ytkmhnkljigncmaa.drawS
set_option maxRecDepth 100000

theorem OwnR.setNe {w : World} {p lo N n c : Nat} {A : Option Addr} {xss : List (List Int)} {a : Option Addr} {l k : Nat} (h : OwnR w p lo A n c xss) (hN : blk A ≠ some N) (hc : w.cell? ⟨N, 0, none⟩ = some (.slice a l k)) (u : Value) : OwnR (w.setCell ⟨N, 0, none⟩ u) p lo A n c xss := by
  obtain ⟨h1, vs, h2, h3⟩ := h
  refine ⟨h1, vs, World.ownsRow.kept h2 (grown_put (World.grownBy.refl w _) 0 u) (.inr (by rw [blk_own]; exact hN)), fun j hj => ?_⟩
  obtain ⟨A', n', c', e, hr, hcap, hne⟩ := h3 j hj
  exact ⟨A', n', c', e, (Rd.other hr hc u).more (by simp), hcap, hne⟩

/-- ahead of the variable -/
structure D0 (w : World) (p : Nat) (A : Option Addr) (n c : Nat) (S : Option Addr) (sn sc : Nat) (sg : List Int) (wr : World) : Prop where
  d : Dice wr p A n c
  rS : Row wr w.heap.size 26 #[.slice S sn sc]
  rR : Row wr (w.heap.size + 1) 31 #[.slice none 0 0]
  s : Rd wr p w.heap.size S sn sg
  g : w.grownBy wr (some p)
  hp : p < w.heap.size
/-- with the variable, at o -/
structure DA (w : World) (p : Nat) (A : Option Addr) (n c : Nat) (S : Option Addr) (sn sc : Nat) (sg : List Int) (o : Nat) (B : Option Addr) (m cB : Nat) (xss : List (List Int)) (wr : World) : Prop where
  z : D0 w p A n c S sn sc sg wr
  rO : Row wr o 31 #[.slice B m cB]
  own : OwnR wr p (w.heap.size + 2) B m cB xss
  hB : blk B ≠ some o
  ho : w.heap.size + 1 < o
section
variable {w : World} {p : Nat} {A : Option Addr} {n c : Nat} {S : Option Addr} {sn sc : Nat} {sg : List Int} {o : Nat} {B : Option Addr} {m cB : Nat} {xss : List (List Int)} {wr w' : World}
theorem D0.dice (t : D0 w p A n c S sn sc sg wr) (d : Dice w' p A n c) (hg : wr.grownBy w' (some p)) : D0 w p A n c S sn sc sg w' :=
  ⟨d, Row.away t.rS hg (fun e => by injection e; have := t.hp; omega), Row.away t.rR hg (fun e => by injection e; have := t.hp; omega), t.s.grown hg t.g.size, grown_trans t.g hg, t.hp⟩
theorem D0.next (t : D0 w p A n c S sn sc sg wr) (hb : Below wr.heap.size wr w') : D0 w p A n c S sn sc sg w' :=
  ⟨t.d.next hb, t.rS.next hb, t.rR.next hb, t.s.below hb t.g.size, grown_over t.g hb t.g.size, t.hp⟩
theorem D0.over {o : Nat} (t : D0 w p A n c S sn sc sg wr) (hb : Below (w.heap.size + 2) wr w') : D0 w p A n c S sn sc sg w' :=
  ⟨t.d.keep (hb.mono (by have := t.hp; omega)), t.rS.below hb (by omega), t.rR.below hb (by omega), t.s.below hb (by omega), grown_over t.g hb (by omega), t.hp⟩
theorem DA.dice (t : DA w p A n c S sn sc sg o B m cB xss wr) (d : Dice w' p A n c) (hg : wr.grownBy w' (some p)) : DA w p A n c S sn sc sg o B m cB xss w' :=
  ⟨t.z.dice d hg, Row.away t.rO hg (fun e => by injection e; have := t.z.hp; have := t.ho; omega), t.own.dice hg (by have := t.z.hp; omega), t.hB, t.ho⟩
theorem DA.next (t : DA w p A n c S sn sc sg o B m cB xss wr) (hb : Below wr.heap.size wr w') : DA w p A n c S sn sc sg o B m cB xss w' :=
  ⟨t.z.next hb, t.rO.next hb, t.own.below hb, t.hB, t.ho⟩
theorem DA.alloc (t : DA w p A n c S sn sc sg o B m cB xss wr) (x : Obj) : DA w p A n c S sn sc sg o B m cB xss (wr.alloc x) := t.next ((Below.refl _ _).alloc (Nat.le_refl _) _)
theorem DA.drew (t : DA w p A n c S sn sc sg o B m cB xss wr) : DA w p A n c S sn sc sg o B m cB xss wr.drew := t.next ⟨rfl, rfl, rfl, Nat.le_refl _, fun _ _ => rfl⟩
/-- a new value of the variable -/
theorem DA.put {B' : Option Addr} {m' cB' : Nat} {yss : List (List Int)} (t : DA w p A n c S sn sc sg o B m cB xss wr) (hg : wr.grownBy w' (blk B)) (ho : OwnR w' p (w.heap.size + 2) B' m' cB' yss) (hat : blk B' = blk B ∨ blk B' = some wr.heap.size) : DA w p A n c S sn sc sg o B' m' cB' yss (w'.setCell ⟨o, 0, none⟩ (.slice B' m' cB')) := by
  have h2 := t.ho
  have hz := t.rO.lt
  have hge := t.own.ge
  have hO := Row.away t.rO hg t.hB
  have hb : Below (w.heap.size + 2) wr w' := (Below.refl _ _).grown hg (by omega) (fun k hk => (hge k hk).1)
  have hb2 : Below (w.heap.size + 2) wr (w'.setCell ⟨o, 0, none⟩ (.slice B' m' cB')) := hb.setCell (p := ⟨o, 0, none⟩) (by show w.heap.size + 2 ≤ o; omega) _
  have hB' : blk B' ≠ some o := by
    rcases hat with e | e
    · rw [e]; exact t.hB
    · rw [e]; intro e2; injection e2; omega
  exact ⟨D0.over (o := o) t.z hb2, hO.put 0 _, OwnR.setNe ho hB' (hO.cell 0) _, hB', h2⟩
theorem DA.result {M L : Nat} (t : DA w p A n c S sn sc sg o B m cB xss wr) (hs : Small M L m xss) : AnsSub w p A n c M L (.returned (.agg #[.slice B m cB])) (wr.setCell ⟨w.heap.size + 1, 0, none⟩ (.slice B m cB)) := by
  have h1 := t.z.hp
  have hS := Below.setCell (Below.refl (w.heap.size + 1) wr) (p := ⟨w.heap.size + 1, 0, none⟩) (Nat.le_refl _) (.slice B m cB)
  have hne : blk B ≠ some (w.heap.size + 1) := fun e => by have := (t.own.ge _ e).1; omega
  exact ⟨B, m, cB, xss, rfl, (OwnR.setNe t.own hne (t.z.rR.cell 0) _).lower (by omega), hs, t.z.d.keep (hS.mono (by omega)), grown_over t.z.g hS (by omega)⟩
theorem D0.empty {M L : Nat} (t : D0 w p A n c S sn sc sg wr) : AnsSub w p A n c M L (.returned (.agg #[.slice none 0 0])) (wr.setCell ⟨w.heap.size + 1, 0, none⟩ (.slice none 0 0)) := by
  have h1 := t.hp
  have hS := Below.setCell (Below.refl (w.heap.size + 1) wr) (p := ⟨w.heap.size + 1, 0, none⟩) (Nat.le_refl _) (.slice none 0 0)
  exact ⟨none, 0, 0, [], rfl, OwnR.nil _ _ _, small_nil _ _, t.d.keep (hS.mono (by omega)), grown_over t.g hS (by omega)⟩
end
theorem elem_new {w : World} {p N : Nat} {r : Option Nat} {O : Option Addr} {on oc : Nat} {ys : List Int} (h : Rd w p w.heap.size O on ys) (h1 : on ≤ oc) (h2 : oc ≤ 9223372036854775807) (h3 : O = none → oc = 0) (hnew : ∀ k, blk O = some k → N ≤ k) (hr : ∀ k, r = some k → k < N) : Elem w p r (.slice O on oc) ys :=
  ⟨O, on, oc, rfl, h, ⟨h1, h2, h3⟩, fun hn e => by
    obtain ⟨b, off, e1, _⟩ := h.2 hn
    have e2 : blk O = some b := by rw [e1]; rfl
    have q1 := hnew b e2
    have q2 := hr b (by rw [← e]; exact e2)
    omega⟩
theorem one_own (w : World) (y : Int) : Own (w.alloc (.cells #[.int .i64 y] 2)) w.heap.size (.slice (some ⟨w.heap.size, 0, none⟩) 1 1) [y] :=
  Own.of_row (Row.new _ _ _) rfl rfl (Nat.le_refl _) (by omega) (Nat.le_refl _) (fun j hj => by
    have : j = 0 := by omega
    subst this
    rfl)
theorem rep_nil (k j : Nat) : (List.replicate k ([] : List Int)).getD j [] = [] := by
  rw [List.getD_eq_getElem?_getD, List.getElem?_replicate]
  split <;> rfl
/-- k empty terms -/
theorem ownR_made {w : World} {p lo k : Nat} (hlo : lo ≤ w.heap.size) (hk : k ≤ 1048576) : OwnR (w.alloc (.cells (madeCells #[.slice none 0 0] k) 24)) p lo (some ⟨w.heap.size, 0, none⟩) k k (List.replicate k []) := by
  refine ⟨by simp, _, rowsOf (Row.new _ _ _) (size_madeCells _ _) (Nat.le_refl _) (by omega) hlo, fun j hj => ?_⟩
  have e : ((madeCells #[Value.slice none 0 0] k).toList.take k).getD j undef = .slice none 0 0 := by
    simp [madeCells, List.getD, hj, Nat.mod_one]
  rw [e, rep_nil k j]
  exact ⟨none, 0, 0, rfl, Rd.none_, ⟨Nat.le_refl _, by omega, fun _ => rfl⟩, fun h => absurd h (by omega)⟩
theorem small_made {k L : Nat} (hk : k ≤ 25) : Small 25 L k (List.replicate k []) := ⟨hk, fun j => by
  rw [rep_nil k j]
  simp⟩

set_option maxHeartbeats 8000000 in
theorem drawAnyS (p : Nat) (A : Option Addr) (n c : Nat) (S : Option Addr) (sn sc : Nat) (sg : List Int) (w : World) (hd : Dice w p A n c) (hr : Rd w p w.heap.size S sn sg) (hsn : sn ≤ 256) :
    Calls Try.prog 68 #[.pointer (some ⟨p, 0, none⟩), .agg #[.slice S sn sc]] w (AnsSub w p A n c 25 65) := by
  obtain ⟨W, hW⟩ : ∃ W, W = (w.alloc (.cells #[.slice S sn sc] 26)).alloc (.cells #[.slice none 0 0] 31) := ⟨_, rfl⟩
  have T : D0 w p A n c S sn sc sg W := by
    have b1 : Below w.heap.size w W := by rw [hW]; exact ((Below.refl _ _).alloc (Nat.le_refl _) _).alloc (by simp) _
    refine ⟨hd.next b1, ?_, ?_, hr.below b1 (Nat.le_refl _), grown_below b1 _, hd.lt⟩
    · rw [hW]; exact (Row.new _ _ _).alloc _
    · rw [hW]; have := Row.new (w.alloc (.cells #[.slice S sn sc] 26)) 31 #[.slice none 0 0]; simpa using this
  have HW := Lib.hid hW
  have hp := hd.lt
  have hsl := Lib.hid hr.1
  have L1 := Lib.hid (specSigOk S sn sc sg W (T.s.more T.g.size).seg (by omega))
  have cS : W.cell? ⟨w.heap.size, 0, none⟩ = some (.slice S sn sc) := T.rS.cell 0
  have zw : ¬ w.heap.size + 1 = w.heap.size := by omega
  clear hW hd hr
  go_enter Try.func68, Try.ntmps68
  go_wp2_with fail
  rw [← HW.out]
  refine L1.out.mono ?_
  rintro e u0 ⟨he, bb⟩
  replace T := T.next bb
  clear bb L1 cS HW
  cases hok : sigOkB sg with
  | false =>
    rw [hok] at he
    subst he
    have cR : u0.cell? ⟨w.heap.size + 1, 0, none⟩ = some (.slice none 0 0) := T.rR.cell 0
    have fR : u0.frozen? ⟨w.heap.size + 1, 0, none⟩ = false := T.rR.free 0
    have F := Lib.hid (T.empty (M := 25) (L := 65))
    clear T hok
    go_wp2
    exact bodyPost_ret (v := .agg #[.slice none 0 0]) (by simp [results, Try.results68, go_sem, cR]) rfl F.out
  | true =>
    rw [hok] at he
    subst he
    have hars := (sig_arities hok).1
    have hl1 := (sig_arities hok).2.1
    have L2 := Lib.hid (draw p A n c S sn sc sg u0 T.d (T.s.more T.g.size) hars (by rw [← hsl.out]; exact hl1) hsn)
    have cS : u0.cell? ⟨w.heap.size, 0, none⟩ = some (.slice S sn sc) := T.rS.cell 0
    clear hok hl1
    go_wp2_with fail
    refine L2.out.mono ?_
    rintro e w2 ⟨B, m, cB, xss, rfl, own2, hsm, d2, g2⟩
    have zu := T.rR.lt
    have zB := own2.ge
    have T2 := T.dice d2 g2
    obtain ⟨o, ho⟩ : ∃ o, w2.heap.size = o := ⟨_, rfl⟩
    obtain ⟨W3, hW3⟩ : ∃ W3, W3 = w2.alloc (.cells #[.slice B m cB] 31) := ⟨_, rfl⟩
    have T3 : DA w p A n c S sn sc sg o B m cB xss W3 := by
      have bb : Below w2.heap.size w2 W3 := by rw [hW3]; exact (Below.refl _ _).alloc (Nat.le_refl _) _
      exact ⟨T2.next bb, by rw [hW3, ← ho]; exact Row.new _ _ _, (own2.below bb).lower (by omega), fun e => by have := (zB _ e).2; omega, by have := T2.rR.lt; omega⟩
    have HW3 := Lib.hid hW3
    have HO := Lib.hid ho
    have L3 := Lib.hid (once p A n c 12 W3 T3.z.d (by omega) (by omega))
    have hml := Lib.hid own2.1
    clear T T2 own2 d2 g2 L2 cS hW3 ho zB zu
    go_wp2_with fail
    rw [← HW3.out, HO.out]
    refine L3.out.mono ?_
    rintro e w4 ⟨b, rfl, d4, g4⟩
    have T4 := T3.dice d4 g4
    clear T3 d4 g4 L3 HW3 HO
    have zo := T4.ho
    have zne1 : ¬ o = w.heap.size + 1 := by omega
    have zne2 : ¬ w.heap.size + 1 = o := by omega
    have zne3 : ¬ o = w.heap.size := by omega
    cases b with
    | false =>
      have cO : w4.cell? ⟨o, 0, none⟩ = some (.slice B m cB) := T4.rO.cell 0
      have cR : w4.cell? ⟨w.heap.size + 1, 0, none⟩ = some (.slice none 0 0) := T4.z.rR.cell 0
      have fR : w4.frozen? ⟨w.heap.size + 1, 0, none⟩ = false := T4.z.rR.free 0
      have F := Lib.hid (T4.result (small_wider hsm (show 3 ≤ 25 by omega) (show 16 ≤ 65 by omega)))
      clear T4
      go_wp2
      exact bodyPost_ret (v := .agg #[.slice B m cB]) (by simp [results, Try.results68, go_sem, cR]) rfl F.out
    | true =>
      have L4 := Lib.hid (below p A n c 3 w4 T4.z.d (by omega) (by omega))
      go_wp2_with fail
      refine L4.out.mono ?_
      rintro e w5 ⟨x, rfl, x0, x1, d5, g5⟩
      have T5 := T4.dice d5 g5
      clear T4 d5 g5 L4
      have cO : w5.cell? ⟨o, 0, none⟩ = some (.slice B m cB) := T5.rO.cell 0
      have hm3 := hsm.1
      by_cases hx0 : x = 0
      · subst hx0
        have T6 := T5.drew
        have cS : w5.cell? ⟨w.heap.size, 0, none⟩ = some (.slice S sn sc) := T5.z.rS.cell 0
        clear x0 x1
        go_wp2_with fail
        go_region_law (first
          | (refine stepR1 rfl _ _ rfl p (w.heap.size + 2) B m cB xss (by simp [Act.eval, Act.put]) (T7.alloc _).own w7.heap.size 1 (.slice O on oc) ys (by simp [Act.eval, Act.put]) ((Row.new _ _ _).cell 0) (EL.below ((Below.refl _ _).alloc (Nat.le_refl _) _)) (by omega) (by simp; omega) ?_; intro O' oc' w8 ho8 hg8 hat8 hlt8; have r8 := Row.away (T7.alloc _).rO hg8 T7.hB; have cV8 : w8.cell? ⟨o, 0, none⟩ = some (.slice B m cB) := r8.cell 0; have fV8 : w8.frozen? ⟨o, 0, none⟩ = false := r8.free 0)
          | (go_simp; go_at_call 69; refine (drawAnyN p A n c S sn sc sg _ T6.z.d (T6.z.s.more T6.z.g.size) (by omega)).mono ?_; rintro e w7 ⟨O, on, oc, ys, rfl, ra, h1, h2, h3, h4, d7, g7, hnew⟩; have T7 := T6.dice d7 g7; have EL : Elem w7 p (blk B) (.slice O on oc) ys := elem_new ra h1 h2 h3 hnew (fun k hk => (T6.own.ge k hk).2); have cV7 : w7.cell? ⟨o, 0, none⟩ = some (.slice B m cB) := T7.rO.cell 0; have zV7 : o < w7.heap.size := T7.rO.lt; have zW7 : w.heap.size + 1 < w7.heap.size := T7.z.rR.lt))
        all_goals
          have T8 := DA.put (T7.alloc (.cells #[.slice O on oc] 24)) hg8 ho8 (hat8.elim (fun h => .inl h.symm) (fun h => .inr (by rw [h]; rfl)))
          have F := Lib.hid (T8.result (small_app (M' := 25) (small_wider hsm (Nat.le_refl _) (show 16 ≤ 65 by omega)) hml.out (by rw [ra.1]; exact h4) (by omega)))
          have cR8 : (w8.setCell ⟨o, 0, none⟩ (.slice (some ⟨O', 0, none⟩) (m + 1) oc')).cell? ⟨w.heap.size + 1, 0, none⟩ = some (.slice none 0 0) := T8.z.rR.cell 0
          have fR8 : (w8.setCell ⟨o, 0, none⟩ (.slice (some ⟨O', 0, none⟩) (m + 1) oc')).frozen? ⟨w.heap.size + 1, 0, none⟩ = false := T8.z.rR.free 0
          clear T8 T7 T6 T5 ho8 hg8 hat8 hlt8 r8 d7 g7 cV7 EL ra
          go_wp2
          exact bodyPost_ret (v := .agg #[.slice (some ⟨O', 0, none⟩) (m + 1) oc']) (by simp [results, Try.results68, go_sem, cR8]) rfl F.out
      · by_cases hx1 : x = 1
        · subst hx1
          clear x0 x1 hx0
          have L6 := Lib.hid (below p A n c 2 w5 T5.z.d (by omega) (by omega))
          go_wp2_with fail
          refine L6.out.mono ?_
          rintro e w6 ⟨y, rfl, y0, y1, d6, g6⟩
          have T6 := T5.dice d6 g6
          obtain ⟨k, rfl⟩ := Int.eq_ofNat_of_zero_le y0
          have hmk : ∀ W : World, (Instr.makeSlice 29 (.int .i64 (24 + (k : Int))) (.int .i64 (24 + (k : Int)))).run Try.prog W = .ok (.slice (some ⟨W.heap.size, 0, none⟩) (24 + k) (24 + k)) (W.alloc (.cells (madeCells #[.slice none 0 0] (24 + k)) 24)) := fun W => by
            have := run_make_lists (24 + k) (by omega) W
            rwa [show ((24 + k : Nat) : Int) = 24 + (k : Int) by simp] at this
          have zO := T6.rO.lt
          have zR := T6.z.rR.lt
          have T7 := T6.put (w' := w6.alloc (.cells (madeCells #[.slice none 0 0] (24 + k)) 24)) (World.grownBy_alloc _ _ _) (ownR_made (p := p) (lo := w.heap.size + 2) (k := 24 + k) (by omega) (by omega)) (.inr rfl)
          have F := T7.result (small_made (L := 65) (show 24 + k ≤ 25 by omega))
          have cO6 : w6.cell? ⟨o, 0, none⟩ = some (.slice B m cB) := T6.rO.cell 0
          have fO6 : w6.frozen? ⟨o, 0, none⟩ = false := T6.rO.free 0
          have cR6 : w6.cell? ⟨w.heap.size + 1, 0, none⟩ = some (.slice none 0 0) := T6.z.rR.cell 0
          have fR6 : w6.frozen? ⟨w.heap.size + 1, 0, none⟩ = false := T6.z.rR.free 0
          rw [World.setCell_alloc_past (hn := zO), World.setCell_alloc_past (hn := by simp; omega)] at F
          have HF := Lib.hid F
          clear F T7 T6 T5 d6 g6 L6 cO
          go_wp2
          exact bodyPost_ret (v := .agg #[.slice (some ⟨w6.heap.size, 0, none⟩) (24 + k) (24 + k)]) (by simp [results, Try.results68, go_sem, cR6, zR, zne1, zne2]) rfl HF.out
        · have hx2 : x = 2 := by omega
          subst hx2
          have T6 := T5.drew
          clear x0 x1 hx0 hx1
          go_wp2_with fail
          go_region_law (first
            | (refine stepR1 rfl _ _ rfl p (w.heap.size + 2) B m cB xss (by simp [Act.eval, Act.put]) ((T7.alloc _).alloc _).own (w7.heap.size + 1) 1 (.slice (some ⟨w7.heap.size, 0, none⟩) 1 1) [y] (by simp [Act.eval, Act.put]) c77 (EL.below ((Below.refl _ _).alloc (Nat.le_refl _) _)) (by omega) (by simp; omega) ?_; intro O' oc' w8 ho8 hg8 hat8 hlt8; have r8 := Row.away ((T7.alloc _).alloc _).rO hg8 T7.hB; have cV8 : w8.cell? ⟨o, 0, none⟩ = some (.slice B m cB) := r8.cell 0; have fV8 : w8.frozen? ⟨o, 0, none⟩ = false := r8.free 0)
            | (go_simp; go_at_call 110; refine (odd p A n c _ T6.z.d).mono ?_; rintro e w7 ⟨y, rfl, d7, g7⟩; have T7 := T6.dice d7 g7; have EL : Elem (w7.alloc (.cells #[.int .i64 y] 2)) p (blk B) (.slice (some ⟨w7.heap.size, 0, none⟩) 1 1) [y] := ⟨_, 1, 1, rfl, Rd.of_own (one_own w7 y) T7.z.d.lt, ⟨Nat.le_refl _, by omega, fun e => by cases e⟩, fun _ e => absurd (T7.own.ge w7.heap.size (by rw [← e]; rfl)).2 (Nat.lt_irrefl _)⟩; have c77 : ((w7.alloc (.cells #[.int .i64 y] 2)).alloc (.cells #[.slice (some ⟨w7.heap.size, 0, none⟩) 1 1] 24)).cell? ⟨w7.heap.size + 1, 0, none⟩ = some (.slice (some ⟨w7.heap.size, 0, none⟩) 1 1) := (by simp); have cV7 : w7.cell? ⟨o, 0, none⟩ = some (.slice B m cB) := T7.rO.cell 0; have zV7 : o < w7.heap.size := T7.rO.lt; have zW7 : w.heap.size + 1 < w7.heap.size := T7.z.rR.lt))
          all_goals
            have T8 := DA.put ((T7.alloc (.cells #[.int .i64 y] 2)).alloc (.cells #[.slice (some ⟨w7.heap.size, 0, none⟩) 1 1] 24)) hg8 ho8 (hat8.elim (fun h => .inl h.symm) (fun h => .inr (by rw [h]; rfl)))
            have F := Lib.hid (T8.result (small_app (M' := 25) (small_wider hsm (Nat.le_refl _) (show 16 ≤ 65 by omega)) hml.out (by simp) (by omega)))
            have cR8 : (w8.setCell ⟨o, 0, none⟩ (.slice (some ⟨O', 0, none⟩) (m + 1) oc')).cell? ⟨w.heap.size + 1, 0, none⟩ = some (.slice none 0 0) := T8.z.rR.cell 0
            have fR8 : (w8.setCell ⟨o, 0, none⟩ (.slice (some ⟨O', 0, none⟩) (m + 1) oc')).frozen? ⟨w.heap.size + 1, 0, none⟩ = false := T8.z.rR.free 0
            clear T8 T7 T6 T5 ho8 hg8 hat8 hlt8 r8 d7 g7 cV7 EL
            go_wp2
            exact bodyPost_ret (v := .agg #[.slice (some ⟨O', 0, none⟩) (m + 1) oc']) (by simp [results, Try.results68, go_sem, cR8]) rfl F.out
end Go.Proofs.Ytkmhnkljigncmaa.drawSA
end

section
/-
  CONTRACTS: spec.Shifted, impl.Shifted and its closure. Conditions: the slices read as lists ('Seg'), at most 1048576 numbers. By an AI agent.
-/
namespace Go.Proofs.Ytkmhnkljigncmaa.shifted
open Go.RowKit Go.Proofs.Ytkmhnkljigncmaa.base Go.Proofs.Ytkmhnkljigncmaa.ints Go.Proofs.Ytkmhnkljigncmaa.sig Go.Proofs.Ytkmhnkljigncmaa.term Go.Proofs.Ytkmhnkljigncmaa.termOk Go.Proofs.Ytkmhnkljigncmaa.marks Go.Proofs.Ytkmhnkljigncmaa.app Go.Proofs.Ytkmhnkljigncmaa.sym Go.Proofs.Ytkmhnkljigncmaa.segs Go.Proofs.Ytkmhnkljigncmaa.termFacts Go.Proofs.Ytkmhnkljigncmaa.varsMath Go.Proofs.Ytkmhnkljigncmaa.fillMath Go.Proofs.Ytkmhnkljigncmaa.look
set_option maxRecDepth 100000

/-- a list and a bool: the list reads as ys -/
def AnsPairS (w : World) (ys : List Int) (b : Bool) (e : Ending) (w' : World) : Prop := ∃ A n c, e = .returned (.tuple #[.slice A n c, .bool b]) ∧ Seg w' w'.heap.size A n ys ∧ Below w.heap.size w w'
/-- a list and a bool: the list is new -/
def AnsPairO (w : World) (ys : List Int) (b : Bool) (e : Ending) (w' : World) : Prop := ∃ A n c, e = .returned (.tuple #[.slice A n c, .bool b]) ∧ Own w' w.heap.size (.slice A n c) ys ∧ Below w.heap.size w w'

theorem shifted_no {sg t : List Int} {k : Int} (h : termOkB sg t = false ∨ ¬ (0 ≤ k ∧ k ≤ 24) ∨ shiftB k t = false) : shiftedB sg t k = false := by
  unfold shiftedB
  rcases h with h | h | h
  · rw [h]; rfl
  · rw [decide_eq_false h, Bool.and_false, Bool.false_and]
  · rw [h, Bool.and_false]
theorem shifted_yes {sg t : List Int} {k : Int} (h1 : termOkB sg t = true) (h2 : 0 ≤ k ∧ k ≤ 24) (h3 : shiftB k t = true) : shiftedB sg t k = true := by unfold shiftedB; rw [h1, h3, decide_eq_true h2]; rfl
theorem pairS_no {w w' : World} {sg t : List Int} {k : Int} {A : Option Addr} {c : Nat} (h : shiftedB sg t k = false) (hb : Below w.heap.size w w') : AnsPairS w (shiftedL sg t k) (shiftedB sg t k) (.returned (.tuple #[.slice A 0 c, .bool false])) w' :=
  ⟨A, 0, c, by rw [h], by unfold shiftedL; rw [if_neg (by rw [h]; simp)]; exact Seg.empty, hb⟩

/-- the head of the loop of spec.Shifted -/
def HeadSh (w : World) (m : Nat) (t : List Int) (k : Int) (out i : Value) (wr : World) : Prop :=
  ∃ (j : Nat) (O : Option Addr) (on oc : Nat), j ≤ m ∧ i = .int .i64 j ∧ out = .slice O on oc ∧ Own wr w.heap.size (.slice O on oc) (shiftL k (t.take j)) ∧ (∀ q, q < j → -24 ≤ sh k (t.getD q 0)) ∧ Below w.heap.size w wr

set_option maxHeartbeats 4000000 in
theorem specShifted (A A' : Option Addr) (n c m c' : Nat) (sg t : List Int) (k : Int) (w : World) (h : Seg w w.heap.size A n sg) (h' : Seg w w.heap.size A' m t) (hn : n ≤ 1048576) (hm : m ≤ 1048576) (_ : -9223372036854775808 ≤ k) (_ : k ≤ 9223372036854775807) :
    Calls Try.prog 91 #[.agg #[.slice A n c], .slice A' m c', .int .i64 k] w (AnsPairS w (shiftedL sg t k) (shiftedB sg t k)) := by
  obtain ⟨W, hW⟩ : ∃ W, W = w.alloc (.cells #[.slice A n c] 26) := ⟨_, rfl⟩
  have bel : Below w.heap.size w W := by rw [hW]; exact (Below.refl _ _).alloc (Nat.le_refl _) _
  have s := (h.below bel).more bel.size
  have s' := (h'.below bel).more bel.size
  have HW := Lib.hid hW
  have HL := Lib.hid h'.1
  have L := Lib.hid (specTermOk A A' n c m c' sg t W s s' hn hm)
  clear hW h s
  cases hok : termOkB sg t with
  | false =>
    have HS := Lib.hid hok
    clear hok s' h'
    go_enter Try.func91, Try.ntmps91
    go_wp2_with fail
    rw [← HW.out]
    refine L.out.mono ?_
    rintro e w1 ⟨he, bb⟩
    rw [HS.out] at he
    subst he
    have F := Lib.hid (pairS_no (A := some ⟨w1.heap.size, 0, none⟩) (c := 0) (shifted_no (k := k) (.inl HS.out)) ((next_trans bel bb).alloc (next_trans bel bb).size (.cells #[] 2)))
    clear bb bel
    go_wp2
    go_ret2
    exact F.out
  | true =>
    have HS := Lib.hid hok
    have HV := Lib.hid (fun x hx => term_mem (x := x) hok hx)
    clear hok s'
    by_cases hk : 0 ≤ k ∧ k ≤ 24
    · go_enter Try.func91, Try.ntmps91
      go_wp2_with fail
      rw [← HW.out]
      refine L.out.mono ?_
      rintro e w1 ⟨he, bb⟩
      rw [HS.out] at he
      subst he
      replace bel := next_trans bel bb
      clear bb L
      go_wp2_with fail
      refine (inYes _ _ _ _ hk).mono ?_
      rintro e w' ⟨rfl, rfl⟩
      obtain ⟨hk0, hk1⟩ := hk
      have S0 : HeadSh w m t k (.slice (some ⟨w1.heap.size, 0, none⟩) 0 0) (.int .i64 0) (w1.alloc (.cells #[] 2)) := ⟨0, _, 0, 0, Nat.zero_le _, rfl, rfl, by simpa [shiftL] using own_empty w1 w.heap.size bel.size, fun q hq => absurd hq (Nat.not_lt_zero _), bel.alloc bel.size _⟩
      have HS0 := Lib.hid S0
      clear S0 bel
      go_wp2_with fail
      go_loopw [8, 9] (fun out i wr => HeadSh w m t k out i wr) (fun _ i _ => m - (intOf i).toNat)
      case atStart => exact HS0.out
      case round =>
        obtain ⟨j, O, on, oc, hj, rfl, rfl, ho, hlow, hb⟩ := hrel
        have HLOW := Lib.hid hlow
        clear HS0 hlow
        have hon : on ≤ m := by rw [Own.len ho, shift_len]; simp; omega
        by_cases hlt : j < m
        · obtain ⟨b, off, x, rfl, hbb, hx, ex⟩ := h'.spot hlt
          have hx1 : wr.cell? ⟨b, off + j, none⟩ = some (.int .i64 x) := (hb.cell (p := ⟨b, off + j, none⟩) hbb).trans hx
          have hmem : x ∈ t := by
            have hkl : j < t.length := by rw [HL.out]; exact hlt
            have := ex.out
            rw [← this]
            simp [List.getD, hkl]
          have hx24 := HV.out x hmem
          obtain ⟨hxa, hxb⟩ := hx24
          have hsz := hb.size
          have E := Lib.hid (shift_take (k := k) (t := t) (j := j) (by rw [HL.out]; exact hlt) ex.out)
          clear hx h'
          by_cases hneg : x < 0
          · have R : sh k x = x - k := by unfold sh; rw [if_pos hneg]
            by_cases hlo : x - k < -24
            · have F := Lib.hid (pairS_no (A := some ⟨wr.heap.size, 0, none⟩) (c := 0) (shifted_no (sg := sg) (k := k) (.inr (.inr (shiftB_no hmem (by rw [R]; exact hlo))))) (hb.alloc hb.size (.cells #[] 2)))
              clear ho hb ex hmem E R
              go_wp2
              go_ret2
              exact F.out
            · have RH := Lib.hid R
              clear R
              go_wp2_with (at_builtin; refine app1 rfl _ _ rfl w.heap.size O on oc (shiftL k (t.take j)) rfl (Own.alloc ho _) wr.heap.size 1 (x - k) rfl ((Row.new _ _ _).cell 0) (by omega) (by simp; omega) ?_; intro O' oc' w2 ho2 b2)
              have S : HeadSh w m t k (.slice O' (on + 1) oc') (.int .i64 ((j : Int) + 1)) w2 := ⟨j + 1, O', on + 1, oc', hlt, by simp, rfl, by rw [E.out, RH.out]; exact ho2, fun q hq => by
                by_cases e : q = j
                · subst e; rw [ex.out, RH.out]; omega
                · exact HLOW.out q (by omega), (hb.alloc hsz _).trans b2⟩
              replace S := Lib.hid S
              clear ho2 b2 ho hb E ex hmem
              go_wp2
              go_roundw
              case rel => exact S.out
              case measure => simp [intOf]; omega
          · have RH := Lib.hid (show sh k x = x by unfold sh; rw [if_neg hneg])
            have d1 : decide (x < 0) = false := by simp; omega
            have d2 : decide (x < -24) = false := by simp; omega
            go_wp2_with (at_builtin; refine app1 rfl _ _ rfl w.heap.size O on oc (shiftL k (t.take j)) rfl (Own.alloc ho _) wr.heap.size 1 x rfl ((Row.new _ _ _).cell 0) (by omega) (by simp; omega) ?_; intro O' oc' w2 ho2 b2)
            have S : HeadSh w m t k (.slice O' (on + 1) oc') (.int .i64 ((j : Int) + 1)) w2 := ⟨j + 1, O', on + 1, oc', hlt, by simp, rfl, by rw [E.out, RH.out]; exact ho2, fun q hq => by
              by_cases e : q = j
              · subst e; rw [ex.out, RH.out]; omega
              · exact HLOW.out q (by omega), (hb.alloc hsz _).trans b2⟩
            replace S := Lib.hid S
            clear ho2 b2 ho hb E ex hmem
            go_wp2
            go_roundw
            case rel => exact S.out
            case measure => simp [intOf]; omega
        · have hB : shiftedB sg t k = true := shifted_yes HS.out ⟨hk0, hk1⟩ (shiftB_yes (fun q hq => HLOW.out q (by rw [HL.out] at hq; omega)))
          have F : AnsPairS w (shiftedL sg t k) (shiftedB sg t k) (.returned (.tuple #[.slice O on oc, .bool true])) wr := by
            rw [List.take_of_length_le (by rw [HL.out]; omega)] at ho
            exact ⟨O, on, oc, by rw [hB], by unfold shiftedL; rw [if_pos hB]; exact Own.seg ho, hb⟩
          have HF := Lib.hid F
          clear F ho hb h' hB
          go_wp2
          go_ret2
          exact HF.out
    · go_enter Try.func91, Try.ntmps91
      go_wp2_with fail
      rw [← HW.out]
      refine L.out.mono ?_
      rintro e w1 ⟨he, bb⟩
      rw [HS.out] at he
      subst he
      replace bel := next_trans bel bb
      clear bb L
      go_wp2_with fail
      refine (inNo _ _ _ _ hk).mono ?_
      rintro e w' ⟨rfl, rfl⟩
      have F := Lib.hid (pairS_no (A := some ⟨w1.heap.size, 0, none⟩) (c := 0) (shifted_no (sg := sg) (t := t) (k := k) (.inr (.inl hk))) (bel.alloc bel.size (.cells #[] 2)))
      clear bel hk
      go_wp2
      go_ret2
      exact F.out

/-- the closure of impl.Shifted -/
theorem lookShift (B : Nat) (k : Int) (w : World) (hr : Row w B 2 #[.int .i64 k]) (h0 : 0 ≤ k) (h1 : k ≤ 24) :
    Looks 129 #[.pointer (some ⟨B, 0, none⟩)] w (fun i => vt (i + k.toNat)) 24 := by
  intro W i hb hi
  have cB : W.cell? ⟨B, 0, none⟩ = some (.int .i64 k) := (hr.next hb).cell 0
  have L := Lib.hid (varTerm ((i : Int) + k) W (by omega) (by omega))
  have E := Lib.hid (show [-1 - ((i : Int) + k)] = vt (i + k.toNat) by unfold vt; rw [show (((i + k.toNat : Nat)) : Int) = (i : Int) + k by omega])
  clear hr hb
  show Calls Try.prog 129 #[.int .i64 (i : Int), .pointer (some ⟨B, 0, none⟩)] W _
  go_enter Try.func129, Try.ntmps129
  go_wp2_with fail
  refine L.out.mono ?_
  rintro e w1 ⟨A, n, c, rfl, ho, bb⟩
  rw [E.out] at ho
  have F : AnsLook w.heap.size W (vt (i + k.toNat)) (.returned (.slice A n c)) w1 := look_new ho bb
  have HF := Lib.hid F
  clear F ho bb L cB
  go_wp2
  go_ret
  exact HF.out

theorem pairO_no {w w' : World} {sg t : List Int} {k : Int} (h : shiftedB sg t k = false) (hb : Below w.heap.size w w') : AnsPairO w (shiftedL sg t k) (shiftedB sg t k) (.returned (.tuple #[.slice none 0 0, .bool false])) w' :=
  ⟨none, 0, 0, by rw [h], by unfold shiftedL; rw [if_neg (by rw [h]; simp)]; exact Own.nil _ _, hb⟩
theorem vt_len (i : Nat) : (vt i).length = 1 := rfl

set_option maxHeartbeats 4000000 in
theorem implShifted (A A' : Option Addr) (n c m c' : Nat) (sg t : List Int) (k : Int) (w : World) (h : Seg w w.heap.size A n sg) (h' : Seg w w.heap.size A' m t) (hn : n ≤ 1048576) (hm : m ≤ 1048576) (_ : -9223372036854775808 ≤ k) (_ : k ≤ 9223372036854775807) :
    Calls Try.prog 92 #[.agg #[.slice A n c], .slice A' m c', .int .i64 k] w (AnsPairO w (shiftedL sg t k) (shiftedB sg t k)) := by
  obtain ⟨W, hW⟩ : ∃ W, W = (w.alloc (.cells #[.slice A n c] 26)).alloc (.cells #[.int .i64 k] 2) := ⟨_, rfl⟩
  have rA : Row W w.heap.size 26 #[.slice A n c] := by rw [hW]; have := (Row.new w 26 #[.slice A n c]).alloc (.cells #[.int .i64 k] 2); simpa using this
  have rK : Row W (w.heap.size + 1) 2 #[.int .i64 k] := by rw [hW]; have := Row.new (w.alloc (.cells #[.slice A n c] 26)) 2 #[.int .i64 k]; simpa using this
  have bel : Below w.heap.size w W := by rw [hW]; exact ((Below.refl _ _).alloc (Nat.le_refl _) _).alloc (by simp) _
  have s := (h.below bel).more bel.size
  have s' := (h'.below bel).more bel.size
  have HW := Lib.hid hW
  have HL := Lib.hid h'.1
  have L := Lib.hid (implTermOk A A' n c m c' sg t W s s' hn hm)
  clear hW h h'
  cases hok : termOkB sg t with
  | false =>
    have HS := Lib.hid hok
    clear hok s' s
    go_enter Try.func92, Try.ntmps92
    go_wp2_with fail
    rw [← HW.out]
    refine L.out.mono ?_
    rintro e w1 ⟨he, bb⟩
    rw [HS.out] at he
    subst he
    have F := Lib.hid (pairO_no (shifted_no (k := k) (.inl HS.out)) (next_trans bel bb))
    clear bb bel rA rK
    go_wp2
    go_ret2
    exact F.out
  | true =>
    have HS := Lib.hid hok
    have HV := Lib.hid (fun x hx => (term_mem (x := x) hok hx).1)
    have H60 : m ≤ 60 := by rw [← HL.out]; exact (term_len hok).2
    clear hok
    by_cases hk : 0 ≤ k ∧ k ≤ 24
    · obtain ⟨hk0, hk1⟩ := hk
      have hmf : ∀ (fn : Fn) (first cap : Array Value) (w : World), (Instr.makeFunc fn first cap).run Try.prog w = .ok (.func fn first cap) w := fun _ _ _ _ => rfl
      go_enter Try.func92, Try.ntmps92
      go_wp2_with fail
      rw [← HW.out]
      refine L.out.mono ?_
      rintro e w1 ⟨he, bb⟩
      rw [HS.out] at he
      subst he
      replace bel := next_trans bel bb
      replace rA := rA.next bb
      replace rK := rK.next bb
      replace s := s.next bb
      replace s' := s'.next bb
      have cK : w1.cell? ⟨w.heap.size + 1, 0, none⟩ = some (.int .i64 k) := rK.cell 0
      have L2 := Lib.hid (fill 129 #[.pointer (some ⟨w.heap.size + 1, 0, none⟩)] (enters_of Try.func129 (by kernel_rfl) rfl) A' m c' t _ w1 (lookShift (w.heap.size + 1) k w1 rK hk0 hk1) s' H60 HV.out (fun i => by simp [vt_len]))
      clear bb L s'
      go_wp2_with fail
      refine L2.out.mono ?_
      rintro e w2 ⟨O, on, oc, rfl, ho, bb⟩
      have hsh : fillL (fun i => vt (i + k.toNat)) t = shiftL k t := by rw [shift_fill, show ((k.toNat : Nat) : Int) = k by omega]
      rw [hsh] at ho
      have hon : on ≤ 60 := by rw [Own.len ho, shift_len, HL.out]; exact H60
      replace rA := rA.next bb
      have cA : w2.cell? ⟨w.heap.size, 0, none⟩ = some (.slice A n c) := rA.cell 0
      have L3 := Lib.hid (implTermOk A O n c on oc sg (shiftL k t) w2 (s.next bb) (Own.seg ho) hn (by omega))
      have EO := Lib.hid (show termOkB sg (shiftL k t) = shiftB k t by have := shift_ok (k := k.toNat) HS.out; rw [show ((k.toNat : Nat) : Int) = k by omega] at this; exact this)
      have bel2 := next_trans bel bb
      have ho2 := Own.lower ho (show w.heap.size ≤ w1.heap.size from bel.size)
      clear bb L2 hsh ho rK cK s
      cases hsb : shiftB k t with
      | false =>
        have HB := Lib.hid hsb
        clear hsb
        go_wp2_with fail
        refine L3.out.mono ?_
        rintro e w3 ⟨he, bb⟩
        rw [EO.out, HB.out] at he
        subst he
        have F := Lib.hid (pairO_no (shifted_no (sg := sg) (k := k) (.inr (.inr HB.out))) (next_trans bel2 bb))
        clear bb bel2 bel rA cA ho2 hmf L3
        go_wp2
        go_ret2
        exact F.out
      | true =>
        have HB := Lib.hid hsb
        clear hsb
        go_wp2_with fail
        refine L3.out.mono ?_
        rintro e w3 ⟨he, bb⟩
        rw [EO.out, HB.out] at he
        subst he
        have hB : shiftedB sg t k = true := shifted_yes HS.out ⟨hk0, hk1⟩ HB.out
        have F : AnsPairO w (shiftedL sg t k) (shiftedB sg t k) (.returned (.tuple #[.slice O on oc, .bool true])) w3 := ⟨O, on, oc, by rw [hB], by unfold shiftedL; rw [if_pos hB]; exact ho2.next bb, next_trans bel2 bb⟩
        have HF := Lib.hid F
        clear F bb bel2 bel rA cA ho2 hmf L3 hB
        go_wp2
        go_ret2
        exact HF.out
    · by_cases hk0 : k < 0
      · go_enter Try.func92, Try.ntmps92
        go_wp2_with fail
        rw [← HW.out]
        refine L.out.mono ?_
        rintro e w1 ⟨he, bb⟩
        rw [HS.out] at he
        subst he
        have cK : w1.cell? ⟨w.heap.size + 1, 0, none⟩ = some (.int .i64 k) := (rK.next bb).cell 0
        have F := Lib.hid (pairO_no (shifted_no (sg := sg) (t := t) (k := k) (.inr (.inl hk))) (next_trans bel bb))
        clear bb bel rA rK hk
        go_wp2
        go_ret2
        exact F.out
      · have hk1 : 24 < k := by omega
        go_enter Try.func92, Try.ntmps92
        go_wp2_with fail
        rw [← HW.out]
        refine L.out.mono ?_
        rintro e w1 ⟨he, bb⟩
        rw [HS.out] at he
        subst he
        have cK : w1.cell? ⟨w.heap.size + 1, 0, none⟩ = some (.int .i64 k) := (rK.next bb).cell 0
        have F := Lib.hid (pairO_no (shifted_no (sg := sg) (t := t) (k := k) (.inr (.inl hk))) (next_trans bel bb))
        clear bb bel rA rK hk
        go_wp2
        go_ret2
        exact F.out
end Go.Proofs.Ytkmhnkljigncmaa.shifted
end

section
/-
  CONTRACT: spec.DrawVariantIn: a drawn signature and two drawn lists. Conditions: at most 4096 bytes. By an AI agent.
-/
namespace Go.Proofs.Ytkmhnkljigncmaa.drawVar
open Go.RowKit Go.Proofs.Ytkmhnkljigncmaa.base Go.Proofs.Ytkmhnkljigncmaa.ints Go.Proofs.Ytkmhnkljigncmaa.sig Go.Proofs.Ytkmhnkljigncmaa.term Go.Proofs.Ytkmhnkljigncmaa.cursor Go.Proofs.Ytkmhnkljigncmaa.termOk Go.Proofs.Ytkmhnkljigncmaa.marks Go.Proofs.Ytkmhnkljigncmaa.app Go.Proofs.Ytkmhnkljigncmaa.sym Go.Proofs.Ytkmhnkljigncmaa.dice Go.Proofs.Ytkmhnkljigncmaa.drawSig Go.Proofs.Ytkmhnkljigncmaa.drawTerm Go.Proofs.Ytkmhnkljigncmaa.drawAny Go.Proofs.Ytkmhnkljigncmaa.drawTwo Go.Proofs.Ytkmhnkljigncmaa.drawPair Go.Proofs.Ytkmhnkljigncmaa.drawOne Go.Proofs.Ytkmhnkljigncmaa.fillMath Go.Proofs.Ytkmhnkljigncmaa.shifted

theorem Seg.other {w : World} {B N : Nat} {O : Option Addr} {on : Nat} {xs : List Int} {a : Option Addr} {l k : Nat} (h : Seg w B O on xs) (hN : w.cell? ⟨N, 0, none⟩ = some (.slice a l k)) (u : Value) : Seg (w.setCell ⟨N, 0, none⟩ u) B O on xs :=
  ⟨h.1, fun hn => by
    obtain ⟨b, off, e, hb, hc⟩ := h.2 hn
    refine ⟨b, off, e, hb, fun j hj => ?_⟩
    rw [World.cell?_setCell_other w _ _ _ (fun e => by have := hc j hj; rw [← e, hN] at this; cases this)]
    exact hc j hj⟩

/-- what is known in the course of the draw: the result's box at w.heap.size, the signature's variable at v -/
structure V3 (w : World) (p : Nat) (A : Option Addr) (n c v : Nat) (S : Option Addr) (sn sc : Nat) (sg : List Int) (O : Option Addr) (on : Nat) (xs : List Int) (wr : World) : Prop where
  d : Dice wr p A n c
  rN : Row wr w.heap.size 26 #[.slice none 0 0]
  rV : Row wr v 26 #[.slice S sn sc]
  s : Rd wr p wr.heap.size S sn sg
  o : Rd wr p wr.heap.size O on xs
  b : Below w.heap.size w wr
  hp : w.heap.size < p
  pv : p < v
section
variable {w : World} {p : Nat} {A : Option Addr} {n c v : Nat} {S : Option Addr} {sn sc : Nat} {sg : List Int} {O : Option Addr} {on : Nat} {xs : List Int} {wr w' : World}
theorem V3.dice (t : V3 w p A n c v S sn sc sg O on xs wr) (d : Dice w' p A n c) (hg : wr.grownBy w' (some p)) : V3 w p A n c v S sn sc sg O on xs w' :=
  ⟨d, Row.away t.rN hg (fun e => by injection e; have := t.hp; omega), Row.away t.rV hg (fun e => by injection e; have := t.pv; omega), (t.s.grown hg (Nat.le_refl _)).more hg.size, (t.o.grown hg (Nat.le_refl _)).more hg.size, t.b.grown hg t.b.size (fun k hk => by injection hk; have := t.hp; omega), t.hp, t.pv⟩
theorem V3.next (t : V3 w p A n c v S sn sc sg O on xs wr) (hb : Below wr.heap.size wr w') : V3 w p A n c v S sn sc sg O on xs w' :=
  ⟨t.d.next hb, t.rN.next hb, t.rV.next hb, (t.s.below hb (Nat.le_refl _)).more hb.size, (t.o.below hb (Nat.le_refl _)).more hb.size, next_trans t.b hb, t.hp, t.pv⟩
theorem V3.drew (t : V3 w p A n c v S sn sc sg O on xs wr) : V3 w p A n c v S sn sc sg O on xs wr.drew := t.next ⟨rfl, rfl, rfl, Nat.le_refl _, fun _ _ => rfl⟩
end

/-- a drawn signature and two drawn lists -/
def AnsTri (w : World) (e : Ending) (w' : World) : Prop :=
  ∃ S sn sc sg O on oc xs Q qn qc ys, e = .returned (.tuple #[.agg #[.slice S sn sc], .slice O on oc, .slice Q qn qc]) ∧ Seg w' w'.heap.size S sn sg ∧ Seg w' w'.heap.size O on xs ∧ Seg w' w'.heap.size Q qn ys ∧ sn ≤ 9 ∧ on ≤ 65 ∧ qn ≤ 65 ∧ Below w.heap.size w w'
theorem tri_of {w u : World} {p : Nat} {A : Option Addr} {n c v : Nat} {S : Option Addr} {sn sc : Nat} {sg : List Int} {O : Option Addr} {on oc : Nat} {xs : List Int} {Q : Option Addr} {qn qc : Nat} {ys : List Int} (t : V3 w p A n c v S sn sc sg O on xs u) (hq : Seg u u.heap.size Q qn ys)
    (h1 : sn ≤ 9) (h2 : on ≤ 65) (h3 : qn ≤ 65) : AnsTri w (.returned (.tuple #[.agg #[.slice S sn sc], .slice O on oc, .slice Q qn qc])) (u.setCell ⟨w.heap.size, 0, none⟩ (.slice S sn sc)) :=
  ⟨S, sn, sc, sg, O, on, oc, xs, Q, qn, qc, ys, rfl, (Seg.other t.s.seg (t.rN.cell 0) _).more (by simp), (Seg.other t.o.seg (t.rN.cell 0) _).more (by simp), (Seg.other hq (t.rN.cell 0) _).more (by simp), h1, h2, h3, t.b.setCell (Nat.le_refl _) _⟩

theorem segB_below {w w' : World} {A : Option Addr} {n : Nat} (h : SegB w w.heap.size A n) (hb : Below w.heap.size w w') : SegB w' w'.heap.size A n := fun hp => by
  obtain ⟨b, off, e, hbb, hc⟩ := h hp
  refine ⟨b, off, e, Nat.lt_of_lt_of_le hbb hb.size, fun j hj => ?_⟩
  obtain ⟨x, x0, x1, hx⟩ := hc j hj
  exact ⟨x, x0, x1, (hb.cell (p := ⟨b, off + j, none⟩) hbb).trans hx⟩

end Go.Proofs.Ytkmhnkljigncmaa.drawVar
end

section
/-
  WORD: what a contract of a test says: a bool, and that below the call's own blocks nothing has turned. Conditions: none. By an AI agent.
-/
namespace Go.Proofs.Ytkmhnkljigncmaa.varsOf
open Go.RowKit Go.Proofs.Ytkmhnkljigncmaa.base

def AnsB (w : World) (b : Bool) (e : Ending) (w' : World) : Prop := e = .returned (.bool b) ∧ Below w.heap.size w w'
theorem ansB {w w' : World} {a b : Bool} (h : a = b) (hb : Below w.heap.size w w') : AnsB w b (.returned (.bool a)) w' := ⟨by rw [h], hb⟩
end Go.Proofs.Ytkmhnkljigncmaa.varsOf
end

section
/-
  CONTRACTS: spec.SubstOk, impl.SubstOk, spec.l2Gives, impl.lookupIn and what it returns. Conditions: the slices read as lists ('Seg', 'Segs'), at most 1048576 values. By an AI agent.
-/
namespace Go.Proofs.Ytkmhnkljigncmaa.substOk
open Go.RowKit Go.Proofs.Ytkmhnkljigncmaa.base Go.Proofs.Ytkmhnkljigncmaa.ints Go.Proofs.Ytkmhnkljigncmaa.sig Go.Proofs.Ytkmhnkljigncmaa.term Go.Proofs.Ytkmhnkljigncmaa.termOk Go.Proofs.Ytkmhnkljigncmaa.marks Go.Proofs.Ytkmhnkljigncmaa.app Go.Proofs.Ytkmhnkljigncmaa.sym Go.Proofs.Ytkmhnkljigncmaa.sub Go.Proofs.Ytkmhnkljigncmaa.segs Go.Proofs.Ytkmhnkljigncmaa.segsHelp Go.Proofs.Ytkmhnkljigncmaa.termFacts Go.Proofs.Ytkmhnkljigncmaa.varsMath Go.Proofs.Ytkmhnkljigncmaa.varsOf Go.Proofs.Ytkmhnkljigncmaa.fillMath Go.Proofs.Ytkmhnkljigncmaa.look
set_option maxRecDepth 100000

/-- nothing, or a term -/
def goodB (sg t : List Int) : Bool := decide (t.length = 0) || termOkB sg t
/-- a valid substitution -/
def substOkB (sg : List Int) (ss : List (List Int)) : Bool := sigOkB sg && (decide (ss.length ≤ 24) && ss.all (goodB sg))
theorem substOk_parts {sg : List Int} {ss : List (List Int)} (h : substOkB sg ss = true) : sigOkB sg = true ∧ ss.length ≤ 24 ∧ ∀ j, j < ss.length → goodB sg (ss.getD j []) = true := by
  unfold substOkB at h
  simp only [Bool.and_eq_true, decide_eq_true_eq, List.all_eq_true] at h
  refine ⟨h.1, h.2.1, fun j hj => ?_⟩
  have := h.2.2 (ss[j]) (List.getElem_mem hj)
  simpa [List.getD, hj] using this
theorem subst_sig {sg : List Int} {ss : List (List Int)} (h : sigOkB sg = false) : substOkB sg ss = false := by unfold substOkB; rw [h, Bool.false_and]
theorem subst_long {sg : List Int} {ss : List (List Int)} (h : ¬ ss.length ≤ 24) : substOkB sg ss = false := by unfold substOkB; rw [decide_eq_false h, Bool.false_and, Bool.and_false]
theorem subst_bad {sg : List Int} {ss : List (List Int)} {k : Nat} (hk : k < ss.length) (h : goodB sg (ss.getD k []) = false) : substOkB sg ss = false := by
  have : ss.all (goodB sg) = false := by
    rw [List.all_eq_false]
    refine ⟨ss[k], List.getElem_mem hk, ?_⟩
    have e : ss.getD k [] = ss[k] := by simp [List.getD, hk]
    rw [e] at h
    simp [h]
  unfold substOkB
  rw [this, Bool.and_false, Bool.and_false]
theorem subst_good {sg : List Int} {ss : List (List Int)} (h : sigOkB sg = true) (hl : ss.length ≤ 24) (hg : ∀ j, j < ss.length → goodB sg (ss.getD j []) = true) : substOkB sg ss = true := by
  have : ss.all (goodB sg) = true := by
    rw [List.all_eq_true]
    intro x hx
    obtain ⟨j, hj, rfl⟩ := List.getElem_of_mem hx
    have := hg j hj
    simpa [List.getD, hj] using this
  unfold substOkB
  rw [this, h, decide_eq_true hl]
  rfl

/-- the first k elements are good -/
def HeadSO (w : World) (A : Option Addr) (n c : Nat) (S : Option Addr) (m c' : Nat) (sg : List Int) (ss : List (List Int)) (i : Value) (wr : World) : Prop :=
  ∃ k : Nat, k ≤ m ∧ i = .int .i64 k ∧ (∀ j, j < k → goodB sg (ss.getD j []) = true) ∧ Row wr w.heap.size 26 #[.slice A n c] ∧ Row wr (w.heap.size + 1) 31 #[.slice S m c'] ∧ Below w.heap.size w wr
theorem headSO_step {w wr : World} {A : Option Addr} {n c : Nat} {S : Option Addr} {m c' : Nat} {sg : List Int} {ss : List (List Int)} {k : Nat} (hk : k < m) (hlow : ∀ j, j < k → goodB sg (ss.getD j []) = true) (hg : goodB sg (ss.getD k []) = true)
    (r1 : Row wr w.heap.size 26 #[.slice A n c]) (r2 : Row wr (w.heap.size + 1) 31 #[.slice S m c']) (hb : Below w.heap.size w wr) : HeadSO w A n c S m c' sg ss (.int .i64 ((k : Int) + 1)) wr :=
  ⟨k + 1, hk, by simp, fun j hj => by
    by_cases e : j = k
    · subst e; exact hg
    · exact hlow j (by omega), r1, r2, hb⟩

/-- the two boxes of the parameters -/
theorem boxes2 (w : World) (A : Option Addr) (n c : Nat) (S : Option Addr) (m c' : Nat) : ∃ W, W = (w.alloc (.cells #[.slice A n c] 26)).alloc (.cells #[.slice S m c'] 31) ∧
    Row W w.heap.size 26 #[.slice A n c] ∧ Row W (w.heap.size + 1) 31 #[.slice S m c'] ∧ Below w.heap.size w W := by
  refine ⟨_, rfl, ?_, ?_, ?_⟩
  · have := (Row.new w 26 #[.slice A n c]).alloc (.cells #[.slice S m c'] 31)
    simpa using this
  · have := Row.new (w.alloc (.cells #[.slice A n c] 26)) 31 #[.slice S m c']
    simpa using this
  · exact ((Below.refl _ _).alloc (Nat.le_refl _) _).alloc (by simp) _

set_option maxHeartbeats 4000000 in
theorem specSubstOk (A S : Option Addr) (n c m c' : Nat) (sg : List Int) (ss : List (List Int)) (w : World) (h : Seg w w.heap.size A n sg) (h' : Segs w w.heap.size S m ss) (hn : n ≤ 1048576) (ht : tot ss ≤ 1048576) :
    Calls Try.prog 65 #[.agg #[.slice A n c], .agg #[.slice S m c']] w (AnsB w (substOkB sg ss)) := by
  obtain ⟨W, hW, rA, rS, bel⟩ := boxes2 w A n c S m c'
  have HW := Lib.hid hW
  have HL := Lib.hid h'.1
  have hm : m ≤ 1048576 := tot_len h'.1 ht
  have HT := Lib.hid (tot_each ht)
  have L := Lib.hid (specSigOk A n c sg W (h.next bel) hn)
  have cS : W.cell? ⟨w.heap.size + 1, 0, none⟩ = some (.slice S m c') := rS.cell 0
  clear hW ht
  cases hsig : sigOkB sg with
  | false =>
    have HS := Lib.hid hsig
    clear hsig h h'
    go_enter Try.func65, Try.ntmps65
    go_wp2_with fail
    rw [← HW.out]
    refine L.out.mono ?_
    rintro e w1 ⟨he, bb⟩
    rw [HS.out] at he
    subst he
    have F := Lib.hid (ansB (b := substOkB sg ss) (a := false) (by rw [subst_sig HS.out]) (next_trans bel bb))
    clear bb bel rA rS cS
    go_wp2
    go_ret
    exact F.out
  | true =>
    have HS := Lib.hid hsig
    clear hsig
    by_cases h24 : m ≤ 24
    · go_enter Try.func65, Try.ntmps65
      go_wp2_with fail
      rw [← HW.out]
      refine L.out.mono ?_
      rintro e w1 ⟨he, bb⟩
      rw [HS.out] at he
      subst he
      have H0 : HeadSO w A n c S m c' sg ss (.int .i64 0) w1 := ⟨0, Nat.zero_le _, rfl, fun j hj => absurd hj (Nat.not_lt_zero _), rA.next bb, rS.next bb, next_trans bel bb⟩
      have HH := Lib.hid H0
      have cS1 : w1.cell? ⟨w.heap.size + 1, 0, none⟩ = some (.slice S m c') := (rS.next bb).cell 0
      clear H0 bb bel rA rS cS L
      go_wp2_with fail
      go_loopw [5] (fun i wr => HeadSO w A n c S m c' sg ss i wr) (fun i _ => m - (intOf i).toNat)
      case atStart => exact HH.out
      case round =>
        obtain ⟨k, hk, rfl, hlow, r1, r2, hb⟩ := hrel
        have HLOW := Lib.hid hlow
        clear hlow HH cS1
        have cS : wr.cell? ⟨w.heap.size + 1, 0, none⟩ = some (.slice S m c') := r2.cell 0
        have cA : wr.cell? ⟨w.heap.size, 0, none⟩ = some (.slice A n c) := r1.cell 0
        by_cases hlt : k < m
        · obtain ⟨b, off, A', n', cc, rfl, hbB, hx, hseg, hcap⟩ := h'.spot hlt
          have hx1 : wr.cell? ⟨b, off + k, none⟩ = some (.slice A' n' cc) := (hb.cell (p := ⟨b, off + k, none⟩) hbB).trans hx
          have hn' : n' ≤ 1048576 := by rw [← hseg.1]; exact HT.out k
          have HG := Lib.hid hseg.1
          have i0 : (0 : Int) ≤ (k : Int) := by omega
          have i1 : (k : Int) < (m : Int) := by omega
          have hbr : b < wr.heap.size := Nat.lt_of_lt_of_le hbB hb.size
          have r1d := r1.drew
          have r2d := r2.drew
          have hbd := hb.drew
          by_cases hz : n' = 0
          · subst hz
            have S1 : ∀ d : Nat, HeadSO w A n c (some ⟨b, off, none⟩) m c' sg ss (.int .i64 ((k : Int) + 1)) (wr.drewN d) := fun d => headSO_step hlt HLOW.out (by unfold goodB; rw [HG.out]; rfl) (r1.drewN d) (r2.drewN d) (below_drewN hb d)
            have HS1 := Lib.hid S1
            clear S1 r1 r2 hb hx hseg hcap r1d r2d hbd h h'
            go_wp2_with fail
            go_quiet (fail)
            go_wp2
            go_roundw
            case rel => exact HS1.out _
            case measure => simp [intOf]; omega
          · have hpos : 0 < n' := by omega
            have i2 : (0 : Int) < (n' : Int) := by omega
            have LT := Lib.hid (specTermOk A A' n c n' cc sg (ss.getD k []) wr.drew ((h.next hb).drew) (((hseg.below hb).more hb.size).drew) hn hn')
            have hne1 := World.new_ne wr _ cS
            cases hok : termOkB sg (ss.getD k []) with
            | false =>
              have HO := Lib.hid hok
              clear hok hx hseg hcap h h' r1 r2 hb
              go_wp2_with fail
              go_region_held3 (fun w' => w'.cell? ⟨w.heap.size + 1, 0, none⟩ = some (.slice (some ⟨b, off, none⟩) m c') ∧ w'.cell? ⟨w.heap.size, 0, none⟩ = some (.slice A n c) ∧ w'.cell? ⟨b, off + k, none⟩ = some (.slice A' n' cc))
                (go_keep)
                (first
                  | (go_at_call 62; refine LT.out.mono ?_; rintro e w2 ⟨he, bb⟩; rw [HO.out] at he; subst he; have cA2 : w2.cell? ⟨w.heap.size, 0, none⟩ = some (.slice A n c) := (r1d.next bb).cell 0; have cS2 : w2.cell? ⟨w.heap.size + 1, 0, none⟩ = some (.slice (some ⟨b, off, none⟩) m c') := (r2d.next bb).cell 0; have cX2 : w2.cell? ⟨b, off + k, none⟩ = some (.slice A' n' cc) := (bb.cell (p := ⟨b, off + k, none⟩) hbr).trans hx1; have F := Lib.hid (ansB (b := substOkB sg ss) (a := false) (by rw [subst_bad (k := k) (by rw [HL.out]; exact hlt) (by unfold goodB; rw [HO.out, HG.out]; simp; omega)]) (next_trans hbd bb))))
              clear r1d r2d hbd LT cA2 cS2 cX2 hx1 cA cS
              go_wp2
              go_ret
              exact F.out
            | true =>
              have HO := Lib.hid hok
              clear hok hx hseg hcap h h' r1 r2 hb
              go_wp2_with fail
              go_region_held3 (fun w' => w'.cell? ⟨w.heap.size + 1, 0, none⟩ = some (.slice (some ⟨b, off, none⟩) m c') ∧ w'.cell? ⟨w.heap.size, 0, none⟩ = some (.slice A n c) ∧ w'.cell? ⟨b, off + k, none⟩ = some (.slice A' n' cc))
                (go_keep)
                (first
                  | (go_at_call 62; refine LT.out.mono ?_; rintro e w2 ⟨he, bb⟩; rw [HO.out] at he; subst he; have cA2 : w2.cell? ⟨w.heap.size, 0, none⟩ = some (.slice A n c) := (r1d.next bb).cell 0; have cS2 : w2.cell? ⟨w.heap.size + 1, 0, none⟩ = some (.slice (some ⟨b, off, none⟩) m c') := (r2d.next bb).cell 0; have cX2 : w2.cell? ⟨b, off + k, none⟩ = some (.slice A' n' cc) := (bb.cell (p := ⟨b, off + k, none⟩) hbr).trans hx1; have F := Lib.hid (headSO_step (sg := sg) (ss := ss) hlt HLOW.out (by unfold goodB; rw [HO.out, Bool.or_true]) (r1d.next bb) (r2d.next bb) (next_trans hbd bb))))
              clear r1d r2d hbd LT cA2 cS2 cX2 hx1 cA cS
              go_wp2
              go_roundw
              case rel => exact F.out
              case measure => simp [intOf]; omega
        · have F := Lib.hid (ansB (b := substOkB sg ss) (a := true) (by rw [subst_good HS.out (by rw [HL.out]; exact h24) (fun j hj => HLOW.out j (by rw [HL.out] at hj; omega))]) hb)
          clear r1 r2 hb h h'
          go_wp2
          go_ret
          exact F.out
    · have i1 : (24 : Int) < (m : Int) := by omega
      go_enter Try.func65, Try.ntmps65
      go_wp2_with fail
      rw [← HW.out]
      refine L.out.mono ?_
      rintro e w1 ⟨he, bb⟩
      rw [HS.out] at he
      subst he
      have cS1 : w1.cell? ⟨w.heap.size + 1, 0, none⟩ = some (.slice S m c') := (rS.next bb).cell 0
      have F := Lib.hid (ansB (b := substOkB sg ss) (a := false) (by rw [subst_long (by rw [HL.out]; exact h24)]) (next_trans bel bb))
      clear bb bel rA rS cS h h' L
      go_wp2
      go_ret
      exact F.out
end Go.Proofs.Ytkmhnkljigncmaa.substOk
end

section
/-
  CONTRACTS: impl.SubstOk, spec.l2Gives, impl.lookupIn and what it returns, impl.tooLong. Conditions: the slices read as lists ('Seg', 'Segs'), at most 1048576 values. By an AI agent.
-/
namespace Go.Proofs.Ytkmhnkljigncmaa.gives
open Go.RowKit Go.Proofs.Ytkmhnkljigncmaa.base Go.Proofs.Ytkmhnkljigncmaa.ints Go.Proofs.Ytkmhnkljigncmaa.sig Go.Proofs.Ytkmhnkljigncmaa.term Go.Proofs.Ytkmhnkljigncmaa.termOk Go.Proofs.Ytkmhnkljigncmaa.marks Go.Proofs.Ytkmhnkljigncmaa.app Go.Proofs.Ytkmhnkljigncmaa.sym Go.Proofs.Ytkmhnkljigncmaa.sub Go.Proofs.Ytkmhnkljigncmaa.segs Go.Proofs.Ytkmhnkljigncmaa.segsHelp Go.Proofs.Ytkmhnkljigncmaa.termFacts Go.Proofs.Ytkmhnkljigncmaa.varsMath Go.Proofs.Ytkmhnkljigncmaa.varsOf Go.Proofs.Ytkmhnkljigncmaa.fillMath Go.Proofs.Ytkmhnkljigncmaa.look Go.Proofs.Ytkmhnkljigncmaa.substOk
set_option maxRecDepth 100000

set_option maxHeartbeats 4000000 in
theorem implSubstOk (A S : Option Addr) (n c m c' : Nat) (sg : List Int) (ss : List (List Int)) (w : World) (h : Seg w w.heap.size A n sg) (h' : Segs w w.heap.size S m ss) (hn : n ≤ 1048576) (ht : tot ss ≤ 1048576) :
    Calls Try.prog 71 #[.agg #[.slice A n c], .agg #[.slice S m c']] w (AnsB w (substOkB sg ss)) := by
  obtain ⟨W, hW, rA, rS, bel⟩ := boxes2 w A n c S m c'
  have HW := Lib.hid hW
  have HL := Lib.hid h'.1
  have hm : m ≤ 1048576 := tot_len h'.1 ht
  have HT := Lib.hid (tot_each ht)
  have L := Lib.hid (implSigOk A n c sg W (h.next bel) hn)
  have cS : W.cell? ⟨w.heap.size + 1, 0, none⟩ = some (.slice S m c') := rS.cell 0
  clear hW ht
  cases hsig : sigOkB sg with
  | false =>
    have HS := Lib.hid hsig
    clear hsig h h'
    go_enter Try.func71, Try.ntmps71
    go_wp2_with fail
    rw [← HW.out]
    refine L.out.mono ?_
    rintro e w1 ⟨he, bb⟩
    rw [HS.out] at he
    subst he
    have F := Lib.hid (ansB (b := substOkB sg ss) (a := false) (by rw [subst_sig HS.out]) (next_trans bel bb))
    clear bb bel rA rS cS
    go_wp2
    go_ret
    exact F.out
  | true =>
    have HS := Lib.hid hsig
    clear hsig
    by_cases h24 : m ≤ 24
    · go_enter Try.func71, Try.ntmps71
      go_wp2_with fail
      rw [← HW.out]
      refine L.out.mono ?_
      rintro e w1 ⟨he, bb⟩
      rw [HS.out] at he
      subst he
      have H0 : HeadSO w A n c S m c' sg ss (.int .i64 0) w1 := ⟨0, Nat.zero_le _, rfl, fun j hj => absurd hj (Nat.not_lt_zero _), rA.next bb, rS.next bb, next_trans bel bb⟩
      have HH := Lib.hid H0
      have cS1 : w1.cell? ⟨w.heap.size + 1, 0, none⟩ = some (.slice S m c') := (rS.next bb).cell 0
      clear H0 bb bel rA rS cS L
      go_wp2_with fail
      go_loopw [19] (fun i wr => HeadSO w A n c S m c' sg ss i wr) (fun i _ => m - (intOf i).toNat)
      case atStart => exact HH.out
      case round =>
        obtain ⟨k, hk, rfl, hlow, r1, r2, hb⟩ := hrel
        have HLOW := Lib.hid hlow
        clear hlow HH cS1
        have cA : wr.cell? ⟨w.heap.size, 0, none⟩ = some (.slice A n c) := r1.cell 0
        by_cases hlt : k < m
        · obtain ⟨b, off, A', n', cc, rfl, hbB, hx, hseg, hcap⟩ := h'.spot hlt
          have hx1 : wr.cell? ⟨b, off + k, none⟩ = some (.slice A' n' cc) := (hb.cell (p := ⟨b, off + k, none⟩) hbB).trans hx
          have hn' : n' ≤ 1048576 := by rw [← hseg.1]; exact HT.out k
          have HG := Lib.hid hseg.1
          by_cases hz : n' = 0
          · subst hz
            have S1 : HeadSO w A n c (some ⟨b, off, none⟩) m c' sg ss (.int .i64 ((k : Int) + 1)) wr := headSO_step hlt HLOW.out (by unfold goodB; rw [HG.out]; rfl) r1 r2 hb
            have HS1 := Lib.hid S1
            clear S1 r1 r2 hb hx hseg hcap h h'
            go_wp2
            go_roundw
            case rel => exact HS1.out
            case measure => simp [intOf]; omega
          · have hpos : 0 < n' := by omega
            have LT := Lib.hid (implTermOk A A' n c n' cc sg (ss.getD k []) wr (h.next hb) ((hseg.below hb).more hb.size) hn hn')
            cases hok : termOkB sg (ss.getD k []) with
            | false =>
              have HO := Lib.hid hok
              clear hok hx hseg hcap h h'
              go_wp2_with fail
              refine LT.out.mono ?_
              rintro e w2 ⟨he, bb⟩
              rw [HO.out] at he
              subst he
              have F := Lib.hid (ansB (b := substOkB sg ss) (a := false) (by rw [subst_bad (k := k) (by rw [HL.out]; exact hlt) (by unfold goodB; rw [HO.out, HG.out]; simp; omega)]) (next_trans hb bb))
              clear r1 r2 hb LT hx1 cA bb
              go_wp2
              go_ret
              exact F.out
            | true =>
              have HO := Lib.hid hok
              clear hok hx hseg hcap h h'
              go_wp2_with fail
              refine LT.out.mono ?_
              rintro e w2 ⟨he, bb⟩
              rw [HO.out] at he
              subst he
              have F := Lib.hid (headSO_step (sg := sg) (ss := ss) hlt HLOW.out (by unfold goodB; rw [HO.out, Bool.or_true]) (r1.next bb) (r2.next bb) (next_trans hb bb))
              clear r1 r2 hb LT hx1 cA bb
              go_wp2
              go_roundw
              case rel => exact F.out
              case measure => simp [intOf]; omega
        · have F := Lib.hid (ansB (b := substOkB sg ss) (a := true) (by rw [subst_good HS.out (by rw [HL.out]; exact h24) (fun j hj => HLOW.out j (by rw [HL.out] at hj; omega))]) hb)
          clear r1 r2 hb h h'
          go_wp2
          go_ret
          exact F.out
    · have i1 : (24 : Int) < (m : Int) := by omega
      go_enter Try.func71, Try.ntmps71
      go_wp2_with fail
      rw [← HW.out]
      refine L.out.mono ?_
      rintro e w1 ⟨he, bb⟩
      rw [HS.out] at he
      subst he
      have cS1 : w1.cell? ⟨w.heap.size + 1, 0, none⟩ = some (.slice S m c') := (rS.next bb).cell 0
      have F := Lib.hid (ansB (b := substOkB sg ss) (a := false) (by rw [subst_long (by rw [HL.out]; exact h24)]) (next_trans bel bb))
      clear bb bel rA rS cS h h' L
      go_wp2
      go_ret
      exact F.out

/-! ### what a substitution gives for a variable -/
def givesL (ss : List (List Int)) (i : Nat) : List Int := if (ss.getD i []).length = 0 then vt i else ss.getD i []
theorem gives_var {ss : List (List Int)} {i : Nat} (h : (ss.getD i []).length = 0) : givesL ss i = vt i := by unfold givesL; rw [if_pos h]
theorem gives_term {ss : List (List Int)} {i : Nat} (h : ¬ (ss.getD i []).length = 0) : givesL ss i = ss.getD i [] := by unfold givesL; rw [if_neg h]
theorem gives_out {ss : List (List Int)} {i : Nat} (h : ¬ i < ss.length) : givesL ss i = vt i := gives_var (by simp [List.getD, h])
theorem gives_ok {sg : List Int} {ss : List (List Int)} (h : substOkB sg ss = true) {i : Nat} (hi : i < 24) : termOkB sg (givesL ss i) = true := by
  obtain ⟨h1, h2, h3⟩ := substOk_parts h
  by_cases hl : i < ss.length
  · have h4 := h3 i hl
    by_cases hz : (ss.getD i []).length = 0
    · rw [gives_var hz]; exact var_term h1 hi
    · rw [gives_term hz]
      unfold goodB at h4
      rw [decide_eq_false hz, Bool.false_or] at h4
      exact h4
  · rw [gives_out hl]; exact var_term h1 hi
theorem gives_len {sg : List Int} {ss : List (List Int)} (h : substOkB sg ss = true) (i : Nat) : (givesL ss i).length ≤ 60 := by
  by_cases hi : i < ss.length
  · have h2 := (substOk_parts h).2.1
    exact (term_len (gives_ok h (show i < 24 by omega))).2
  · rw [gives_out hi]; simp [vt]
theorem gives_pos (ss : List (List Int)) (i : Nat) : 1 ≤ (givesL ss i).length := by
  unfold givesL
  split
  · simp [vt]
  · omega

set_option maxHeartbeats 2000000 in
theorem l2Gives (S : Option Addr) (m c : Nat) (ss : List (List Int)) (i : Nat) (w : World) (h : Segs w w.heap.size S m ss) (ht : tot ss ≤ 1048576) (hi : i ≤ 1048576) :
    Calls Try.prog 66 #[.agg #[.slice S m c], .int .i64 (i : Int)] w (AnsList w (givesL ss i)) := by
  have hm : m ≤ 1048576 := tot_len h.1 ht
  have HT := Lib.hid (tot_each ht)
  have HL := Lib.hid h.1
  clear ht
  have bel : Below w.heap.size w (w.alloc (.cells #[.slice S m c] 31)) := (Below.refl _ _).alloc (Nat.le_refl _) _
  have i0 : (0 : Int) ≤ (i : Int) := by omega
  have var : ∀ (hv : givesL ss i = vt i), AnsList w (givesL ss i) (.returned (.slice (some ⟨w.heap.size + 1, 0, none⟩) 1 1)) ((w.alloc (.cells #[.slice S m c] 31)).alloc (.cells #[.int .i64 (-1 - (i : Int))] 2)) := fun hv => by
    refine ⟨_, 1, 1, rfl, ?_, bel.alloc (by simp) _⟩
    rw [hv]
    have := Own.of_row (base := w.heap.size) (n := 1) (c := 1) (xs := vt i) (Row.new (w.alloc (.cells #[.slice S m c] 31)) 2 #[.int .i64 (-1 - (i : Int))]) rfl rfl (Nat.le_refl _) (by omega) (by simp) (fun j hj => by
      have e : j = 0 := by omega
      subst e
      rfl)
    simpa using this
  have VAR := Lib.hid var
  clear var
  by_cases hlt : i < m
  · obtain ⟨b, off, A', n', cc, rfl, hbB, hx, hseg, hcap⟩ := h.spot hlt
    have hx1 : (w.alloc (.cells #[.slice (some ⟨b, off, none⟩) m c] 31)).cell? ⟨b, off + i, none⟩ = some (.slice A' n' cc) := (bel.cell (p := ⟨b, off + i, none⟩) hbB).trans hx
    by_cases hz : n' = 0
    · subst hz
      have F := Lib.hid (VAR.out (gives_var hseg.1))
      clear h hseg hcap hx bel VAR
      go_enter Try.func66, Try.ntmps66
      go_wp2
      go_ret
      exact F.out
    · have hpos : 0 < n' := by omega
      have E := Lib.hid (gives_term (ss := ss) (i := i) (by rw [hseg.1]; exact hz))
      have L := Lib.hid (copyInts A' n' cc _ _ ((hseg.below bel).more bel.size) hcap.2.2 (by rw [← hseg.1]; exact HT.out i))
      clear h hseg hcap hx VAR
      go_enter Try.func66, Try.ntmps66
      go_wp2_with fail
      refine L.out.mono ?_
      rintro e w1 ⟨D, dn, dc, rfl, o1, b1⟩
      have F : AnsList w (givesL ss i) (.returned (.slice D dn dc)) w1 := ⟨D, dn, dc, rfl, by rw [E.out]; exact Own.lower o1 bel.size, next_trans bel b1⟩
      have HF := Lib.hid F
      clear F o1 b1 bel L
      go_wp2
      go_ret
      exact HF.out
  · have hge : ¬ (i : Int) < (m : Int) := by omega
    have F := Lib.hid (VAR.out (gives_out (by rw [HL.out]; exact hlt)))
    clear h bel VAR
    go_enter Try.func66, Try.ntmps66
    go_wp2
    go_ret
    exact F.out

/-! ### impl's look-up in a substitution -/
theorem lookupIn (S : Option Addr) (m c : Nat) (w : World) :
    Calls Try.prog 72 #[.agg #[.slice S m c]] w fun e w' => e = .returned (.func (.func 112) #[] #[.pointer (some ⟨w.heap.size, 0, none⟩)]) ∧ w' = w.alloc (.cells #[.slice S m c] 31) := by
  have hmf : ∀ (fn : Fn) (first cap : Array Value) (w : World), (Instr.makeFunc fn first cap).run Try.prog w = .ok (.func fn first cap) w := fun _ _ _ _ => rfl
  go_enter Try.func72, Try.ntmps72
  go_wp2
  go_ret
  exact ⟨rfl, rfl⟩

set_option maxHeartbeats 2000000 in
theorem lookSubstC (B : Nat) (S : Option Addr) (m c : Nat) (ss : List (List Int)) (w : World) (hB : B < w.heap.size) (hc : w.cell? ⟨B, 0, none⟩ = some (.slice S m c)) (h : Segs w w.heap.size S m ss) (hm : m ≤ 1048576) :
    Looks 112 #[.pointer (some ⟨B, 0, none⟩)] w (givesL ss) 24 := by
  intro W i hb hi
  have cB : W.cell? ⟨B, 0, none⟩ = some (.slice S m c) := (hb.cell (p := ⟨B, 0, none⟩) hB).trans hc
  have h1 := h.below hb
  have HL := Lib.hid h.1
  have i0 : (0 : Int) ≤ (i : Int) := by omega
  have LV := Lib.hid (varTerm (i : Int) W (by omega) (by omega))
  have hws := hb.size
  clear hB hc h hb
  show Calls Try.prog 112 #[.int .i64 (i : Int), .pointer (some ⟨B, 0, none⟩)] W _
  by_cases hlt : i < m
  · obtain ⟨b, off, A', n', cc, rfl, hbB, hx, hseg0, hcap⟩ := h1.spot hlt
    have hseg := hseg0.more hws
    by_cases hz : n' = 0
    · subst hz
      have E := Lib.hid (gives_var (ss := ss) (i := i) hseg.1)
      clear h1 hseg hseg0 hcap
      go_enter Try.func112, Try.ntmps112
      go_wp2_with fail
      refine LV.out.mono ?_
      rintro e w1 ⟨D, dn, dc, rfl, o1, b1⟩
      have F : AnsLook w.heap.size W (givesL ss i) (.returned (.slice D dn dc)) w1 := by rw [E.out]; exact look_new o1 b1
      have HF := Lib.hid F
      clear F o1 b1 LV
      go_wp2
      go_ret
      exact HF.out
    · have hpos : 0 < n' := by omega
      have F : AnsLook w.heap.size W (givesL ss i) (.returned (.slice A' n' cc)) W := ⟨A', n', cc, rfl, by rw [gives_term (by rw [hseg.1]; exact hz)]; exact hseg, hcap, fun k hk => .inl (by obtain ⟨b2, off2, e2, hb2, _⟩ := hseg0.2 hpos; rw [e2] at hk; have : b2 = k := Option.some.inj hk; omega), Below.refl _ _⟩
      have HF := Lib.hid F
      clear F h1 hseg hseg0 hcap LV
      go_enter Try.func112, Try.ntmps112
      go_wp2
      go_ret
      exact HF.out
  · have hge : ¬ (i : Int) < (m : Int) := by omega
    have E := Lib.hid (gives_out (ss := ss) (i := i) (by rw [HL.out]; exact hlt))
    clear h1
    go_enter Try.func112, Try.ntmps112
    go_wp2_with fail
    refine LV.out.mono ?_
    rintro e w1 ⟨D, dn, dc, rfl, o1, b1⟩
    have F : AnsLook w.heap.size W (givesL ss i) (.returned (.slice D dn dc)) w1 := by rw [E.out]; exact look_new o1 b1
    have HF := Lib.hid F
    clear F o1 b1 LV
    go_wp2
    go_ret
    exact HF.out

theorem lookSubst (B : Nat) (S : Option Addr) (m c : Nat) (ss : List (List Int)) (w : World) (hr : Row w B 31 #[.slice S m c]) (h : Segs w w.heap.size S m ss) (hm : m ≤ 1048576) :
    Looks 112 #[.pointer (some ⟨B, 0, none⟩)] w (givesL ss) 24 := lookSubstC B S m c ss w hr.lt (hr.cell 0) h hm

theorem tooLong (A : Option Addr) (n c : Nat) (w : World) (hn : n ≤ 9223372036854775807) :
    Calls Try.prog 74 #[.slice A n c] w fun e w' => w = w' ∧ e = .returned (.bool (decide (60 < n))) := by
  have E : decide ((60 : Int) < (n : Int)) = decide (60 < n) := decide_eq_decide.2 (by omega)
  rw [← E]
  have HE := Lib.hid E
  clear E
  generalize hz : decide ((60 : Int) < (n : Int)) = z
  have HZ := Lib.hid hz
  clear hz
  go_enter Try.func74, Try.ntmps74
  go_wp2
  go_ret
  exact ⟨rfl, by rw [← HZ.out]; rfl⟩
end Go.Proofs.Ytkmhnkljigncmaa.gives
end

section
/-
  CONTRACTS: spec.l2Plain, spec.PlainOf, impl.PlainOf. Conditions: the slices read as lists ('Seg', 'Segs'), at most 1048576 values. By an AI agent.
-/
namespace Go.Proofs.Ytkmhnkljigncmaa.plainOf
open Go.RowKit Go.Proofs.Ytkmhnkljigncmaa.base Go.Proofs.Ytkmhnkljigncmaa.ints Go.Proofs.Ytkmhnkljigncmaa.sig Go.Proofs.Ytkmhnkljigncmaa.cursor Go.Proofs.Ytkmhnkljigncmaa.marks Go.Proofs.Ytkmhnkljigncmaa.app Go.Proofs.Ytkmhnkljigncmaa.appAt Go.Proofs.Ytkmhnkljigncmaa.sym Go.Proofs.Ytkmhnkljigncmaa.sub Go.Proofs.Ytkmhnkljigncmaa.segs Go.Proofs.Ytkmhnkljigncmaa.segsHelp Go.Proofs.Ytkmhnkljigncmaa.kinds Go.Proofs.Ytkmhnkljigncmaa.varsOf Go.Proofs.Ytkmhnkljigncmaa.fillMath Go.Proofs.Ytkmhnkljigncmaa.look Go.Proofs.Ytkmhnkljigncmaa.substOk Go.Proofs.Ytkmhnkljigncmaa.gives Go.Proofs.Ytkmhnkljigncmaa.plainMath Go.Proofs.Ytkmhnkljigncmaa.plain
set_option maxRecDepth 100000

theorem own_one {w : World} {base : Nat} {D : Option Addr} {c : Nat} {x : Int} (h : Own w base (.slice D 1 c) [x]) : ∃ g, D = some ⟨g, 0, none⟩ ∧ w.cell? ⟨g, 0, none⟩ = some (.int .i64 x) := by
  rcases own_form (n := 1) (vs := [x].map (Value.int .i64)) h with ⟨_, h1, _⟩ | ⟨g, cur, e, _, hr, _, _, _, _, hc⟩
  · omega
  · refine ⟨g, e, ?_⟩
    rw [hr.cell 0, hc 0 (by omega)]
    rfl
theorem Owns.shrink {w : World} {lo hi m n c : Nat} {A : Option Addr} {xss : List (List Int)} (h : Owns w lo hi A m c xss) (hn : n ≤ m) : Owns w lo hi A n c (xss.take n) := by
  obtain ⟨h1, ⟨vs, hr, hin, hap⟩, h3⟩ := h
  rcases own_form hr with ⟨rfl, h0, rfl, rfl⟩ | ⟨g, cur, rfl, hlo, hrow, hmc, hsz, hmax, hlen, hc⟩
  · obtain rfl : n = 0 := by omega
    simpa using Owns.nil w lo hi
  · have e1 : ∀ j, j < n → (cur.toList.take n).getD j undef = vs.getD j undef := fun j hj => by
      have := hc j (by omega)
      simp [List.getD, List.getElem?_take, hj, this]
    have e2 : ∀ j, j < n → (xss.take n).getD j [] = xss.getD j [] := fun j hj => by simp [List.getD, List.getElem?_take, hj]
    refine ⟨by rw [List.length_take, h1]; omega, ⟨_, rowsOf hrow hsz (by omega) hmax hlo, fun j hj => ?_, fun i j k hij hj a b => ?_⟩, h3⟩
    · rw [e1 j hj, e2 j hj]
      exact hin j (by omega)
    · rw [e1 i (by omega)] at a
      rw [e1 j hj] at b
      exact hap i j k hij (by omega) a b

/-- the head of l2Plain's first loop -/
def HeadL1 (w : World) (S : Option Addr) (m c : Nat) (ss : List (List Int)) (i : Value) (wr : World) : Prop :=
  ∃ (k : Nat) (A : Option Addr) (cA : Nat), k ≤ m ∧ i = .int .i64 k ∧ Owns wr (w.heap.size + 3) wr.heap.size A k cA (rowsL (givesL ss) k) ∧ Row wr w.heap.size 31 #[.slice S m c] ∧ Row wr (w.heap.size + 1) 31 #[.slice none 0 0] ∧
    Row wr (w.heap.size + 2) 31 #[.slice A k cA] ∧ Below w.heap.size w wr
theorem headL1_step {w wr w1 w5 w6 : World} {S A A' : Option Addr} {m c k cA c' : Nat} {ss : List (List Int)} (hk : k < m) (ho : Owns w6 (w.heap.size + 3) w6.heap.size A' (k + 1) c' (rowsL (givesL ss) (k + 1)))
    (r0 : Row wr w.heap.size 31 #[.slice S m c]) (r1 : Row wr (w.heap.size + 1) 31 #[.slice none 0 0]) (r2 : Row wr (w.heap.size + 2) 31 #[.slice A k cA]) (hb : Below w.heap.size w wr)
    (b1 : Below wr.heap.size wr w1) (b5 : Below w1.heap.size w1 w5) (hg : w5.grownBy w6 (blk A)) (hA : ∀ z, blk A = some z → w.heap.size + 3 ≤ z) :
    HeadL1 w S m c ss (.int .i64 ((k : Int) + 1)) (w6.setCell ⟨w.heap.size + 2, 0, none⟩ (.slice A' (k + 1) c')) := by
  have bb := next_trans b1 b5
  have q0 := Row.away (r0.next bb) hg (fun e => by have := hA _ e; omega)
  have q1 := Row.away (r1.next bb) hg (fun e => by have := hA _ e; omega)
  have q2 := Row.away (r2.next bb) hg (fun e => by have := hA _ e; omega)
  have hbb : Below w.heap.size w w6 := (hb.trans (bb.mono hb.size)).grown hg (by have := hb.size; have := bb.size; omega) (fun z hz => by have := hA z hz; omega)
  refine ⟨k + 1, A', c', hk, by simp, ?_, q0.far (by simp) _, q1.far (by simp) _, ?_, hbb.setCell (by simp) _⟩
  · have := owns_put ho q2 (by omega) 0 (.slice A' (k + 1) c')
    simpa using this
  · have := q2.put 0 (.slice A' (k + 1) c')
    simpa using this

/-- the head of the loop that shortens -/
def HeadL2 (w : World) (L : Nat → List Int) (m : Nat) (A : Option Addr) (cA : Nat) (p : Value) (wr : World) : Prop :=
  ∃ n : Nat, n ≤ m ∧ p = .pointer (some ⟨w.heap.size + 2, 0, none⟩) ∧ strip ((rowsL L m).take n) = plainL L m ∧ Owns wr (w.heap.size + 3) wr.heap.size A m cA (rowsL L m) ∧ Row wr (w.heap.size + 1) 31 #[.slice none 0 0] ∧
    Row wr (w.heap.size + 2) 31 #[.slice A n cA] ∧ Below w.heap.size w wr
def lenAt (w : World) (p : Addr) : Nat := match w.cell? p with
  | some (.slice _ n _) => n
  | _ => 0
theorem headL2_end {w wr : World} {L : Nat → List Int} {m n cA : Nat} {A : Option Addr} (hn : n ≤ m) (hs : strip ((rowsL L m).take n) = plainL L m) (ho : Owns wr (w.heap.size + 3) wr.heap.size A m cA (rowsL L m))
    (r1 : Row wr (w.heap.size + 1) 31 #[.slice none 0 0]) (hb : Below w.heap.size w wr) (hend : n = 0 ∨ (rowsL L m).getD (n - 1) [] ≠ []) :
    AnsSubst w (plainL L m) (.returned (.agg #[.slice A n cA])) (wr.setCell ⟨w.heap.size + 1, 0, none⟩ (.slice A n cA)) := by
  have e : (rowsL L m).take n = plainL L m := by
    rw [← hs]
    rcases hend with rfl | h
    · simp [strip]
    · by_cases h0 : n = 0
      · subst h0; simp [strip]
      · have := strip_last (l := rowsL L m) (q := n - 1) (by rw [rows_len]; omega) h
        rw [show n - 1 + 1 = n by omega] at this
        exact this.symm
  have h1 := Owns.shrink (owns_put ho r1 (by omega) 0 (.slice A n cA)) hn
  rw [e] at h1
  exact ⟨A, n, cA, rfl, h1.wider (by omega) (by simp), hb.setCell (by simp) _⟩

set_option maxHeartbeats 8000000 in
theorem l2Plain (S : Option Addr) (m c : Nat) (ss : List (List Int)) (w : World) (h : Segs w w.heap.size S m ss) (ht : tot ss ≤ 1048576) :
    Calls Try.prog 64 #[.agg #[.slice S m c]] w (AnsSubst w (plainL (givesL ss) m)) := by
  have HT := Lib.hid ht
  have hm : m ≤ 1048576 := tot_len h.1 ht
  have HE := Lib.hid (tot_each ht)
  clear ht
  go_enter Try.func64, Try.ntmps64
  go_wp2_with fail
  go_loopw [4] (fun i wr => HeadL1 w S m c ss i wr) (fun i _ => m - (intOf i).toNat)
  case atStart =>
    have b0 : Below w.heap.size w (((w.alloc (.cells #[.slice S m c] 31)).alloc (.cells #[.slice none 0 0] 31)).alloc (.cells #[.slice none 0 0] 31)) := (((Below.refl _ _).alloc (Nat.le_refl _) _).alloc (by simp) _).alloc (by simp; omega) _
    have q1 := Row.new (w.alloc (.cells #[.slice S m c] 31)) 31 #[.slice none 0 0]
    have q2 := Row.new ((w.alloc (.cells #[.slice S m c] 31)).alloc (.cells #[.slice none 0 0] 31)) 31 #[.slice none 0 0]
    refine ⟨0, none, 0, Nat.zero_le _, rfl, by simpa [rowsL] using Owns.nil _ _ _, ((Row.new w 31 #[.slice S m c]).alloc _).alloc _, ?_, ?_, b0⟩
    · have := q1.alloc (.cells #[.slice none 0 0] 31); simpa using this
    · simpa using q2
  case round =>
    obtain ⟨k, A, cA, hk, rfl, ho, r0, r1, r2, hb⟩ := hrel
    have c0 : wr.cell? ⟨w.heap.size, 0, none⟩ = some (.slice S m c) := r0.cell 0
    have cO : wr.cell? ⟨w.heap.size + 2, 0, none⟩ = some (.slice A k cA) := r2.cell 0
    have i0 : (0 : Int) ≤ (k : Int) := by omega
    by_cases hlt : k < m
    · have i1 : (k : Int) < (m : Int) := by omega
      have LG := Lib.hid (l2Gives S m c ss k wr ((h.below hb).more hb.size) HT.out (by omega))
      have HA : Hid (∀ z, blk A = some z → w.heap.size + 3 ≤ z) := Lib.hid (fun z hz => by
        obtain ⟨vs, hown, _⟩ := ho.row
        exact (World.ownsRow.lt hown z (by rw [blk_own]; exact hz)).1)
      have hw1 : IntKind.i64.wrap (-1 - (k : Int)) = -1 - (k : Int) := by rw [IntKind.wrap_i64]; omega
      have hrl := r2.lt
      obtain ⟨ys, hys⟩ : ∃ ys, givesL ss k = ys := ⟨_, rfl⟩
      rw [hys] at LG
      have hlen : ys.length ≤ 1048576 := by
        rw [← hys]
        unfold givesL
        split
        · simp [vt]
        · exact HE.out k
      have RS := Lib.hid (rows_succ (givesL ss) k)
      by_cases h1 : ys.length = 1
      · obtain ⟨x, rfl⟩ : ∃ x, ys = [x] := by
          match ys, h1 with
          | [x], _ => exact ⟨x, rfl⟩
        by_cases hx : x = -1 - (k : Int)
        · have RB := Lib.hid (show bare (givesL ss) k = [] by unfold bare; rw [if_pos (by rw [hys, hx]; rfl)])
          have DX : (x == -1 - (k : Int)) = true := by simp [hx]
          clear hx hys
          go_wp2_with (first
            | (go_at_call 66; go_must (refine LG.out.mono ?_; rintro e w1 ⟨D, dn, dc, rfl, od, bb⟩; obtain rfl : dn = 1 := Own.len od; obtain ⟨gD, rfl, cD⟩ := own_one od; have cO1 : w1.cell? ⟨w.heap.size + 2, 0, none⟩ = some (.slice A k cA) := (r2.next bb).cell 0; have e5 : ((w1.alloc (.cells #[] 2)).alloc (.cells #[.slice (some ⟨w1.heap.size, 0, none⟩) 0 0] 24)).cell? ⟨w1.heap.size + 1, 0, none⟩ = some (.slice (some ⟨w1.heap.size, 0, none⟩) 0 0) := (by simp); have c15 : (w1.alloc (.cells #[] 2)).cell? ⟨w.heap.size + 2, 0, none⟩ = some (.slice A k cA) := ((r2.next bb).alloc (.cells #[] 2)).cell 0; have B5 : Below w1.heap.size w1 ((w1.alloc (.cells #[] 2)).alloc (.cells #[.slice (some ⟨w1.heap.size, 0, none⟩) 0 0] 24)) := ((Below.refl _ _).alloc (Nat.le_refl _) _).alloc (by simp) _; have hz5 := B5.size; have hz1 := bb.size; have ho5 := (ho.next bb).next B5; have i5 : Inn ((w1.alloc (.cells #[] 2)).alloc (.cells #[.slice (some ⟨w1.heap.size, 0, none⟩) 0 0] 24)) wr.heap.size ((w1.alloc (.cells #[] 2)).alloc (.cells #[.slice (some ⟨w1.heap.size, 0, none⟩) 0 0] 24)).heap.size (.slice (some ⟨w1.heap.size, 0, none⟩) 0 0) [] := Inn.wider ((inn_own (own_empty w1 wr.heap.size bb.size)).next ((Below.refl _ _).alloc (Nat.le_refl _) _)) (Nat.le_refl _) (by simp); have r25 := (r2.next bb).next B5; have c25 : ((w1.alloc (.cells #[] 2)).alloc (.cells #[.slice (some ⟨w1.heap.size, 0, none⟩) 0 0] 24)).cell? ⟨w.heap.size + 2, 0, none⟩ = some (.slice A k cA) := r25.cell 0))
            | (at_builtin; go_must (refine appS1 rfl _ _ rfl (w.heap.size + 3) wr.heap.size A k cA (rowsL (givesL ss) k) rfl ho5 _ 1 (.slice (some ⟨w1.heap.size, 0, none⟩) 0 0) [] rfl e5 i5 (by omega) (by omega) (by omega) ?_; intro A' c' w6 ho6 hg6 hat6 b6; have q2 := Row.away r25 hg6 (fun e => by have := HA.out _ e; omega); have c26 : w6.cell? ⟨w.heap.size + 2, 0, none⟩ = some (.slice A k cA) := q2.cell 0; have f26 : w6.frozen? ⟨w.heap.size + 2, 0, none⟩ = false := q2.free 0)))
          have S := Lib.hid (headL1_step (ss := ss) hlt (by rw [RS.out, RB.out]; exact ho6) r0 r1 r2 hb bb B5 hg6 HA.out)
          clear ho6 hg6 hat6 b6 ho5 i5 r25 c25 c15 q2 od bb B5 r0 r1 r2 hb ho RS RB LG cO1
          go_wp2
          go_roundw
          case rel => exact S.out
          case measure => simp [intOf]; omega
        · have RB := Lib.hid (show bare (givesL ss) k = [x] by unfold bare; rw [if_neg (by rw [hys]; unfold vt; intro e; injection e with e; exact hx e), hys])
          have DX : (x == -1 - (k : Int)) = false := by simp [hx]
          clear hx hys
          go_wp2_with (first
            | (go_at_call 66; refine LG.out.mono ?_; rintro e w1 ⟨D, dn, dc, rfl, od, bb⟩; obtain rfl : dn = 1 := Own.len od; obtain ⟨gD, rfl, cD⟩ := own_one od; have cO1 : w1.cell? ⟨w.heap.size + 2, 0, none⟩ = some (.slice A k cA) := (r2.next bb).cell 0; have B5 : Below w1.heap.size w1 (w1.alloc (.cells #[.slice (some ⟨gD, 0, none⟩) 1 dc] 24)) := (Below.refl _ _).alloc (Nat.le_refl _) _; have hz5 := B5.size; have hz1 := bb.size; have ho5 := (ho.next bb).next B5; have i5 : Inn (w1.alloc (.cells #[.slice (some ⟨gD, 0, none⟩) 1 dc] 24)) wr.heap.size (w1.alloc (.cells #[.slice (some ⟨gD, 0, none⟩) 1 dc] 24)).heap.size (.slice (some ⟨gD, 0, none⟩) 1 dc) [x] := Inn.wider ((inn_own od).next ((Below.refl _ _).alloc (Nat.le_refl _) _)) (Nat.le_refl _) (by simp); have r25 := (r2.next bb).next B5; have c25 : (w1.alloc (.cells #[.slice (some ⟨gD, 0, none⟩) 1 dc] 24)).cell? ⟨w.heap.size + 2, 0, none⟩ = some (.slice A k cA) := r25.cell 0)
            | (at_builtin; refine appS1 rfl _ _ rfl (w.heap.size + 3) wr.heap.size A k cA (rowsL (givesL ss) k) rfl ho5 _ 1 (.slice (some ⟨gD, 0, none⟩) 1 dc) [x] rfl ((Row.new _ _ _).cell 0) i5 (by omega) (by omega) (by omega) ?_; intro A' c' w6 ho6 hg6 hat6 b6; have q2 := Row.away r25 hg6 (fun e => by have := HA.out _ e; omega); have c26 : w6.cell? ⟨w.heap.size + 2, 0, none⟩ = some (.slice A k cA) := q2.cell 0; have f26 : w6.frozen? ⟨w.heap.size + 2, 0, none⟩ = false := q2.free 0))
          have S := Lib.hid (headL1_step (ss := ss) hlt (by rw [RS.out, RB.out]; exact ho6) r0 r1 r2 hb bb B5 hg6 HA.out)
          clear ho6 hg6 hat6 b6 ho5 i5 r25 c25 q2 od bb B5 r0 r1 r2 hb ho RS RB LG cO1
          go_wp2
          go_roundw
          case rel => exact S.out
          case measure => simp [intOf]; omega
      · have RB := Lib.hid (show bare (givesL ss) k = ys by unfold bare; rw [if_neg (by rw [hys]; unfold vt; intro e; rw [e] at h1; exact h1 rfl), hys])
        clear hys
        go_wp2_with (first
          | (go_at_call 66; refine LG.out.mono ?_; rintro e w1 ⟨D, dn, dc, rfl, od, bb⟩; have hdn : ¬ dn = 1 := (by rw [Own.len od]; exact h1); have hdz : ¬ (dn : Int) = 1 := (by omega); have hdb : (((dn : Nat) : Int) == 1) = false := (by simp; omega); have cO1 : w1.cell? ⟨w.heap.size + 2, 0, none⟩ = some (.slice A k cA) := (r2.next bb).cell 0; have B5 : Below w1.heap.size w1 (w1.alloc (.cells #[.slice D dn dc] 24)) := (Below.refl _ _).alloc (Nat.le_refl _) _; have hz5 := B5.size; have hz1 := bb.size; have ho5 := (ho.next bb).next B5; have i5 : Inn (w1.alloc (.cells #[.slice D dn dc] 24)) wr.heap.size (w1.alloc (.cells #[.slice D dn dc] 24)).heap.size (.slice D dn dc) ys := Inn.wider ((inn_own od).next ((Below.refl _ _).alloc (Nat.le_refl _) _)) (Nat.le_refl _) (by simp); have r25 := (r2.next bb).next B5; have c25 : (w1.alloc (.cells #[.slice D dn dc] 24)).cell? ⟨w.heap.size + 2, 0, none⟩ = some (.slice A k cA) := r25.cell 0)
          | (at_builtin; refine appS1 rfl _ _ rfl (w.heap.size + 3) wr.heap.size A k cA (rowsL (givesL ss) k) rfl ho5 _ 1 (.slice D dn dc) ys rfl ((Row.new _ _ _).cell 0) i5 (by omega) (by omega) (by omega) ?_; intro A' c' w6 ho6 hg6 hat6 b6; have q2 := Row.away r25 hg6 (fun e => by have := HA.out _ e; omega); have c26 : w6.cell? ⟨w.heap.size + 2, 0, none⟩ = some (.slice A k cA) := q2.cell 0; have f26 : w6.frozen? ⟨w.heap.size + 2, 0, none⟩ = false := q2.free 0))
        have S := Lib.hid (headL1_step (ss := ss) hlt (by rw [RS.out, RB.out]; exact ho6) r0 r1 r2 hb bb B5 hg6 HA.out)
        clear ho6 hg6 hat6 b6 ho5 i5 r25 c25 q2 od bb B5 r0 r1 r2 hb ho RS RB LG cO1
        go_wp2
        go_roundw
        case rel => exact S.out
        case measure => simp [intOf]; omega
    · obtain rfl : k = m := by omega
      have HC := Lib.hid ho.cap
      have H2 : HeadL2 w (givesL ss) k A cA (.pointer (some ⟨w.heap.size + 2, 0, none⟩)) wr := ⟨k, Nat.le_refl _, rfl, by rw [List.take_of_length_le (by rw [rows_len]; exact Nat.le_refl _)]; rfl, ho, r1, r2, hb⟩
      have HH2 := Lib.hid H2
      have hc1 : cA ≤ 9223372036854775807 := ho.cap.2.1
      have hc0 : k ≤ cA := ho.cap.1
      clear H2 ho r0 r1 r2 hb cO h
      go_wp2_with fail
      go_loopw [] (fun wr => HeadL2 w (givesL ss) k A cA (.pointer (some ⟨w.heap.size + 2, 0, none⟩)) wr) (fun wr => lenAt wr ⟨w.heap.size + 2, 0, none⟩)
      case atStart => exact HH2.out
      case round =>
        obtain ⟨n, hn, -, hs, ho, r1, r2, hb⟩ := hrel
        clear HH2
        have cO : wr.cell? ⟨w.heap.size + 2, 0, none⟩ = some (.slice A n cA) := r2.cell 0
        have fO : wr.frozen? ⟨w.heap.size + 2, 0, none⟩ = false := r2.free 0
        have cR : wr.cell? ⟨w.heap.size + 1, 0, none⟩ = some (.slice none 0 0) := r1.cell 0
        have fR : wr.frozen? ⟨w.heap.size + 1, 0, none⟩ = false := r1.free 0
        by_cases h0 : n = 0
        · subst h0
          have F := Lib.hid (headL2_end hn hs ho r1 hb (.inl rfl))
          clear hs ho r1 r2 hb
          go_wp2
          exact bodyPost_ret (v := .agg #[.slice A 0 cA]) (by simp [results, Try.results64, go_sem, cR]) rfl F.out
        · obtain ⟨p, rfl⟩ : ∃ p, n = p + 1 := ⟨n - 1, by omega⟩
          obtain ⟨b, off, A', q, cq, rfl, hbb, hx, hseg, hcap⟩ := ho.segs.spot (k := p) (by omega)
          have p0 : (0 : Int) ≤ (p : Int) := by omega
          have p1 : ((p + 1 : Nat) : Int) - 1 = (p : Int) := by omega
          have p2 : (p : Int) ≤ (cA : Int) := by omega
          have p3 : (p : Int) < ((p + 1 : Nat) : Int) := by omega
          have p4 : (0 : Int) < ((p + 1 : Nat) : Int) := by omega
          have hw2 : IntKind.i64.wrap (p : Int) = (p : Int) := by rw [IntKind.wrap_i64]; omega
          by_cases hq : q = 0
          · subst hq
            have hnil : (rowsL (givesL ss) k).getD p [] = [] := List.eq_nil_of_length_eq_zero hseg.1
            have S1 : HeadL2 w (givesL ss) k (some ⟨b, off, none⟩) cA (.pointer (some ⟨w.heap.size + 2, 0, none⟩)) (wr.setCell ⟨w.heap.size + 2, 0, none⟩ (.slice (some ⟨b, off, none⟩) p cA)) := by
              refine ⟨p, by omega, rfl, by rw [← strip_drop (by rw [rows_len]; omega) hnil]; exact hs, ?_, r1.far (by simp) _, ?_, hb.setCell (by simp) _⟩
              · have := owns_put ho r2 (by omega) 0 (.slice (some ⟨b, off, none⟩) p cA)
                simpa using this
              · have := r2.put 0 (.slice (some ⟨b, off, none⟩) p cA)
                simpa using this
            have HS1 := Lib.hid S1
            have E1 : (wr.setCell ⟨w.heap.size + 2, 0, none⟩ (.slice (some ⟨b, off, none⟩) p cA)).cell? ⟨w.heap.size + 2, 0, none⟩ = some (.slice (some ⟨b, off, none⟩) p cA) := by have := (r2.put 0 (.slice (some ⟨b, off, none⟩) p cA)).cell 0; simpa using this
            have HLT := Lib.hid (show lenAt (wr.setCell ⟨w.heap.size + 2, 0, none⟩ (.slice (some ⟨b, off, none⟩) p cA)) ⟨w.heap.size + 2, 0, none⟩ < lenAt wr ⟨w.heap.size + 2, 0, none⟩ by simp only [lenAt, E1, cO]; omega)
            clear S1 E1 hs ho r1 r2 hb hseg hcap hnil
            go_wp2
            go_roundw
            case rel => exact HS1.out
            case measure => exact HLT.out
          · have hq1 : (0 : Int) < (q : Int) := by omega
            have F := Lib.hid (headL2_end hn hs ho r1 hb (.inr (fun e => by rw [show p + 1 - 1 = p by omega] at e; rw [e] at hseg; exact hq hseg.1.symm)))
            clear hs ho r1 r2 hb hseg hcap
            go_wp2
            exact bodyPost_ret (v := .agg #[.slice (some ⟨b, off, none⟩) (p + 1) cA]) (by simp [results, Try.results64, go_sem, cR]) rfl F.out

/-- what PlainOf answers -/
def plainI (sg : List Int) (ss : List (List Int)) : List (List Int) := if substOkB sg ss = true then plainL (givesL ss) ss.length else []
theorem plain_yes {sg : List Int} {ss : List (List Int)} (h : substOkB sg ss = true) : plainI sg ss = plainL (givesL ss) ss.length := by unfold plainI; rw [if_pos h]
theorem plain_no {sg : List Int} {ss : List (List Int)} (h : substOkB sg ss = false) : plainI sg ss = [] := by unfold plainI; rw [if_neg (by rw [h]; simp)]
theorem tot_le {xss : List (List Int)} {M : Nat} (h : ∀ j, (xss.getD j []).length ≤ M) : tot xss ≤ xss.length + xss.length * M := by
  have : ∀ k, k ≤ xss.length → sumL xss k ≤ k * M := fun k => by
    induction k with
    | zero => intro _; simp [sumL]
    | succ k ih =>
      intro hk
      rw [sumL_succ (by omega)]
      have h1 := ih (by omega)
      have h2 := h k
      rw [Nat.succ_mul]
      omega
  unfold tot
  have := this xss.length (Nat.le_refl _)
  omega
theorem plainI_tot {sg : List Int} {ss : List (List Int)} : tot (plainI sg ss) ≤ 1048576 := by
  cases h : substOkB sg ss with
  | false => rw [plain_no h]; simp [tot, sumL]
  | true =>
    rw [plain_yes h]
    have h1 := tot_le (plain_each (L := givesL ss) (m := ss.length) (gives_len h))
    have h2 := plain_len (givesL ss) ss.length
    have h3 := (substOk_parts h).2.1
    have h4 : (plainL (givesL ss) ss.length).length * 60 ≤ 24 * 60 := Nat.mul_le_mul_right _ (by omega)
    omega
/-- three boxes: two parameters and the result -/
theorem boxes3 (w : World) (A : Option Addr) (n c : Nat) (S : Option Addr) (m c' : Nat) : ∃ W, W = ((w.alloc (.cells #[.slice A n c] 26)).alloc (.cells #[.slice S m c'] 31)).alloc (.cells #[.slice none 0 0] 31) ∧
    Row W w.heap.size 26 #[.slice A n c] ∧ Row W (w.heap.size + 1) 31 #[.slice S m c'] ∧ Row W (w.heap.size + 2) 31 #[.slice none 0 0] ∧ Below w.heap.size w W ∧ w.heap.size + 2 < W.heap.size := by
  obtain ⟨W, hW, r1, r2, b⟩ := boxes2 w A n c S m c'
  have hz : W.heap.size = w.heap.size + 2 := by rw [hW]; simp
  refine ⟨_, rfl, ?_, ?_, ?_, ?_, ?_⟩
  · rw [← hW]; exact r1.alloc _
  · rw [← hW]; exact r2.alloc _
  · rw [← hW, ← hz]; exact Row.new _ _ _
  · rw [← hW]; exact b.alloc b.size _
  · rw [← hW]; simp; omega

end Go.Proofs.Ytkmhnkljigncmaa.plainOf
end

section
/-
  CONTRACTS: spec.DrawSameSubst, DrawComposed, DrawFilled. Conditions: at most 4096 bytes. By an AI agent.
-/
namespace Go.Proofs.Ytkmhnkljigncmaa.drawSS
open Go.RowKit Go.Proofs.Ytkmhnkljigncmaa.base Go.Proofs.Ytkmhnkljigncmaa.ints Go.Proofs.Ytkmhnkljigncmaa.sig Go.Proofs.Ytkmhnkljigncmaa.term Go.Proofs.Ytkmhnkljigncmaa.cursor Go.Proofs.Ytkmhnkljigncmaa.termOk Go.Proofs.Ytkmhnkljigncmaa.marks Go.Proofs.Ytkmhnkljigncmaa.app Go.Proofs.Ytkmhnkljigncmaa.appAt Go.Proofs.Ytkmhnkljigncmaa.sym Go.Proofs.Ytkmhnkljigncmaa.segs Go.Proofs.Ytkmhnkljigncmaa.segsHelp Go.Proofs.Ytkmhnkljigncmaa.dice Go.Proofs.Ytkmhnkljigncmaa.drawSig Go.Proofs.Ytkmhnkljigncmaa.drawTerm Go.Proofs.Ytkmhnkljigncmaa.drawAny Go.Proofs.Ytkmhnkljigncmaa.drawTwo Go.Proofs.Ytkmhnkljigncmaa.drawPair Go.Proofs.Ytkmhnkljigncmaa.drawOne Go.Proofs.Ytkmhnkljigncmaa.drawSub Go.Proofs.Ytkmhnkljigncmaa.drawS Go.Proofs.Ytkmhnkljigncmaa.drawSA Go.Proofs.Ytkmhnkljigncmaa.drawVar Go.Proofs.Ytkmhnkljigncmaa.plain Go.Proofs.Ytkmhnkljigncmaa.plainOf
set_option maxRecDepth 100000

theorem OwnR.segs {w : World} {p lo n c : Nat} {A : Option Addr} {xss : List (List Int)} (h : OwnR w p lo A n c xss) : Segs w w.heap.size A n xss := by
  obtain ⟨h1, vs, hr, h3⟩ := h
  refine ⟨h1, fun hn => ?_⟩
  rcases own_form hr with ⟨_, e, _⟩ | ⟨g, cur, rfl, _, hrow, _, _, _, _, hc⟩
  · omega
  · refine ⟨g, 0, rfl, hrow.lt, fun j hj => ?_⟩
    obtain ⟨A', n', c', e, hrd, hcap, _⟩ := h3 j hj
    refine ⟨A', n', c', ?_, hrd.seg, hcap⟩
    rw [Nat.zero_add, hrow.cell j, hc j hj, e]
theorem ownR_owns {w : World} {p lo hi n c : Nat} {A : Option Addr} {xss : List (List Int)} (h : Owns w lo hi A n c xss) (hp : p < lo) : OwnR w p lo A n c xss := by
  obtain ⟨vs, hr, hin, _⟩ := h.row
  refine ⟨h.len, vs, hr, fun j hj => ?_⟩
  obtain ⟨A', c', e, ho, hcap⟩ := (hin j hj).cap
  refine ⟨A', _, c', e, Rd.of_own (by rw [← e]; exact ho) hp, hcap, fun hn e2 => ?_⟩
  rcases own_form hr with ⟨rfl, h1, _⟩ | ⟨g, cur, rfl, _, hrow, _⟩
  · omega
  · have h2 := (hin j hj).ne hrow
    rw [e, blk_own] at h2
    exact h2 e2

/-- what is known behind the first two draws: two result boxes at w.heap.size, the variables at v6 and v7 -/
structure V4 (w : World) (p : Nat) (A : Option Addr) (n c v6 v7 : Nat) (S : Option Addr) (sn sc : Nat) (sg : List Int) (B : Option Addr) (m cB : Nat) (xss : List (List Int)) (wr : World) : Prop where
  d : Dice wr p A n c
  rN : Row wr w.heap.size 26 #[.slice none 0 0]
  rP : Row wr (w.heap.size + 1) 31 #[.slice none 0 0]
  r6 : Row wr v6 26 #[.slice S sn sc]
  r7 : Row wr v7 31 #[.slice B m cB]
  s : Rd wr p wr.heap.size S sn sg
  own : OwnR wr p (p + 1) B m cB xss
  b : Below w.heap.size w wr
  hp : w.heap.size + 1 < p
  p6 : p < v6
  p7 : p < v7
section
variable {w : World} {p : Nat} {A : Option Addr} {n c v6 v7 : Nat} {S : Option Addr} {sn sc : Nat} {sg : List Int} {B : Option Addr} {m cB : Nat} {xss : List (List Int)} {wr w' : World}
theorem V4.dice (t : V4 w p A n c v6 v7 S sn sc sg B m cB xss wr) (d : Dice w' p A n c) (hg : wr.grownBy w' (some p)) : V4 w p A n c v6 v7 S sn sc sg B m cB xss w' :=
  ⟨d, Row.away t.rN hg (fun e => by injection e; have := t.hp; omega), Row.away t.rP hg (fun e => by injection e; have := t.hp; omega), Row.away t.r6 hg (fun e => by injection e; have := t.p6; omega), Row.away t.r7 hg (fun e => by injection e; have := t.p7; omega), (t.s.grown hg (Nat.le_refl _)).more hg.size, t.own.dice hg (Nat.lt_succ_self _), t.b.grown hg t.b.size (fun k hk => by injection hk; have := t.hp; omega), t.hp, t.p6, t.p7⟩
theorem V4.next (t : V4 w p A n c v6 v7 S sn sc sg B m cB xss wr) (hb : Below wr.heap.size wr w') : V4 w p A n c v6 v7 S sn sc sg B m cB xss w' :=
  ⟨t.d.next hb, t.rN.next hb, t.rP.next hb, t.r6.next hb, t.r7.next hb, (t.s.below hb (Nat.le_refl _)).more hb.size, t.own.below hb, next_trans t.b hb, t.hp, t.p6, t.p7⟩
theorem V4.drew (t : V4 w p A n c v6 v7 S sn sc sg B m cB xss wr) : V4 w p A n c v6 v7 S sn sc sg B m cB xss wr.drew := t.next ⟨rfl, rfl, rfl, Nat.le_refl _, fun _ _ => rfl⟩
end

/-- a drawn signature and two drawn substitutions -/
def AnsSS (w : World) (e : Ending) (w' : World) : Prop :=
  ∃ S sn sc sg B m cB xss C q cC yss, e = .returned (.tuple #[.agg #[.slice S sn sc], .agg #[.slice B m cB], .agg #[.slice C q cC]]) ∧ Seg w' w'.heap.size S sn sg ∧ Segs w' w'.heap.size B m xss ∧ Segs w' w'.heap.size C q yss ∧ sn ≤ 9 ∧ tot xss ≤ 1048576 ∧ tot yss ≤ 1048576 ∧ Below w.heap.size w w'
theorem ss_of {w u : World} {p : Nat} {A : Option Addr} {n c v6 v7 : Nat} {S : Option Addr} {sn sc : Nat} {sg : List Int} {B : Option Addr} {m cB : Nat} {xss : List (List Int)} {C : Option Addr} {q cC lo : Nat} {yss : List (List Int)} (t : V4 w p A n c v6 v7 S sn sc sg B m cB xss u) (rQ : Row u (w.heap.size + 2) 31 #[.slice none 0 0]) (hp : w.heap.size + 2 < p) (hc : OwnR u p lo C q cC yss) (hlo : p < lo)
    (h1 : sn ≤ 9) (h2 : tot xss ≤ 1048576) (h3 : tot yss ≤ 1048576) :
    AnsSS w (.returned (.tuple #[.agg #[.slice S sn sc], .agg #[.slice B m cB], .agg #[.slice C q cC]])) (((u.setCell ⟨w.heap.size, 0, none⟩ (.slice S sn sc)).setCell ⟨w.heap.size + 1, 0, none⟩ (.slice B m cB)).setCell ⟨w.heap.size + 2, 0, none⟩ (.slice C q cC)) := by
  have neB : ∀ N, N < p → blk B ≠ some N := fun N hN e => by have := (t.own.ge N e).1; omega
  have neC : ∀ N, N < p → blk C ≠ some N := fun N hN e => by have := (hc.ge N e).1; omega
  have s1 := Rd.other t.s (t.rN.cell 0) (.slice S sn sc)
  have o1 := OwnR.setNe t.own (neB w.heap.size (by omega)) (t.rN.cell 0) (.slice S sn sc)
  have c1 := OwnR.setNe hc (neC w.heap.size (by omega)) (t.rN.cell 0) (.slice S sn sc)
  have rP1 := t.rP.far (p := ⟨w.heap.size, 0, none⟩) (show w.heap.size + 1 ≠ w.heap.size by omega) (.slice S sn sc)
  have rQ1 := rQ.far (p := ⟨w.heap.size, 0, none⟩) (show w.heap.size + 2 ≠ w.heap.size by omega) (.slice S sn sc)
  have b1 := t.b.setCell (p := ⟨w.heap.size, 0, none⟩) (Nat.le_refl _) (.slice S sn sc)
  have s2 := Rd.other s1 (rP1.cell 0) (.slice B m cB)
  have o2 := OwnR.setNe o1 (neB (w.heap.size + 1) (by omega)) (rP1.cell 0) (.slice B m cB)
  have c2 := OwnR.setNe c1 (neC (w.heap.size + 1) (by omega)) (rP1.cell 0) (.slice B m cB)
  have rQ2 := rQ1.far (p := ⟨w.heap.size + 1, 0, none⟩) (show w.heap.size + 2 ≠ w.heap.size + 1 by omega) (.slice B m cB)
  have b2 := b1.setCell (p := ⟨w.heap.size + 1, 0, none⟩) (Nat.le_succ _) (.slice B m cB)
  have s3 := Rd.other s2 (rQ2.cell 0) (.slice C q cC)
  have o3 := OwnR.setNe o2 (neB (w.heap.size + 2) (by omega)) (rQ2.cell 0) (.slice C q cC)
  have c3 := OwnR.setNe c2 (neC (w.heap.size + 2) (by omega)) (rQ2.cell 0) (.slice C q cC)
  have b3 := b2.setCell (p := ⟨w.heap.size + 2, 0, none⟩) (by simp) (.slice C q cC)
  exact ⟨S, sn, sc, sg, B, m, cB, xss, C, q, cC, yss, rfl, s3.seg.more (by simp), OwnR.segs o3, OwnR.segs c3, h1, h2, h3, b3⟩

/-- a drawn signature, a drawn substitution, a drawn list -/
def AnsST (w : World) (e : Ending) (w' : World) : Prop :=
  ∃ S sn sc sg B m cB xss O on oc ys, e = .returned (.tuple #[.agg #[.slice S sn sc], .agg #[.slice B m cB], .slice O on oc]) ∧ Seg w' w'.heap.size S sn sg ∧ Segs w' w'.heap.size B m xss ∧ Seg w' w'.heap.size O on ys ∧ sn ≤ 9 ∧ tot xss ≤ 1048576 ∧ on ≤ 65 ∧ Below w.heap.size w w'
theorem st_of {w u : World} {p : Nat} {A : Option Addr} {n c v6 v7 : Nat} {S : Option Addr} {sn sc : Nat} {sg : List Int} {B : Option Addr} {m cB : Nat} {xss : List (List Int)} {O : Option Addr} {on oc : Nat} {ys : List Int} (t : V4 w p A n c v6 v7 S sn sc sg B m cB xss u) (hc : Rd u p u.heap.size O on ys)
    (h1 : sn ≤ 9) (h2 : tot xss ≤ 1048576) (h3 : on ≤ 65) :
    AnsST w (.returned (.tuple #[.agg #[.slice S sn sc], .agg #[.slice B m cB], .slice O on oc])) ((u.setCell ⟨w.heap.size, 0, none⟩ (.slice S sn sc)).setCell ⟨w.heap.size + 1, 0, none⟩ (.slice B m cB)) := by
  have hp := t.hp
  have neB : ∀ N, N < p → blk B ≠ some N := fun N hN e => by have := (t.own.ge N e).1; omega
  have s1 := Rd.other t.s (t.rN.cell 0) (.slice S sn sc)
  have o1 := OwnR.setNe t.own (neB w.heap.size (by omega)) (t.rN.cell 0) (.slice S sn sc)
  have c1 := Rd.other hc (t.rN.cell 0) (.slice S sn sc)
  have rP1 := t.rP.far (p := ⟨w.heap.size, 0, none⟩) (show w.heap.size + 1 ≠ w.heap.size by omega) (.slice S sn sc)
  have b1 := t.b.setCell (p := ⟨w.heap.size, 0, none⟩) (Nat.le_refl _) (.slice S sn sc)
  have s2 := Rd.other s1 (rP1.cell 0) (.slice B m cB)
  have o2 := OwnR.setNe o1 (neB (w.heap.size + 1) (by omega)) (rP1.cell 0) (.slice B m cB)
  have c2 := Rd.other c1 (rP1.cell 0) (.slice B m cB)
  have b2 := b1.setCell (p := ⟨w.heap.size + 1, 0, none⟩) (Nat.le_succ _) (.slice B m cB)
  exact ⟨S, sn, sc, sg, B, m, cB, xss, O, on, oc, ys, rfl, s2.seg.more (by simp), OwnR.segs o2, c2.seg.more (by simp), h1, h2, h3, b2⟩

/-- behind the first two draws -/
theorem v4_mk {w w2 w4 W W2 : World} {p : Nat} {A : Option Addr} {n c : Nat} {S : Option Addr} {sn sc : Nat} {sg : List Int} {B : Option Addr} {m cB : Nat} {xss : List (List Int)}
    (hp : w.heap.size + 1 < p) (rN : Row W w.heap.size 26 #[.slice none 0 0]) (rP : Row W (w.heap.size + 1) 31 #[.slice none 0 0]) (b : Below w.heap.size w W) (s : Rd W p W.heap.size S sn sg) (hW : W = w2.alloc (.cells #[.slice S sn sc] 26)) (hp2 : p < w2.heap.size)
    (own : OwnR w4 p W.heap.size B m cB xss) (d : Dice w4 p A n c) (g : W.grownBy w4 (some p)) (hW2 : W2 = w4.alloc (.cells #[.slice B m cB] 31)) : V4 w p A n c w2.heap.size w4.heap.size S sn sc sg B m cB xss W2 := by
  have r6 : Row W w2.heap.size 26 #[.slice S sn sc] := by rw [hW]; exact Row.new _ _ _
  have hz := r6.lt
  have hzg := g.size
  have bb : Below w4.heap.size w4 W2 := by rw [hW2]; exact (Below.refl _ _).alloc (Nat.le_refl _) _
  exact ⟨d.next bb, (Row.away rN g (fun e => by injection e; omega)).next bb, (Row.away rP g (fun e => by injection e; omega)).next bb, (Row.away r6 g (fun e => by injection e; omega)).next bb, by rw [hW2]; exact Row.new _ _ _, (((s.grown g (Nat.le_refl _)).more g.size).below bb (Nat.le_refl _)).more bb.size, (own.below bb).lower (by omega), next_trans (b.grown g b.size (fun k hk => by injection hk; omega)) bb, hp, hp2, by omega⟩

set_option maxHeartbeats 8000000 in
theorem drawFilled (A : Option Addr) (n c : Nat) (w : World) (h : SegB w w.heap.size A n) (hn : n ≤ 4096) :
    Calls Try.prog 17 #[.slice A n c] w (AnsST w) := by
  obtain ⟨W0, hW0⟩ : ∃ W0, W0 = (w.alloc (.cells #[.slice none 0 0] 26)).alloc (.cells #[.slice none 0 0] 31) := ⟨_, rfl⟩
  have rN : Row W0 w.heap.size 26 #[.slice none 0 0] := by rw [hW0]; exact (Row.new _ _ _).alloc _
  have rP : Row W0 (w.heap.size + 1) 31 #[.slice none 0 0] := by rw [hW0]; have := Row.new (w.alloc (.cells #[.slice none 0 0] 26)) 31 #[.slice none 0 0]; simpa using this
  have b0 : Below w.heap.size w W0 := by rw [hW0]; exact ((Below.refl _ _).alloc (Nat.le_refl _) _).alloc (by simp) _
  have L := Lib.hid (new_ A n c W0 (segB_below h b0) hn)
  have HW0 := Lib.hid hW0
  clear h hW0
  go_enter Try.func17, Try.ntmps17
  go_wp2_with fail
  rw [← HW0.out]
  refine L.out.mono ?_
  rintro e w1 ⟨p, rfl, hp, d1, bb⟩
  have hNp : w.heap.size + 1 < p := Nat.lt_of_lt_of_le rP.lt hp
  replace rN := rN.next bb
  replace rP := rP.next bb
  have bel := next_trans b0 bb
  have L2 := Lib.hid (drawSigAny p A n c w1 d1)
  have hp1 := d1.lt
  clear d1 bb b0 L
  go_wp2_with fail
  refine L2.out.mono ?_
  rintro e w2 ⟨S, sn, sc, sg, rfl, o2, hshort, d2, g2⟩
  have hsn : sn ≤ 9 := by rw [Own.len o2]; exact hshort
  have hp2 := d2.lt
  replace rN := Row.away rN g2 (fun e => by injection e; omega)
  replace rP := Row.away rP g2 (fun e => by injection e; omega)
  have bel2 : Below w.heap.size w w2 := bel.grown g2 bel.size (fun k hk => by injection hk; omega)
  obtain ⟨W, hW⟩ : ∃ W, W = w2.alloc (.cells #[.slice S sn sc] 26) := ⟨_, rfl⟩
  have bb : Below w2.heap.size w2 W := by rw [hW]; exact (Below.refl _ _).alloc (Nat.le_refl _) _
  replace rN := rN.next bb
  replace rP := rP.next bb
  have bel3 := next_trans bel2 bb
  have s3 := ((Rd.of_own o2 hp1).below bb (Nat.le_refl _)).more bb.size
  have d3 := d2.next bb
  have hp3 := d3.lt
  have c6 : W.cell? ⟨w2.heap.size, 0, none⟩ = some (.slice S sn sc) := by rw [hW]; exact (Row.new w2 26 #[.slice S sn sc]).cell 0
  have L3 := Lib.hid (drawAnyS p A n c S sn sc sg W d3 s3 (by omega))
  have HW := Lib.hid hW
  clear o2 hshort d2 d3 g2 bel bel2 L2 bb hW
  go_wp2_with fail
  rw [← HW.out]
  refine L3.out.mono ?_
  rintro e w4 ⟨B, m, cB, xss, rfl, own4, hsm, d4, g4⟩
  obtain ⟨W2, hW2⟩ : ∃ W2, W2 = w4.alloc (.cells #[.slice B m cB] 31) := ⟨_, rfl⟩
  have T := v4_mk (by omega) rN rP bel3 s3 HW.out hp2 own4 d4 g4 hW2
  have hxt := small_tot hsm own4.1 (by omega)
  have HW2 := Lib.hid hW2
  have T1 := T.drew
  have k6 : W2.cell? ⟨w2.heap.size, 0, none⟩ = some (.slice S sn sc) := T.r6.cell 0
  have k7 : W2.cell? ⟨w4.heap.size, 0, none⟩ = some (.slice B m cB) := T.r7.cell 0
  obtain ⟨v6, h6⟩ : ∃ v, w2.heap.size = v := ⟨_, rfl⟩
  obtain ⟨v7, h7⟩ : ∃ v, w4.heap.size = v := ⟨_, rfl⟩
  rw [h6, h7] at T T1
  rw [h6] at k6
  rw [h7] at k7
  have H6 := Lib.hid h6
  have H7 := Lib.hid h7
  have zl := T.r7.lt
  have z6 : ¬ v6 = w.heap.size := by have := T.hp; have := T.p6; omega
  have z7 : ¬ v7 = w.heap.size := by have := T.hp; have := T.p7; omega
  have y6 : ¬ w.heap.size = v6 := by omega
  have y7 : ¬ w.heap.size = v7 := by omega
  have z61 : ¬ v6 = w.heap.size + 1 := by have := T.hp; have := T.p6; omega
  have z71 : ¬ v7 = w.heap.size + 1 := by have := T.hp; have := T.p7; omega
  have y61 : ¬ w.heap.size + 1 = v6 := by omega
  have y71 : ¬ w.heap.size + 1 = v7 := by omega
  clear rN rP bel3 s3 own4 d4 g4 hW2 L3 c6 T h6 h7 hp3
  go_wp2_with fail
  rw [← HW2.out, H6.out, H7.out]
  go_region_held3 (fun w' => w'.cell? ⟨v6, 0, none⟩ = some (.slice S sn sc) ∧ w'.cell? ⟨v7, 0, none⟩ = some (.slice B m cB))
    (go_keep)
    (first
      | (go_at_call 69; refine (drawAny p A n c S sn sc sg W2.drew T1.d T1.s (by omega)).mono ?_; rintro e w5 ⟨O, on, oc, ys, rfl, ra, h1, h2, h3, h4, d5, g5⟩; have T2 := T1.dice d5 g5; have j6 : w5.cell? ⟨v6, 0, none⟩ = some (.slice S sn sc) := T2.r6.cell 0; have j7 : w5.cell? ⟨v7, 0, none⟩ = some (.slice B m cB) := T2.r7.cell 0; have cN5 : w5.cell? ⟨w.heap.size, 0, none⟩ = some (.slice none 0 0) := T2.rN.cell 0; have fN5 : w5.frozen? ⟨w.heap.size, 0, none⟩ = false := T2.rN.free 0; have cP5 : w5.cell? ⟨w.heap.size + 1, 0, none⟩ = some (.slice none 0 0) := T2.rP.cell 0; have fP5 : w5.frozen? ⟨w.heap.size + 1, 0, none⟩ = false := T2.rP.free 0; have F := Lib.hid (st_of (oc := oc) T2 ra hsn hxt h4)))
  clear T2 T1 ra d5 g5 j6 j7 k6 k7
  go_wp2
  exact bodyPost_ret (v := .tuple #[.agg #[.slice S sn sc], .agg #[.slice B m cB], .slice O on oc]) (by simp [results, Try.results17, go_sem, cN5, cP5]) rfl F.out
end Go.Proofs.Ytkmhnkljigncmaa.drawSS
end
