/-
  MERGED: my texts DrawX, KindsR, Copy, Vars, AnsB, Shelf, Sorted, VarsSort, VarsOf, CountL, Linear, RenMath, RuleMath, one behind the other, as they are. By an AI agent.
-/
import Derived.Test.YtdkjafjphgcbjaaMFnDefined2
import Derived.Deep.AppendLies
import Derived.Deep.RegionHeld3
import Derived.WalkSpells
import Derived.Shelf.SlGeneric
import Derived.Ground.SlgnProg
import Derived.Shelf.SortG.Plain
import Derived.Shelf.SortG.SortNone
import Derived.Shelf.SlicesG.CompactI
import Derived.Test.YtdkjafjphgcbjaaProg
section
/-
  WORDS FOR DRAWS OVER SHAPES: what reads as data in blocks of a kind ('RdQ'); a slice whose row is the call's own and whose elements may be read ('OwnQ'), append of one element to it. Conditions: none; plain lemmas. By an AI agent.
-/
namespace Go.Proofs.Ytdkjafjphgcbjaa.drawX
open Go.RowKit Go.Proofs.Ytdkjafjphgcbjaa.base Go.Proofs.Ytdkjafjphgcbjaa.ints Go.Proofs.Ytdkjafjphgcbjaa.sig Go.Proofs.Ytdkjafjphgcbjaa.cursor Go.Proofs.Ytdkjafjphgcbjaa.marks Go.Proofs.Ytdkjafjphgcbjaa.app Go.Proofs.Ytdkjafjphgcbjaa.appAt Go.Proofs.Ytdkjafjphgcbjaa.sym Go.Proofs.Ytdkjafjphgcbjaa.segs Go.Proofs.Ytdkjafjphgcbjaa.shape Go.Proofs.Ytdkjafjphgcbjaa.dice

/-- the cells cs read as d; all blocks are of kind Q -/
def RdQ (w : World) (Q : Nat → Prop) : (s : Sh) → List Value → Dat s → Prop
  | .num, cs, (x : Int) => cs = [.int .i64 x]
  | .bit, cs, (x : Bool) => cs = [.bool x]
  | .row _ s, cs, (d : List (Dat s)) => ∃ A n c, cs = [.slice A n c] ∧ Cap A n c ∧ d.length = n ∧
      (0 < n → ∃ b off, A = some ⟨b, off, none⟩ ∧ Q b ∧ ∀ j, j < n → ∃ es, es.length = nc s ∧ Piece w b (off + j * nc s) es ∧ RdQ w Q s es (d.getD j (dft s)))
  | .cat a b, cs, d => ∃ ca cb, cs = ca ++ cb ∧ RdQ w Q a ca d.1 ∧ RdQ w Q b cb d.2
section
variable {w w' : World} {Q Q' : Nat → Prop} {B : Nat}
theorem RdQ.keep (hk : ∀ b, Q b → w'.heap[b]? = w.heap[b]?) : ∀ {s : Sh} {cs : List Value} {d : Dat s}, RdQ w Q s cs d → RdQ w' Q s cs d
  | .num, _, _, h => h
  | .bit, _, _, h => h
  | .row _ s, _, _, h => by
    obtain ⟨A, n, c, e, hc, hl, h1⟩ := h
    refine ⟨A, n, c, e, hc, hl, fun hn => ?_⟩
    obtain ⟨b, off, e2, hb, h2⟩ := h1 hn
    refine ⟨b, off, e2, hb, fun j hj => ?_⟩
    obtain ⟨es, he, hp, hr⟩ := h2 j hj
    exact ⟨es, he, hp.keep (fun p hp => World.cell?_of_block (by rw [hp]; exact hk b hb)), hr.keep hk⟩
  | .cat a b, _, _, h => by
    obtain ⟨ca, cb, e, h1, h2⟩ := h
    exact ⟨ca, cb, e, h1.keep hk, h2.keep hk⟩
theorem RdQ.mono (hk : ∀ b, Q b → Q' b) : ∀ {s : Sh} {cs : List Value} {d : Dat s}, RdQ w Q s cs d → RdQ w Q' s cs d
  | .num, _, _, h => h
  | .bit, _, _, h => h
  | .row _ s, _, _, h => by
    obtain ⟨A, n, c, e, hc, hl, h1⟩ := h
    refine ⟨A, n, c, e, hc, hl, fun hn => ?_⟩
    obtain ⟨b, off, e2, hb, h2⟩ := h1 hn
    refine ⟨b, off, e2, hk b hb, fun j hj => ?_⟩
    obtain ⟨es, he, hp, hr⟩ := h2 j hj
    exact ⟨es, he, hp, hr.mono hk⟩
  | .cat a b, _, _, h => by
    obtain ⟨ca, cb, e, h1, h2⟩ := h
    exact ⟨ca, cb, e, h1.mono hk, h2.mono hk⟩
theorem RdQ.rd (hk : ∀ b, Q b → b < B) : ∀ {s : Sh} {cs : List Value} {d : Dat s}, RdQ w Q s cs d → Rd w B s cs d
  | .num, _, _, h => h
  | .bit, _, _, h => h
  | .row _ s, _, _, h => by
    obtain ⟨A, n, c, e, hc, hl, h1⟩ := h
    refine ⟨A, n, c, e, hc, hl, fun hn => ?_⟩
    obtain ⟨b, off, e2, hb, h2⟩ := h1 hn
    refine ⟨b, off, e2, hk b hb, fun j hj => ?_⟩
    obtain ⟨es, he, hp, hr⟩ := h2 j hj
    exact ⟨es, he, hp, hr.rd hk⟩
  | .cat a b, _, _, h => by
    obtain ⟨ca, cb, e, h1, h2⟩ := h
    exact ⟨ca, cb, e, h1.rd hk, h2.rd hk⟩
theorem RdQ.len : ∀ {s : Sh} {cs : List Value} {d : Dat s}, RdQ w Q s cs d → cs.length = nc s
  | .num, _, _, h => by have h : _ = _ := h; rw [h]; rfl
  | .bit, _, _, h => by have h : _ = _ := h; rw [h]; rfl
  | .row _ _, _, _, h => by obtain ⟨A, n, c, e, _⟩ := h; rw [e]; rfl
  | .cat a b, _, _, h => by
    obtain ⟨ca, cb, e, h1, h2⟩ := h
    rw [e, List.length_append, h1.len, h2.len]; rfl
theorem RdQ.cat {a b : Sh} {ca cb : List Value} {x : Dat a} {y : Dat b} (h1 : RdQ w Q a ca x) (h2 : RdQ w Q b cb y) : RdQ w Q (.cat a b) (ca ++ cb) (x, y) := ⟨ca, cb, rfl, h1, h2⟩
/-- every cell is one cell -/
theorem RdQ.one : ∀ {s : Sh} {cs : List Value} {d : Dat s}, RdQ w Q s cs d → ∀ u ∈ cs, u.oneCell' = true
  | .num, _, _, h, u, hu => by have h : _ = _ := h; rw [h] at hu; rw [List.mem_singleton.1 hu]; rfl
  | .bit, _, _, h, u, hu => by have h : _ = _ := h; rw [h] at hu; rw [List.mem_singleton.1 hu]; rfl
  | .row _ _, _, _, h, u, hu => by obtain ⟨A, n, c, e, _⟩ := h; rw [e] at hu; rw [List.mem_singleton.1 hu]; rfl
  | .cat a b, _, _, h, u, hu => by
    obtain ⟨ca, cb, e, h1, h2⟩ := h
    rw [e] at hu
    rcases List.mem_append.1 hu with hu | hu
    · exact h1.one u hu
    · exact h2.one u hu
/-- a list -/
theorem rdq_seg {A : Option Addr} {n c : Nat} {xs : List Int} (hl : xs.length = n) (hc : Cap A n c) (h : 0 < n → ∃ b off, A = some ⟨b, off, none⟩ ∧ Q b ∧ ∀ j, j < n → w.cell? ⟨b, off + j, none⟩ = some (.int .i64 (xs.getD j 0))) : RdQ w Q sI [.slice A n c] xs := by
  refine ⟨A, n, c, rfl, hc, hl, fun hn => ?_⟩
  obtain ⟨b, off, e2, hb, h2⟩ := h hn
  refine ⟨b, off, e2, hb, fun j hj => ⟨[.int .i64 (xs.getD j 0)], rfl, fun i hi => ?_, rfl⟩⟩
  have hi : i = 0 := by simpa using hi
  subst hi
  show w.cell? ⟨b, off + j * 1 + 0, none⟩ = some (.int .i64 (xs.getD j 0))
  rw [Nat.mul_one, Nat.add_zero]
  exact h2 j hj
theorem rdq_own {lo : Nat} {A : Option Addr} {n c : Nat} {xs : List Int} (h : Own w lo (.slice A n c) xs) (hQ : ∀ b, lo ≤ b → b < w.heap.size → blk A = some b → Q b) : RdQ w Q sI [.slice A n c] xs := by
  have hl := Own.len h
  refine rdq_seg hl.symm (Go.Proofs.Ytdkjafjphgcbjaa.kinds.Ownd.cap (Go.Proofs.Ytdkjafjphgcbjaa.kinds.Ownd.of_own h)) fun hn => ?_
  obtain ⟨b, off, e, hb, hc⟩ := (Own.seg h).2 hn
  have hk : blk A = some b := by rw [e]; rfl
  exact ⟨b, off, e, hQ b (World.ownsRow.lt h b (by rw [blk_own]; exact hk)).1 hb hk, hc⟩
theorem rdq_rd {p : Nat} {A : Option Addr} {n c : Nat} {xs : List Int} (h : Go.Proofs.Ytdkjafjphgcbjaa.drawTerm.Rd w p B A n xs) (hc : Cap A n c) (hQ : ∀ b, b < B → b ≠ p → Q b) : RdQ w Q sI [.slice A n c] xs :=
  rdq_seg h.1 hc fun hn => by
    obtain ⟨b, off, e, hb, hp, hcell⟩ := h.2 hn
    exact ⟨b, off, e, hQ b hb hp, hcell⟩
end

/-- outside the cursor's block -/
def Out (w : World) (p : Nat) (b : Nat) : Prop := b < w.heap.size ∧ b ≠ p
/-- outside the cursor's block and outside a row -/
def OutR (w : World) (p : Nat) (r : Option Nat) (b : Nat) : Prop := b < w.heap.size ∧ b ≠ p ∧ some b ≠ r
section
variable {w w' : World} {p : Nat} {r : Option Nat} {s : Sh} {cs : List Value} {d : Dat s}
theorem out_dice (h : RdQ w (Out w p) s cs d) (hg : w.grownBy w' (some p)) : RdQ w' (Out w' p) s cs d :=
  (h.keep fun b hb => hg.block b hb.1 (fun e => hb.2 (by injection e))).mono fun b hb => ⟨Nat.lt_of_lt_of_le hb.1 hg.size, hb.2⟩
theorem out_below (h : RdQ w (Out w p) s cs d) (hb : Below w.heap.size w w') : RdQ w' (Out w' p) s cs d :=
  (h.keep fun b h => hb.block b h.1).mono fun b h => ⟨Nat.lt_of_lt_of_le h.1 hb.size, h.2⟩
theorem outR_dice (h : RdQ w (OutR w p r) s cs d) (hg : w.grownBy w' (some p)) : RdQ w' (OutR w' p r) s cs d :=
  (h.keep fun b hb => hg.block b hb.1 (fun e => hb.2.1 (by injection e))).mono fun b hb => ⟨Nat.lt_of_lt_of_le hb.1 hg.size, hb.2⟩
theorem outR_below (h : RdQ w (OutR w p r) s cs d) (hb : Below w.heap.size w w') : RdQ w' (OutR w' p r) s cs d :=
  (h.keep fun b h => hb.block b h.1).mono fun b h => ⟨Nat.lt_of_lt_of_le h.1 hb.size, h.2⟩
theorem out_rd (h : RdQ w (Out w p) s cs d) : Rd w w.heap.size s cs d := h.rd fun _ h => h.1
theorem out_put {g i : Nat} {u : Value} (h : RdQ w (Out w p) s cs d) (hg : ∀ b, Out w p b → b ≠ g) : RdQ (w.setCell ⟨g, i, none⟩ u) (Out (w.setCell ⟨g, i, none⟩ u) p) s cs d :=
  (h.keep fun b hb => Below.heap_setCell w _ u b (hg b hb)).mono fun b h => ⟨by simpa using h.1, h.2⟩
end

/-! ### a slice whose row is the call's own -/
/-- element j's cells -/
def cellsOf (k : Nat) (vs : List Value) (j : Nat) : List Value := (vs.drop (j * k)).take k
def OwnQ (w : World) (p lo : Nat) (e : TypeId) (s : Sh) (A : Option Addr) (n c : Nat) (D : List (Dat s)) : Prop :=
  D.length = n ∧ ∃ vs : List Value, w.ownsRow lo e (nc s) (.slice A n c) n vs ∧ ∀ j, j < n → RdQ w (OutR w p (blk A)) s (cellsOf (nc s) vs j) (D.getD j (dft s))
section
variable {w w' : World} {p lo n c : Nat} {e : TypeId} {s : Sh} {A : Option Addr} {D : List (Dat s)}
theorem OwnQ.nil (w : World) (p lo : Nat) (e : TypeId) (s : Sh) : OwnQ w p lo e s none 0 0 [] := ⟨rfl, [], ⟨by simp, .inl ⟨rfl, rfl⟩⟩, fun j hj => absurd hj (Nat.not_lt_zero _)⟩
theorem OwnQ.below (h : OwnQ w p lo e s A n c D) (hb : Below w.heap.size w w') : OwnQ w' p lo e s A n c D := by
  obtain ⟨h1, vs, h2, h3⟩ := h
  exact ⟨h1, vs, World.ownsRow.kept h2 ⟨hb.os, hb.tape, hb.output, hb.size, fun k hk _ => hb.block k hk⟩ (row := none) (by cases (Value.slice A n c).ownBlock <;> simp), fun j hj => outR_below (h3 j hj) hb⟩
theorem OwnQ.dice (h : OwnQ w p lo e s A n c D) (hg : w.grownBy w' (some p)) (hp : p < lo) : OwnQ w' p lo e s A n c D := by
  obtain ⟨h1, vs, h2, h3⟩ := h
  refine ⟨h1, vs, World.ownsRow.kept h2 hg ?_, fun j hj => outR_dice (h3 j hj) hg⟩
  cases e : (Value.slice A n c).ownBlock with
  | none => exact .inl rfl
  | some k =>
    refine .inr (fun e2 => ?_)
    have := (World.ownsRow.lt h2 k e).1
    injection e2 with e2
    omega
theorem OwnQ.lower {lo' : Nat} (h : OwnQ w p lo e s A n c D) (h1 : lo' ≤ lo) : OwnQ w p lo' e s A n c D := by
  obtain ⟨h3, vs, ho, h4⟩ := h
  refine ⟨h3, vs, ⟨ho.1, ?_⟩, h4⟩
  rcases ho.2 with q2 | ⟨g, cap, cur, hv, hg, q⟩
  · exact .inl q2
  · exact .inr ⟨g, cap, cur, hv, by omega, q⟩
theorem OwnQ.ge (h : OwnQ w p lo e s A n c D) : ∀ k, blk A = some k → lo ≤ k ∧ k < w.heap.size := fun k hk => by
  obtain ⟨_, vs, ho, _⟩ := h
  exact World.ownsRow.lt ho k (by rw [blk_own]; exact hk)
/-- it reads as data -/
theorem OwnQ.rdq {e0 : TypeId} (h : OwnQ w p lo e s A n c D) (hp : p < lo) : RdQ w (Out w p) (.row e0 s) [.slice A n c] D := by
  obtain ⟨h1, vs, ho, h3⟩ := h
  rcases ho.2 with ⟨e1, h0⟩ | ⟨g, cap, cur, e1, hg, hrow, hn, hm, hs, ht⟩
  · injection e1 with a1 a2 a3
    subst a1 a2 a3
    exact ⟨none, 0, 0, rfl, ⟨by omega, by omega, fun _ => rfl⟩, h1, fun h => absurd h (by omega)⟩
  · injection e1 with a1 a2 a3
    subst a1 a3
    refine ⟨_, n, c, rfl, ⟨hn, by unfold maxLen at hm; omega, fun e => by cases e⟩, h1, fun h0 => ⟨g, 0, rfl, ⟨(Array.getElem?_eq_some_iff.1 hrow).1, by omega⟩, fun j hj => ⟨cellsOf (nc s) vs j, ?_, fun i hi => ?_, (h3 j hj).mono fun b h => ⟨h.1, h.2.1⟩⟩⟩⟩
    · exact (h3 j hj).len
    · have hl := (h3 j hj).len
      have hi : i < nc s := by omega
      have hjn : j * nc s + nc s ≤ n * nc s := by
        have := Nat.mul_le_mul_right (nc s) (show j + 1 ≤ n by omega)
        rw [Nat.add_mul] at this
        omega
      rw [Nat.zero_add, Row.cell (t := e) (cs := cur) hrow]
      have h5 : cur.toList[j * nc s + i]? = vs[j * nc s + i]? := by
        rw [← ht, List.getElem?_take, if_pos (by omega)]
      rw [← Array.getElem?_toList, h5]
      unfold cellsOf
      rw [List.getElem?_take, if_pos hi, List.getElem?_drop]
/-- one more -/
theorem ownQ_app {vs es : List Value} {x : Dat s} {A' : Option Addr} {c' : Nat} (hl : D.length = n) (hr : w.ownsRow lo e (nc s) (.slice A n c) n vs) (hin : ∀ j, j < n → RdQ w (OutR w p (blk A)) s (cellsOf (nc s) vs j) (D.getD j (dft s))) (hv : RdQ w (OutR w p (blk A)) s es x)
    (hown' : w'.ownsRow lo e (nc s) (.slice A' (n + 1) c') (n + 1) (vs ++ es)) (hg : w.grownBy w' (blk A)) (hat : blk A' = blk A ∨ blk A' = some w.heap.size) : OwnQ w' p lo e s A' (n + 1) c' (D ++ [x]) := by
  have hvl : vs.length = n * nc s := hr.1
  have hel := hv.len
  have keep : ∀ {us : List Value} {y : Dat s}, RdQ w (OutR w p (blk A)) s us y → RdQ w' (OutR w' p (blk A')) s us y := fun {us y} hu =>
    (hu.keep fun b hb => hg.block b hb.1 (fun e => hb.2.2 e)).mono fun b hb => ⟨Nat.lt_of_lt_of_le hb.1 hg.size, hb.2.1, by
      rcases hat with e2 | e2
      · rw [e2]; exact hb.2.2
      · rw [e2]; intro e3; injection e3 with e3; have := hb.1; omega⟩
  refine ⟨by simp [hl], vs ++ es, hown', fun j hj => ?_⟩
  by_cases ej : j = n
  · subst ej
    rw [show (D ++ [x]).getD j (dft s) = x by simp [List.getD, ← hl]]
    have : cellsOf (nc s) (vs ++ es) j = es := by
      unfold cellsOf
      rw [List.drop_append_of_le_length (by omega), List.drop_of_length_le (by omega), List.nil_append, List.take_of_length_le (by omega)]
    rw [this]
    exact keep hv
  · rw [show (D ++ [x]).getD j (dft s) = D.getD j (dft s) by simp [List.getD, List.getElem?_append_left (show j < D.length by omega)]]
    have hjn : j * nc s + nc s ≤ n * nc s := by
      have := Nat.mul_le_mul_right (nc s) (show j + 1 ≤ n by omega)
      rw [Nat.add_mul] at this
      omega
    have : cellsOf (nc s) (vs ++ es) j = cellsOf (nc s) vs j := by
      unfold cellsOf
      rw [List.drop_append_of_le_length (by omega), List.take_append_of_le_length (by rw [List.length_drop]; omega)]
    rw [this]
    exact keep (hin j (by omega))
end

/-- append of one element, in a walk -/
theorem appQ1 {w : World} {ops : Array Oper} {rest : List Oper} {o : Oper} {a : Act} {Q : Exit → Act → World → Prop} (hgd : o.guard = none) (sx x : Operand) (T e : TypeId) (s : Sh) (z : Value) (bytes : Nat) (hT : Try.prog.underlying T = some (.slice e))
    (hI : (Try.prog.info? e).map (fun i => (i.zero, i.size, i.bytes)) = some (some z, nc s, bytes)) (hzc : z.cells.size = nc s) (hby : bytes ≤ 4096)
    (ho : o.op = .call { callee := .builtin .append, args := #[sx, x], argTypes := #[T, T] })
    (p lo : Nat) (A : Option Addr) (n c : Nat) (D : List (Dat s)) (hs : a.eval sx = .slice A n c) (hown : OwnQ w p lo e s A n c D)
    (g c2 : Nat) (es : List Value) (y : Dat s) (hx : a.eval x = .slice (some ⟨g, 0, none⟩) 1 c2) (hy : ∀ i, i < es.length → w.cell? ⟨g, i, none⟩ = es[i]?) (hv : RdQ w (OutR w p (blk A)) s es y) (hn : n ≤ 1048576) (hlo : lo ≤ w.heap.size)
    (h : ∀ A' c' w', OwnQ w' p lo e s A' (n + 1) c' (D ++ [y]) → w.grownBy w' (blk A) → (blk A' = blk A ∨ blk A' = some w.heap.size) → Below lo w w' → wpList Try.prog ops Q rest (a.put o.dst (.slice A' (n + 1) c')) w') : wpList Try.prog ops Q (o :: rest) a w := by
  obtain ⟨i0, hi, hz0, hz1, hz2⟩ := info_parts hI
  obtain ⟨hlen, vs, hr, hin⟩ := hown
  have hel := hv.len
  refine wpList_append_own_at w hgd sx x T ho lo e i0 z (nc s) bytes hT hi hz0 hz1 hz2 hzc (nc_pos s) (.slice A n c) n vs hs hr
    ⟨g, 0, none⟩ 1 c2 es hx (by rw [hel]; simp) (fun j u hj => ?_) hv.one (by unfold maxLen; omega) (by have h1 : (n + 1) * bytes ≤ 1048577 * 4096 := Nat.mul_le_mul (by omega) hby; omega) hlo ?_
  · have hj2 : j < es.length := (List.getElem?_eq_some_iff.1 hj).1
    have := hy j hj2
    rw [hj] at this
    have e2 : (⟨g, 0, none⟩ : Addr).add j = ⟨g, j, none⟩ := by unfold Addr.add; split <;> simp_all
    rw [e2]; exact this
  · intro v' w' hown' hg _ hat
    have hform : ∃ A' c', v' = .slice A' (n + 1) c' := by
      rcases hown'.2 with ⟨_, h0⟩ | ⟨g', cap, cur, e, _⟩
      · omega
      · exact ⟨_, _, e⟩
    obtain ⟨A', c', rfl⟩ := hform
    rw [blk_own] at hg
    rw [blk_own, blk_own] at hat
    exact h A' c' w' (ownQ_app hlen hr hin hv hown' hg hat) hg hat ((Below.refl lo w).grown hg hlo (fun k hk => (World.ownsRow.lt hr k (by rw [blk_own]; exact hk)).1))
/-- append of one element, at a step of a region that draws -/
theorem stepQ1 {w : World} {ops : Array Oper} {o : Oper} {a : Act} {K : Act → World → Prop} {Q : Exit → Act → World → Prop} {E : Prop} (hgd : o.guard = none) (sx x : Operand) (T e : TypeId) (s : Sh) (z : Value) (bytes : Nat) (hT : Try.prog.underlying T = some (.slice e))
    (hI : (Try.prog.info? e).map (fun i => (i.zero, i.size, i.bytes)) = some (some z, nc s, bytes)) (hzc : z.cells.size = nc s) (hby : bytes ≤ 4096)
    (ho : o.op = .call { callee := .builtin .append, args := #[sx, x], argTypes := #[T, T] })
    (p lo : Nat) (A : Option Addr) (n c : Nat) (D : List (Dat s)) (hs : a.eval sx = .slice A n c) (hown : OwnQ w p lo e s A n c D)
    (g c2 : Nat) (es : List Value) (y : Dat s) (hx : a.eval x = .slice (some ⟨g, 0, none⟩) 1 c2) (hy : ∀ i, i < es.length → w.cell? ⟨g, i, none⟩ = es[i]?) (hv : RdQ w (OutR w p (blk A)) s es y) (hn : n ≤ 1048576) (hlo : lo ≤ w.heap.size)
    (h : ∀ g' c' w', OwnQ w' p lo e s (some ⟨g', 0, none⟩) (n + 1) c' (D ++ [y]) → w.grownBy w' (blk A) → (blk A = some g' ∨ g' = w.heap.size) → g' < w'.heap.size → K (a.put o.dst (.slice (some ⟨g', 0, none⟩) (n + 1) c')) w') :
    if Region.wanted o (yielded ops a.tmps) = true then Oper.wp Try.prog o a w K Q else E := by
  obtain ⟨i0, hi, hz0, hz1, hz2⟩ := info_parts hI
  obtain ⟨hlen, vs, hr, hin⟩ := hown
  have hel := hv.len
  refine step_append_lies w hgd sx x T ho lo e i0 z (nc s) bytes hT hi hz0 hz1 hz2 hzc (nc_pos s) (.slice A n c) n vs hs hr
    ⟨g, 0, none⟩ 1 c2 es hx (by rw [hel]; simp) (fun j u hj => ?_) hv.one (by omega) (by unfold maxLen; omega) (by have h1 : (n + 1) * bytes ≤ 1048577 * 4096 := Nat.mul_le_mul (by omega) hby; omega) hlo w.heap.size rfl ?_
  · have hj2 : j < es.length := (List.getElem?_eq_some_iff.1 hj).1
    have := hy j hj2
    rw [hj] at this
    have e2 : (⟨g, 0, none⟩ : Addr).add j = ⟨g, j, none⟩ := by unfold Addr.add; split <;> simp_all
    rw [e2]; exact this
  · intro g' c' w' hown' hg hat hlt
    rw [blk_own] at hg hat
    exact h g' c' w' (ownQ_app hlen hr hin hv hown' hg (hat.imp (fun e => e.symm) (fun e => by rw [← e]; rfl))) hg hat hlt
end Go.Proofs.Ytdkjafjphgcbjaa.drawX
end

section
/-
  CONTRACTS of the laws' helpers over shapes: Sig:sz,to,eq,mark, Rule:sz,to,eq,mark,held, RuleS:sz,to,eq,mark, System:sz,to,eq,mark. Conditions: at most 1048576 numbers. Written by a program of mine (mkkinds.py). By an AI agent.
-/
namespace Go.Proofs.Ytdkjafjphgcbjaa.kindsR
open Go.RowKit Go.Proofs.Ytdkjafjphgcbjaa.base Go.Proofs.Ytdkjafjphgcbjaa.ints Go.Proofs.Ytdkjafjphgcbjaa.sig Go.Proofs.Ytdkjafjphgcbjaa.cursor Go.Proofs.Ytdkjafjphgcbjaa.marks Go.Proofs.Ytdkjafjphgcbjaa.app Go.Proofs.Ytdkjafjphgcbjaa.sym Go.Proofs.Ytdkjafjphgcbjaa.appAt Go.Proofs.Ytdkjafjphgcbjaa.segs Go.Proofs.Ytdkjafjphgcbjaa.segsHelp Go.Proofs.Ytdkjafjphgcbjaa.segsMark Go.Proofs.Ytdkjafjphgcbjaa.kinds Go.Proofs.Ytdkjafjphgcbjaa.shape
set_option maxRecDepth 100000

abbrev sSig : Sh := sI
theorem cells_Sig {w : World} {B : Nat} {es : List Value} {d : Dat sSig} (h : Rd w B sSig es d) : ∃ (v0 : Value), es = [v0] := by
  obtain ⟨A0, n0, c0, z0, -⟩ := h
  exact ⟨.slice A0 n0 c0, by rw [z0] <;> rfl⟩

set_option maxHeartbeats 2000000 in
theorem szK_Sig (v0 : Value) (d : Dat sSig) (left : Int) (w : World) (h : Rd w w.heap.size sSig [v0] d) (h0 : 0 ≤ left) (h1 : left ≤ 1048576) :
    Calls Try.prog 37 #[.agg #[v0], .int .i64 left] w (AnsSzK w left (sz sSig d)) := by
  have g0 := h
  obtain ⟨t0, ht0⟩ : ∃ t, sz sI d = t := ⟨_, rfl⟩
  have HE : Hid (sz sSig d = t0) := Lib.hid (by rw [← ht0]; try rfl)
  have HT0 := Lib.hid ht0
  have G0 := Lib.hid g0
  obtain ⟨W, hW⟩ : ∃ W, W = w.alloc (.cells #[v0] 40) := ⟨_, rfl⟩
  have r : Row W w.heap.size 40 #[v0] := by rw [hW]; exact Row.new _ _ _
  have bel : Below w.heap.size w W := by rw [hW]; exact (Below.refl _ _).alloc (Nat.le_refl _) _
  have HW := Lib.hid hW
  clear hW h g0 ht0
  go_enter Try.func37, Try.ntmps37
  go_wp2_with fail
  rw [← HW.out]
  refine (szK_ints _ _ left W (G0.out.next bel) h0 h1).mono ?_
  rintro e w1 ⟨he, bb⟩
  rw [HT0.out] at he
  replace r := r.next bb
  replace bel := next_trans bel bb
  clear bb
  by_cases q0 : left - (t0 : Int) < 0
  · rw [if_pos q0] at he
    subst he
    have F : AnsSzK w left (sz sSig d) (.returned (.int .i64 (-1))) w1 := ⟨by rw [HE.out, if_pos (by omega)], bel⟩
    have HF := Lib.hid F
    clear F bel r
    go_wp2
    go_ret
    exact HF.out
  rw [if_neg q0] at he
  obtain ⟨l0, hl0⟩ : ∃ l, left - (t0 : Int) = l := ⟨_, rfl⟩
  rw [hl0] at he
  have a0 : 0 ≤ l0 := by omega
  have b0 : l0 ≤ 1048576 := by omega
  have HL0 := Lib.hid hl0
  clear hl0 q0
  subst he
  have F : AnsSzK w left (sz sSig d) (.returned (.int .i64 l0)) w1 := ⟨by have := HL0.out; rw [HE.out, if_neg (by omega)]; exact congrArg (fun z => Ending.returned (.int .i64 z)) (by omega), bel⟩
  have HF := Lib.hid F
  clear F bel r
  go_wp2
  go_ret
  exact HF.out

def CopySig (w : World) (d : Dat sSig) (e : Ending) (w' : World) : Prop := ∃ A0 n0 c0, e = .returned (.agg #[.slice A0 n0 c0]) ∧ Owned w' w.heap.size w'.heap.size sSig [.slice A0 n0 c0] d ∧ Below w.heap.size w w'
set_option maxHeartbeats 2000000 in
theorem toK_Sig (v0 : Value) (d : Dat sSig) (w : World) (h : Rd w w.heap.size sSig [v0] d) (hz : sz sSig d ≤ 1048576) :
    Calls Try.prog 40 #[.agg #[v0]] w (CopySig w d) := by
  have g0 := h
  have cp0 := CpS.zero w 40 26 #[v0] #[.slice none 0 0]
  obtain ⟨W, hW⟩ : ∃ W, W = ((w.alloc (.cells #[v0] 40)).alloc (.cells #[.slice none 0 0] 26)).alloc (.cells #[.slice none 0 0] 26) := ⟨_, rfl⟩
  rw [← hW] at cp0
  have HW := Lib.hid hW
  have G0 := Lib.hid g0
  have Z0 : Hid (sz sI d ≤ 1048576) := Lib.hid (hz)
  clear hW hz h g0
  go_enter Try.func40, Try.ntmps40
  go_wp2_with fail
  rw [← HW.out]
  refine (toK_ints _ _ _ ((G0.out.below cp0.bel).more cp0.bel.size) Z0.out).mono ?_
  rintro e w1 ⟨x0A0, x0n0, x0c0, rfl, o0, bb⟩
  have zb0 := bb.size
  have zc0 := cp0.size
  replace cp0 := cp0.next bb
  clear bb
  have f0_0 : w1.frozen? ⟨w.heap.size + 1 + 1, 0, none⟩ = false := cp0.cur.free 0
  have k0_0 : w1.cell? ⟨w.heap.size + 1 + 1, 0, none⟩ = some (.slice none 0 0) := cp0.cur.cell 0
  obtain ⟨w2, hw0⟩ : ∃ x, x = (w1.setCell ⟨w.heap.size + 1 + 1, 0, none⟩ (.slice x0A0 x0n0 x0c0)) := ⟨_, rfl⟩
  replace o0 := o0.put (g := w.heap.size + 1 + 1) (i := 0) (u := .slice x0A0 x0n0 x0c0) (by omega)
  rw [← hw0] at o0
  replace cp0 : CpS w 40 26 #[v0] #[.slice none 0 0] #[.slice x0A0 x0n0 x0c0] w2 := by rw [hw0]; exact (CpS.put cp0 0 (.slice x0A0 x0n0 x0c0))
  have zw0 : w2.heap.size = w1.heap.size := by rw [hw0]; simp
  have HW0 := Lib.hid hw0
  clear hw0
  have y0 : w2.cell? ⟨w.heap.size + 1 + 1, 0, none⟩ = some (.slice x0A0 x0n0 x0c0) := cp0.cur.cell 0
  rw [HW0.out] at y0
  have s0 : (w2).cell? ⟨w.heap.size + 1, 0, none⟩ = some (.slice none 0 0) := cp0.res.cell 0
  rw [HW0.out] at s0
  have r0 : (w2).frozen? ⟨w.heap.size + 1, 0, none⟩ = false := cp0.res.free 0
  rw [HW0.out] at r0
  have oo : Owned w2 (w.heap.size + 1 + 1 + 1) w2.heap.size sSig [.slice x0A0 x0n0 x0c0] d := o0.wider (by omega) (by omega)
  have F : CopySig w d (.returned (.agg #[.slice x0A0 x0n0 x0c0])) (w2.setCell ⟨w.heap.size + 1, 0, none⟩ (.slice x0A0 x0n0 x0c0)) := ⟨x0A0, x0n0, x0c0, rfl, Owned.wider ((oo.put (g := w.heap.size + 1) (i := 0) (u := .slice x0A0 x0n0 x0c0) (by omega))) (by omega) (by simp), ((CpS.fin cp0 0 (.slice x0A0 x0n0 x0c0))).bel⟩
  have u0 : ((w2.setCell ⟨w.heap.size + 1, 0, none⟩ (.slice x0A0 x0n0 x0c0))).cell? ⟨w.heap.size + 1, 0, none⟩ = some (.slice x0A0 x0n0 x0c0) := (CpS.fin cp0 0 (.slice x0A0 x0n0 x0c0)).res.cell 0
  rw [HW0.out] at u0
  rw [HW0.out] at F
  have HF := Lib.hid F
  clear F oo cp0 o0
  go_wp2
  exact bodyPost_ret (v := .agg #[.slice x0A0 x0n0 x0c0]) (by simp [results, Try.results40, go_sem, u0]) rfl HF.out

set_option maxHeartbeats 2000000 in
theorem eqK_Sig (v0 u0 : Value) (d : Dat sSig) (w : World) (h : Rd w w.heap.size sSig [v0] d) (h' : Rd w w.heap.size sSig [u0] d) (hz : sz sSig d ≤ 1048576) :
    Calls Try.prog 42 #[.agg #[v0], .agg #[u0]] w (Yes w) := by
  have g0 := h
  have g0' := h'
  obtain ⟨W, hW⟩ : ∃ W, W = (w.alloc (.cells #[v0] 26)).alloc (.cells #[u0] 26) := ⟨_, rfl⟩
  have ra : Row W w.heap.size 26 #[v0] := by rw [hW]; exact (Row.new w 26 #[v0]).alloc _
  have rb : Row W (w.heap.size + 1) 26 #[u0] := by rw [hW]; have := Row.new (w.alloc (.cells #[v0] 26)) 26 #[u0]; simpa using this
  have bel : Below w.heap.size w W := by rw [hW]; exact ((Below.refl _ _).alloc (Nat.le_refl _) _).alloc (by simp) _
  have HW := Lib.hid hW
  have G0 := Lib.hid g0
  have G0' := Lib.hid g0'
  have Z0 : Hid (sz sI d ≤ 1048576) := Lib.hid (hz)
  clear hW hz h h' g0 g0'
  go_enter Try.func42, Try.ntmps42
  go_wp2_with fail
  rw [← HW.out]
  refine (eqK_ints _ _ _ W (G0.out.next bel) (G0'.out.next bel) Z0.out).mono ?_
  rintro e w1 ⟨rfl, bb⟩
  replace ra := ra.next bb
  replace rb := rb.next bb
  replace bel := next_trans bel bb
  clear bb
  have F : Yes w (.returned (.bool true)) w1 := ⟨rfl, bel⟩
  have HF := Lib.hid F
  clear F ra rb bel
  go_wp2
  go_ret
  exact HF.out

set_option maxHeartbeats 2000000 in
theorem markK_Sig (v0 : Value) (d : Dat sSig) (k : Int) (F : List Nat) (w : World) (h : Ow w sSig [v0] d F) (hF : F.Nodup) (hz : sz sSig d ≤ 1048576) (hk0 : 0 ≤ k) (hk : k + (cntv sSig d : Int) ≤ 1099511627776) :
    Calls Try.prog 53 #[.agg #[v0], .int .i64 k] w (AnsMarkF w sSig [v0] d k F) := by
  have hlt := h.lt
  have o0 := h
  obtain ⟨z0, hz0⟩ : ∃ z, cntv sI d = z := ⟨_, rfl⟩
  have hc : (cntv sSig d : Int) = (z0 : Int) := by rw [← hz0]; try rfl
  have Z0 : Hid (sz sI d ≤ 1048576) := Lib.hid (hz)
  have HZ0 := Lib.hid hz0
  have HC := Lib.hid hc
  rw [hc] at hk
  obtain ⟨W, hW⟩ : ∃ W, W = w.alloc (.cells #[v0] 26) := ⟨_, rfl⟩
  have r : Row W w.heap.size 26 #[v0] := by rw [hW]; exact Row.new _ _ _
  have bel : Below w.heap.size w W := by rw [hW]; exact (Below.refl _ _).alloc (Nat.le_refl _) _
  replace o0 := o0.next bel
  have nb0 : w.heap.size ∉ F := fun hb => by have := hlt _ hb; omega
  have sub0 : ∀ x ∈ F, x ∈ F := fun x hb => hb
  have on : Only F w W := Only.of_below bel
  have HW := Lib.hid hW
  have HEF : Hid (F = F) := Lib.hid (by rfl)
  clear hW h hz hc bel hlt hz0 
  go_enter Try.func53, Try.ntmps53
  go_wp2_with fail
  rw [← HW.out]
  refine (markK_ints _ _ k F _ o0 Z0.out (by omega) (by omega)).mono ?_
  rintro e w1 ⟨he, o0, on0⟩
  rw [HZ0.out] at he
  replace r := Row.only r on0 nb0
  replace on := on.trans (on0.wider sub0)
  clear on0
  obtain ⟨k0, hk0⟩ : ∃ l, k + (z0 : Int) = l := ⟨_, rfl⟩
  rw [hk0] at he
  have l0 : 0 ≤ k0 := by omega
  have u0 : k0  ≤ 1099511627776 := by omega
  subst he
  have HK0 := Lib.hid hk0
  clear hk0
  have F1 : AnsMarkF w sSig [v0] d k F (.returned (.int .i64 k0)) w1 := by
    refine ⟨congrArg (fun z => Ending.returned (.int .i64 z)) ?_, ?_, on⟩
    · rw [HC.out]; have := HK0.out; omega
    · skip
      exact o0
  have HF := Lib.hid F1
  clear F1 on r o0
  go_wp2
  go_ret
  exact HF.out

abbrev sRule : Sh := .cat sI sI
theorem parts_Rule {w : World} {B : Nat} {v0 v1 : Value} {d : Dat sRule} (h : Rd w B sRule [v0, v1] d) : Rd w B sI [v0] d.1 ∧ Rd w B sI [v1] d.2 := by
  obtain ⟨p0, q0⟩ := Rd.split (ca := [v0]) (cb := [v1]) h rfl
  exact ⟨p0, q0⟩
theorem join_Rule {w : World} {lo hi : Nat} {v0 v1 : Value} {d : Dat sRule} {m0 m1 m2 : Nat} (o0 : Owned w m0 m1 sI [v0] d.1) (o1 : Owned w m1 m2 sI [v1] d.2) (l0 : m0 ≤ m1) (l1 : m1 ≤ m2) (hl : lo ≤ m0) (hh : m2 ≤ hi) : Owned w lo hi sRule [v0, v1] d := by
  exact ((Owned.cat o0 o1 (Nat.le_refl _) (by omega) (by omega)) : Owned w m0 m2 sRule [v0, v1] d).wider hl hh
theorem cells_Rule {w : World} {B : Nat} {es : List Value} {d : Dat sRule} (h : Rd w B sRule es d) : ∃ (v0 : Value) (v1 : Value), es = [v0, v1] := by
  obtain ⟨ca0, cb0, e0, p0, q0⟩ := h
  obtain ⟨A0, n0, c0, z0, -⟩ := p0
  obtain ⟨A1, n1, c1, z1, -⟩ := q0
  exact ⟨.slice A0 n0 c0, .slice A1 n1 c1, by rw [e0, z0, z1] <;> rfl⟩

set_option maxHeartbeats 2000000 in
theorem szK_Rule (v0 v1 : Value) (d : Dat sRule) (left : Int) (w : World) (h : Rd w w.heap.size sRule [v0, v1] d) (h0 : 0 ≤ left) (h1 : left ≤ 1048576) :
    Calls Try.prog 38 #[.agg #[v0, v1], .int .i64 left] w (AnsSzK w left (sz sRule d)) := by
  obtain ⟨g0, g1⟩ := parts_Rule h
  obtain ⟨t0, ht0⟩ : ∃ t, sz sI d.1 = t := ⟨_, rfl⟩
  obtain ⟨t1, ht1⟩ : ∃ t, sz sI d.2 = t := ⟨_, rfl⟩
  have HE : Hid (sz sRule d = t0 + t1) := Lib.hid (by rw [← ht0, ← ht1]; simp only [sz]; try omega)
  have HT0 := Lib.hid ht0
  have G0 := Lib.hid g0
  have HT1 := Lib.hid ht1
  have G1 := Lib.hid g1
  obtain ⟨W, hW⟩ : ∃ W, W = w.alloc (.cells #[v0, v1] 41) := ⟨_, rfl⟩
  have r : Row W w.heap.size 41 #[v0, v1] := by rw [hW]; exact Row.new _ _ _
  have bel : Below w.heap.size w W := by rw [hW]; exact (Below.refl _ _).alloc (Nat.le_refl _) _
  have HW := Lib.hid hW
  clear hW h g0 g1 ht0 ht1
  go_enter Try.func38, Try.ntmps38
  go_wp2_with fail
  rw [← HW.out]
  refine (szK_ints _ _ left W (G0.out.next bel) h0 h1).mono ?_
  rintro e w1 ⟨he, bb⟩
  rw [HT0.out] at he
  replace r := r.next bb
  replace bel := next_trans bel bb
  clear bb
  by_cases q0 : left - (t0 : Int) < 0
  · rw [if_pos q0] at he
    subst he
    have F : AnsSzK w left (sz sRule d) (.returned (.int .i64 (-1))) w1 := ⟨by rw [HE.out, if_pos (by omega)], bel⟩
    have HF := Lib.hid F
    clear F bel r
    go_wp2
    go_ret
    exact HF.out
  rw [if_neg q0] at he
  obtain ⟨l0, hl0⟩ : ∃ l, left - (t0 : Int) = l := ⟨_, rfl⟩
  rw [hl0] at he
  have a0 : 0 ≤ l0 := by omega
  have b0 : l0 ≤ 1048576 := by omega
  have HL0 := Lib.hid hl0
  clear hl0 q0
  subst he
  have c0_0 : w1.cell? ⟨w.heap.size, 1, none⟩ = some (v1) := r.cell 1
  go_wp2_with fail
  refine (szK_ints _ _ l0 w1 (G1.out.next bel) a0 b0).mono ?_
  rintro e w2 ⟨he, bb⟩
  rw [HT1.out] at he
  replace r := r.next bb
  replace bel := next_trans bel bb
  clear bb
  by_cases q1 : l0 - (t1 : Int) < 0
  · rw [if_pos q1] at he
    subst he
    have F : AnsSzK w left (sz sRule d) (.returned (.int .i64 (-1))) w2 := ⟨by have := HL0.out; rw [HE.out, if_pos (by omega)], bel⟩
    have HF := Lib.hid F
    clear F bel r
    go_wp2
    go_ret
    exact HF.out
  rw [if_neg q1] at he
  obtain ⟨l1, hl1⟩ : ∃ l, l0 - (t1 : Int) = l := ⟨_, rfl⟩
  rw [hl1] at he
  have a1 : 0 ≤ l1 := by omega
  have b1 : l1 ≤ 1048576 := by omega
  have HL1 := Lib.hid hl1
  clear hl1 q1
  subst he
  have F : AnsSzK w left (sz sRule d) (.returned (.int .i64 l1)) w2 := ⟨by have := HL0.out; have := HL1.out; rw [HE.out, if_neg (by omega)]; exact congrArg (fun z => Ending.returned (.int .i64 z)) (by omega), bel⟩
  have HF := Lib.hid F
  clear F bel r
  go_wp2
  go_ret
  exact HF.out

def CopyRule (w : World) (d : Dat sRule) (e : Ending) (w' : World) : Prop := ∃ A0 n0 c0 A1 n1 c1, e = .returned (.agg #[.slice A0 n0 c0, .slice A1 n1 c1]) ∧ Owned w' w.heap.size w'.heap.size sRule [.slice A0 n0 c0, .slice A1 n1 c1] d ∧ Below w.heap.size w w'
set_option maxHeartbeats 2000000 in
theorem toK_Rule (v0 v1 : Value) (d : Dat sRule) (w : World) (h : Rd w w.heap.size sRule [v0, v1] d) (hz : sz sRule d ≤ 1048576) :
    Calls Try.prog 41 #[.agg #[v0, v1]] w (CopyRule w d) := by
  obtain ⟨g0, g1⟩ := parts_Rule h
  have cp0 := CpS.zero w 41 35 #[v0, v1] #[.slice none 0 0, .slice none 0 0]
  obtain ⟨W, hW⟩ : ∃ W, W = ((w.alloc (.cells #[v0, v1] 41)).alloc (.cells #[.slice none 0 0, .slice none 0 0] 35)).alloc (.cells #[.slice none 0 0, .slice none 0 0] 35) := ⟨_, rfl⟩
  rw [← hW] at cp0
  have HW := Lib.hid hW
  have G0 := Lib.hid g0
  have Z0 : Hid (sz sI d.1 ≤ 1048576) := Lib.hid (by have := hz; simp only [sz] at this ⊢; omega)
  have G1 := Lib.hid g1
  have Z1 : Hid (sz sI d.2 ≤ 1048576) := Lib.hid (by have := hz; simp only [sz] at this ⊢; omega)
  clear hW hz h g0 g1
  go_enter Try.func41, Try.ntmps41
  go_wp2_with fail
  rw [← HW.out]
  refine (toK_ints _ _ _ ((G0.out.below cp0.bel).more cp0.bel.size) Z0.out).mono ?_
  rintro e w1 ⟨x0A0, x0n0, x0c0, rfl, o0, bb⟩
  have zb0 := bb.size
  have zc0 := cp0.size
  replace cp0 := cp0.next bb
  clear bb
  have f0_0 : w1.frozen? ⟨w.heap.size + 1 + 1, 0, none⟩ = false := cp0.cur.free 0
  have k0_0 : w1.cell? ⟨w.heap.size + 1 + 1, 0, none⟩ = some (.slice none 0 0) := cp0.cur.cell 0
  obtain ⟨w2, hw0⟩ : ∃ x, x = (w1.setCell ⟨w.heap.size + 1 + 1, 0, none⟩ (.slice x0A0 x0n0 x0c0)) := ⟨_, rfl⟩
  replace o0 := o0.put (g := w.heap.size + 1 + 1) (i := 0) (u := .slice x0A0 x0n0 x0c0) (by omega)
  rw [← hw0] at o0
  replace cp0 : CpS w 41 35 #[v0, v1] #[.slice none 0 0, .slice none 0 0] #[.slice x0A0 x0n0 x0c0, .slice none 0 0] w2 := by rw [hw0]; exact (CpS.put cp0 0 (.slice x0A0 x0n0 x0c0))
  have zw0 : w2.heap.size = w1.heap.size := by rw [hw0]; simp
  have HW0 := Lib.hid hw0
  clear hw0
  have d1_0 : w2.cell? ⟨w.heap.size, 1, none⟩ = some (v1) := cp0.box.cell 1
  rw [HW0.out] at d1_0
  go_wp2_with fail
  rw [← HW0.out]
  clear d1_0
  refine (toK_ints _ _ _ ((G1.out.below cp0.bel).more cp0.bel.size) Z1.out).mono ?_
  rintro e w3 ⟨x1A0, x1n0, x1c0, rfl, o1, bb⟩
  replace o0 := o0.next bb
  have zb1 := bb.size
  have zc1 := cp0.size
  replace cp0 := cp0.next bb
  clear bb
  have f1_0 : w3.frozen? ⟨w.heap.size + 1 + 1, 1, none⟩ = false := cp0.cur.free 1
  have k1_0 : w3.cell? ⟨w.heap.size + 1 + 1, 1, none⟩ = some (.slice none 0 0) := cp0.cur.cell 1
  obtain ⟨w4, hw1⟩ : ∃ x, x = (w3.setCell ⟨w.heap.size + 1 + 1, 1, none⟩ (.slice x1A0 x1n0 x1c0)) := ⟨_, rfl⟩
  replace o0 := o0.put (g := w.heap.size + 1 + 1) (i := 1) (u := .slice x1A0 x1n0 x1c0) (by omega)
  rw [← hw1] at o0
  replace o1 := o1.put (g := w.heap.size + 1 + 1) (i := 1) (u := .slice x1A0 x1n0 x1c0) (by omega)
  rw [← hw1] at o1
  replace cp0 : CpS w 41 35 #[v0, v1] #[.slice none 0 0, .slice none 0 0] #[.slice x0A0 x0n0 x0c0, .slice x1A0 x1n0 x1c0] w4 := by rw [hw1]; exact (CpS.put cp0 1 (.slice x1A0 x1n0 x1c0))
  have zw1 : w4.heap.size = w3.heap.size := by rw [hw1]; simp
  have HW1 := Lib.hid hw1
  clear hw1
  have y0 : w4.cell? ⟨w.heap.size + 1 + 1, 0, none⟩ = some (.slice x0A0 x0n0 x0c0) := cp0.cur.cell 0
  rw [HW1.out] at y0
  have y1 : w4.cell? ⟨w.heap.size + 1 + 1, 1, none⟩ = some (.slice x1A0 x1n0 x1c0) := cp0.cur.cell 1
  rw [HW1.out] at y1
  have s0 : (w4).cell? ⟨w.heap.size + 1, 0, none⟩ = some (.slice none 0 0) := cp0.res.cell 0
  rw [HW1.out] at s0
  have r0 : (w4).frozen? ⟨w.heap.size + 1, 0, none⟩ = false := cp0.res.free 0
  rw [HW1.out] at r0
  have s1 : ((w4.setCell ⟨w.heap.size + 1, 0, none⟩ (.slice x0A0 x0n0 x0c0))).cell? ⟨w.heap.size + 1, 1, none⟩ = some (.slice none 0 0) := (CpS.fin cp0 0 (.slice x0A0 x0n0 x0c0)).res.cell 1
  rw [HW1.out] at s1
  have r1 : ((w4.setCell ⟨w.heap.size + 1, 0, none⟩ (.slice x0A0 x0n0 x0c0))).frozen? ⟨w.heap.size + 1, 1, none⟩ = false := (CpS.fin cp0 0 (.slice x0A0 x0n0 x0c0)).res.free 1
  rw [HW1.out] at r1
  have oo : Owned w4 (w.heap.size + 1 + 1 + 1) w4.heap.size sRule [.slice x0A0 x0n0 x0c0, .slice x1A0 x1n0 x1c0] d := join_Rule (m0 := W.heap.size) (m1 := w2.heap.size) (m2 := w4.heap.size) (o0.wider (Nat.le_refl _) (by omega)) (o1.wider (Nat.le_refl _) (by omega)) (by omega) (by omega) (by omega) (by omega)
  have F : CopyRule w d (.returned (.agg #[.slice x0A0 x0n0 x0c0, .slice x1A0 x1n0 x1c0])) ((w4.setCell ⟨w.heap.size + 1, 0, none⟩ (.slice x0A0 x0n0 x0c0)).setCell ⟨w.heap.size + 1, 1, none⟩ (.slice x1A0 x1n0 x1c0)) := ⟨x0A0, x0n0, x0c0, x1A0, x1n0, x1c0, rfl, Owned.wider (((oo.put (g := w.heap.size + 1) (i := 0) (u := .slice x0A0 x0n0 x0c0) (by omega)).put (g := w.heap.size + 1) (i := 1) (u := .slice x1A0 x1n0 x1c0) (by omega))) (by omega) (by simp), ((CpS.fin (CpS.fin cp0 0 (.slice x0A0 x0n0 x0c0)) 1 (.slice x1A0 x1n0 x1c0))).bel⟩
  have u0 : (((w4.setCell ⟨w.heap.size + 1, 0, none⟩ (.slice x0A0 x0n0 x0c0)).setCell ⟨w.heap.size + 1, 1, none⟩ (.slice x1A0 x1n0 x1c0))).cell? ⟨w.heap.size + 1, 0, none⟩ = some (.slice x0A0 x0n0 x0c0) := (CpS.fin (CpS.fin cp0 0 (.slice x0A0 x0n0 x0c0)) 1 (.slice x1A0 x1n0 x1c0)).res.cell 0
  rw [HW1.out] at u0
  have u1 : (((w4.setCell ⟨w.heap.size + 1, 0, none⟩ (.slice x0A0 x0n0 x0c0)).setCell ⟨w.heap.size + 1, 1, none⟩ (.slice x1A0 x1n0 x1c0))).cell? ⟨w.heap.size + 1, 1, none⟩ = some (.slice x1A0 x1n0 x1c0) := (CpS.fin (CpS.fin cp0 0 (.slice x0A0 x0n0 x0c0)) 1 (.slice x1A0 x1n0 x1c0)).res.cell 1
  rw [HW1.out] at u1
  rw [HW1.out] at F
  have HF := Lib.hid F
  clear F oo cp0 o0 o1
  go_wp2
  exact bodyPost_ret (v := .agg #[.slice x0A0 x0n0 x0c0, .slice x1A0 x1n0 x1c0]) (by simp [results, Try.results41, go_sem, u0, u1]) rfl HF.out

set_option maxHeartbeats 2000000 in
theorem eqK_Rule (v0 v1 u0 u1 : Value) (d : Dat sRule) (w : World) (h : Rd w w.heap.size sRule [v0, v1] d) (h' : Rd w w.heap.size sRule [u0, u1] d) (hz : sz sRule d ≤ 1048576) :
    Calls Try.prog 43 #[.agg #[v0, v1], .agg #[u0, u1]] w (Yes w) := by
  obtain ⟨g0, g1⟩ := parts_Rule h
  obtain ⟨g0', g1'⟩ := parts_Rule h'
  obtain ⟨W, hW⟩ : ∃ W, W = (w.alloc (.cells #[v0, v1] 35)).alloc (.cells #[u0, u1] 35) := ⟨_, rfl⟩
  have ra : Row W w.heap.size 35 #[v0, v1] := by rw [hW]; exact (Row.new w 35 #[v0, v1]).alloc _
  have rb : Row W (w.heap.size + 1) 35 #[u0, u1] := by rw [hW]; have := Row.new (w.alloc (.cells #[v0, v1] 35)) 35 #[u0, u1]; simpa using this
  have bel : Below w.heap.size w W := by rw [hW]; exact ((Below.refl _ _).alloc (Nat.le_refl _) _).alloc (by simp) _
  have HW := Lib.hid hW
  have G0 := Lib.hid g0
  have G0' := Lib.hid g0'
  have Z0 : Hid (sz sI d.1 ≤ 1048576) := Lib.hid (by have := hz; simp only [sz] at this ⊢; omega)
  have G1 := Lib.hid g1
  have G1' := Lib.hid g1'
  have Z1 : Hid (sz sI d.2 ≤ 1048576) := Lib.hid (by have := hz; simp only [sz] at this ⊢; omega)
  clear hW hz h h' g0 g0' g1 g1'
  go_enter Try.func43, Try.ntmps43
  go_wp2_with fail
  rw [← HW.out]
  refine (eqK_ints _ _ _ W (G0.out.next bel) (G0'.out.next bel) Z0.out).mono ?_
  rintro e w1 ⟨rfl, bb⟩
  replace ra := ra.next bb
  replace rb := rb.next bb
  replace bel := next_trans bel bb
  clear bb
  have a1_0 : w1.cell? ⟨w.heap.size, 1, none⟩ = some (v1) := ra.cell 1
  have b1_0 : w1.cell? ⟨w.heap.size + 1, 1, none⟩ = some (u1) := rb.cell 1
  go_wp2_with fail
  clear a1_0 b1_0
  refine (eqK_ints _ _ _ w1 (G1.out.next bel) (G1'.out.next bel) Z1.out).mono ?_
  rintro e w2 ⟨rfl, bb⟩
  replace ra := ra.next bb
  replace rb := rb.next bb
  replace bel := next_trans bel bb
  clear bb
  have F : Yes w (.returned (.bool true)) w2 := ⟨rfl, bel⟩
  have HF := Lib.hid F
  clear F ra rb bel
  go_wp2
  go_ret
  exact HF.out

set_option maxHeartbeats 2000000 in
theorem markK_Rule (v0 v1 : Value) (d : Dat sRule) (k : Int) (F : List Nat) (w : World) (h : Ow w sRule [v0, v1] d F) (hF : F.Nodup) (hz : sz sRule d ≤ 1048576) (hk0 : 0 ≤ k) (hk : k + (cntv sRule d : Int) ≤ 1099511627776) :
    Calls Try.prog 54 #[.agg #[v0, v1], .int .i64 k] w (AnsMarkF w sRule [v0, v1] d k F) := by
  have hlt := h.lt
  obtain ⟨F0, R0, eF0, o0, o1⟩ := Ow.split (ca := [v0]) (cb := [v1]) h rfl
  rw [eF0] at hF
  obtain ⟨n0, nr0, x0, y0⟩ := dis_app hF
  obtain ⟨z0, hz0⟩ : ∃ z, cntv sI d.1 = z := ⟨_, rfl⟩
  obtain ⟨z1, hz1⟩ : ∃ z, cntv sI d.2 = z := ⟨_, rfl⟩
  have hc : (cntv sRule d : Int) = (z0 : Int) + (z1 : Int) := by rw [← hz0, ← hz1]; first | done | (simp only [cntv]; try omega)
  have Z0 : Hid (sz sI d.1 ≤ 1048576) := Lib.hid (by have := hz; simp only [sz] at this ⊢; omega)
  have HZ0 := Lib.hid hz0
  have Z1 : Hid (sz sI d.2 ≤ 1048576) := Lib.hid (by have := hz; simp only [sz] at this ⊢; omega)
  have HZ1 := Lib.hid hz1
  have HC := Lib.hid hc
  rw [hc] at hk
  obtain ⟨W, hW⟩ : ∃ W, W = w.alloc (.cells #[v0, v1] 35) := ⟨_, rfl⟩
  have r : Row W w.heap.size 35 #[v0, v1] := by rw [hW]; exact Row.new _ _ _
  have bel : Below w.heap.size w W := by rw [hW]; exact (Below.refl _ _).alloc (Nat.le_refl _) _
  replace o0 := o0.next bel
  replace o1 := o1.next bel
  have nb0 : w.heap.size ∉ F0 := fun hb => by have := hlt _ (by rw [eF0]; exact List.mem_append_left _ hb); omega
  have nb1 : w.heap.size ∉ R0 := fun hb => by have := hlt _ (by rw [eF0]; exact (List.mem_append_right _ hb)); omega
  have sub0 : ∀ x ∈ F0, x ∈ F := fun x hb => by rw [eF0]; exact List.mem_append_left _ hb
  have sub1 : ∀ x ∈ R0, x ∈ F := fun x hb => by rw [eF0]; exact (List.mem_append_right _ hb)
  have on : Only F w W := Only.of_below bel
  have HW := Lib.hid hW
  have HEF : Hid (F = (F0 ++ R0)) := Lib.hid (by rw [eF0])
  clear hW h hz hc bel hlt hz0 hz1 eF0
  go_enter Try.func54, Try.ntmps54
  go_wp2_with fail
  rw [← HW.out]
  refine (markK_ints _ _ k F0 _ o0 Z0.out (by omega) (by omega)).mono ?_
  rintro e w1 ⟨he, o0, on0⟩
  rw [HZ0.out] at he
  replace o1 := o1.only on0 y0
  replace r := Row.only r on0 nb0
  replace on := on.trans (on0.wider sub0)
  clear on0
  obtain ⟨k0, hk0⟩ : ∃ l, k + (z0 : Int) = l := ⟨_, rfl⟩
  rw [hk0] at he
  have l0 : 0 ≤ k0 := by omega
  have u0 : k0  + (z1 : Int) ≤ 1099511627776 := by omega
  subst he
  have HK0 := Lib.hid hk0
  clear hk0
  have c1_0 : w1.cell? ⟨w.heap.size, 1, none⟩ = some (v1) := r.cell 1
  go_wp2_with fail
  clear c1_0
  refine (markK_ints _ _ k0 R0 _ o1 Z1.out (by omega) (by omega)).mono ?_
  rintro e w2 ⟨he, o1, on1⟩
  rw [HZ1.out] at he
  replace o0 := o0.only on1 x0
  replace r := Row.only r on1 nb1
  replace on := on.trans (on1.wider sub1)
  clear on1
  obtain ⟨k1, hk1⟩ : ∃ l, k0 + (z1 : Int) = l := ⟨_, rfl⟩
  rw [hk1] at he
  have l1 : 0 ≤ k1 := by omega
  have u1 : k1  ≤ 1099511627776 := by omega
  subst he
  have HK1 := Lib.hid hk1
  clear hk1
  have F1 : AnsMarkF w sRule [v0, v1] d k F (.returned (.int .i64 k1)) w2 := by
    refine ⟨congrArg (fun z => Ending.returned (.int .i64 z)) ?_, ?_, on⟩
    · rw [HC.out]; have := HK0.out; have := HK1.out; omega
    · rw [HEF.out]
      have e0 : k0 = k + (cntv sI d.1 : Int) := by have := HK0.out; have := HZ0.out; omega
      rw [e0] at o1
      exact (Ow.join o0 o1)
  have HF := Lib.hid F1
  clear F1 on r o0 o1
  go_wp2
  go_ret
  exact HF.out

set_option maxHeartbeats 2000000 in
theorem heldK_Rule (v0 v1 : Value) (d : Dat sRule) (k : Int) (w : World) (h : Rd w w.heap.size sRule [v0, v1] (mkv sRule k d)) (hz : sz sRule d ≤ 1048576) (hk0 : 0 ≤ k) (hk : k + (cntv sRule d : Int) ≤ 1099511627776) :
    Calls Try.prog 55 #[.agg #[v0, v1], .int .i64 k] w (AnsHeld w (k + (cntv sRule d : Int))) := by
  obtain ⟨g0, g1⟩ := parts_Rule h
  have G0 : Hid (Rd w w.heap.size sI [v0] (mkv sI k d.1)) := Lib.hid g0
  obtain ⟨z0, hz0⟩ : ∃ z, cntv sI d.1 = z := ⟨_, rfl⟩
  have G1 : Hid (Rd w w.heap.size sI [v1] (mkv sI (k + (cntv sI d.1 : Int)) d.2)) := Lib.hid g1
  obtain ⟨z1, hz1⟩ : ∃ z, cntv sI d.2 = z := ⟨_, rfl⟩
  have hc : (cntv sRule d : Int) = (z0 : Int) + (z1 : Int) := by rw [← hz0, ← hz1]; first | done | (simp only [cntv]; try omega)
  have Z0 : Hid (sz sI d.1 ≤ 1048576) := Lib.hid (by have := hz; simp only [sz] at this ⊢; omega)
  have HZ0 := Lib.hid hz0
  rw [hz0] at G1
  have Z1 : Hid (sz sI d.2 ≤ 1048576) := Lib.hid (by have := hz; simp only [sz] at this ⊢; omega)
  have HZ1 := Lib.hid hz1
  rw [hc] at hk ⊢
  have r := Row.new w 35 #[v0, v1]
  have bel : Below w.heap.size w (w.alloc (.cells #[v0, v1] 35)) := (Below.refl _ _).alloc (Nat.le_refl _) _
  obtain ⟨W, hW⟩ : ∃ W, W = w.alloc (.cells #[v0, v1] 35) := ⟨_, rfl⟩
  rw [← hW] at r bel
  have HW := Lib.hid hW
  clear hW h hz hc g0 g1 hz0 hz1
  go_enter Try.func55, Try.ntmps55
  go_wp2_with fail
  rw [← HW.out]
  refine (heldK_ints _ d.1 k W (by refine (G0.out.next bel)) Z0.out (by omega) (by omega)).mono ?_
  rintro e w1 ⟨he, bb⟩
  rw [HZ0.out] at he
  replace r := r.next bb
  replace bel := next_trans bel bb
  clear bb
  obtain ⟨k0, hk0⟩ : ∃ l, k + (z0 : Int) = l := ⟨_, rfl⟩
  have he2 : e = .returned (.int .i64 k0) := by rw [he]; exact congrArg (fun z => Ending.returned (.int .i64 z)) (by omega)
  clear he
  have l0 : 0 ≤ k0 := by omega
  have u0 : k0  + (z1 : Int) ≤ 1099511627776 := by omega
  subst he2
  have HK0 := Lib.hid hk0
  clear hk0
  have c1_0 : w1.cell? ⟨w.heap.size, 1, none⟩ = some (v1) := r.cell 1
  go_wp2_with fail
  clear c1_0
  refine (heldK_ints _ d.2 k0 w1 (by rw [← HK0.out]; refine (G1.out.next bel)) Z1.out (by omega) (by omega)).mono ?_
  rintro e w2 ⟨he, bb⟩
  rw [HZ1.out] at he
  replace r := r.next bb
  replace bel := next_trans bel bb
  clear bb
  obtain ⟨k1, hk1⟩ : ∃ l, k + (z0 : Int) + (z1 : Int) = l := ⟨_, rfl⟩
  have he2 : e = .returned (.int .i64 k1) := by rw [he]; exact congrArg (fun z => Ending.returned (.int .i64 z)) (by have := HK0.out; omega)
  clear he
  have l1 : 0 ≤ k1 := by omega
  have u1 : k1  ≤ 1099511627776 := by omega
  subst he2
  have HK1 := Lib.hid hk1
  clear hk1
  have F : AnsHeld w (k + ((z0 : Int) + (z1 : Int))) (.returned (.int .i64 k1)) w2 := ⟨congrArg (fun z => Ending.returned (.int .i64 z)) (by have := HK1.out; omega), bel⟩
  have HF := Lib.hid F
  clear F r bel
  go_wp2
  go_ret
  exact HF.out

abbrev sRuleS : Sh := .row 35 sRule
set_option maxHeartbeats 2000000 in
theorem szK_RuleS (v : Value) (D : List (Dat sRule)) (left : Int) (w : World) (h : Rd w w.heap.size sRuleS [v] D) (h0 : 0 ≤ left) (h1 : left ≤ 1048576) :
    Calls Try.prog 84 #[v, .int .i64 left] w (AnsSzK w left (sz sRuleS D)) := by
  obtain ⟨A, c, rfl, hcap⟩ := h.slice
  obtain ⟨n, hn⟩ : ∃ n, D.length = n := ⟨_, rfl⟩
  rw [hn] at h hcap ⊢
  have hmax : n ≤ 9223372036854775807 := Nat.le_trans hcap.1 hcap.2.1
  have HN := Lib.hid hn
  have H := Lib.hid h
  clear hcap hn h
  by_cases hs : left - n < 0
  · have S : AnsSzK w left (sz sRuleS D) (.returned (.int .i64 (-1))) w := ⟨by rw [if_pos (by rw [sz_row, HN.out]; omega)], Below.refl _ _⟩
    have HS := Lib.hid S
    clear S
    go_enter Try.func84, Try.ntmps84
    go_wp2
    go_ret
    exact HS.out
  go_enter Try.func84, Try.ntmps84
  go_wp2
  go_loopw [1, 5] (fun l i wr => HeadSzK w n sRule D left l i wr) (fun _ i _ => n - (intOf i).toNat)
  case atStart => exact headSzK_zero (by omega)
  case round =>
    obtain ⟨k, hk, rfl, rfl, hge, hb⟩ := hrel
    by_cases hlt : k < n
    · obtain ⟨b, off, n2, c2, es, ev, -, -, hbB, hel, hp, hr⟩ := H.out.elem (j := k) (by rw [HN.out]; exact hlt)
      injection ev with e1 e2 e3
      subst e1 e2 e3
      obtain ⟨v0, v1, rfl⟩ := cells_Rule hr
      have hpw := hp.keep (w' := wr) (fun p hp => hb.cell (p := p) (by rw [hp]; exact hbB))
      have c0 : wr.cell? ⟨b, off + k * 2, none⟩ = some (v0) := hpw 0 (by simp)
      have c1 : wr.cell? ⟨b, off + k * 2 + 1, none⟩ = some (v1) := hpw 1 (by simp)
      obtain ⟨t, ht⟩ : ∃ t, sz sRule (D.getD k (dft sRule)) = t := ⟨_, rfl⟩
      obtain ⟨l, hl⟩ : ∃ l, left - n - szs sRule D k = l := ⟨_, rfl⟩
      have hsum := szs_succ (s := sRule) (d := D) (k := k) (by rw [HN.out]; exact hlt)
      rw [ht] at hsum
      rw [hl] at hge ⊢
      have hle : l ≤ 1048576 := by omega
      have L := Lib.hid (szK_Rule _ _ (D.getD k (dft sRule)) l wr ((hr.below hb).more hb.size) hge hle)
      rw [ht] at L
      have BAD := Lib.hid (fun (q : l - (t : Int) < 0) => headSzK_bad (e := 35) (D := D) (left := left) HN.out hlt hsum (by rw [hl]; exact q))
      have GOOD := Lib.hid (fun (q : ¬ l - (t : Int) < 0) (w1 : World) (hb : Below w.heap.size w w1) => headSzK_step (D := D) (left := left) (l := l) hlt hsum hl q hb)
      have HB := Lib.hid hb
      clear hr hel hp hpw ht hl hsum hb
      go_wp2_with fail
      refine L.out.mono ?_
      rintro e w1 ⟨he, bb⟩
      by_cases q : l - (t : Int) < 0
      · rw [if_pos q] at he
        subst he
        have F : AnsSzK w left (sz sRuleS D) (.returned (.int .i64 (-1))) w1 := ⟨BAD.out (by omega), next_trans HB.out bb⟩
        have HF := Lib.hid F
        clear F bb L GOOD BAD
        go_wp2
        go_ret
        exact HF.out
      · rw [if_neg q] at he
        subst he
        have F := Lib.hid (GOOD.out (by omega) w1 (next_trans HB.out bb))
        clear bb L GOOD BAD
        go_wp2
        go_roundw
        case rel => exact F.out
        case measure => simp [intOf]; omega
    · have F := Lib.hid (headSzK_end (e := 35) HN.out hlt hk hge hb)
      clear hge hb
      go_wp2
      go_ret
      exact F.out

theorem info_RuleS : (Try.prog.info? 35).map (fun i => (i.zero, i.size, i.bytes)) = some (some (.agg #[.slice none 0 0, .slice none 0 0]), 2, 48) := by kernel_rfl
theorem make_RuleS (n : Nat) (hn : n ≤ 1048576) (W : World) : (Instr.makeSlice 27 (.int .i64 (n : Int)) (.int .i64 (n : Int))).run Try.prog W =
    .ok (.slice (some ⟨W.heap.size, 0, none⟩) n n) (W.alloc (.cells (madeCells #[.slice none 0 0, .slice none 0 0] (n * 2)) 35)) := by
  obtain ⟨i0, hi, hz0, hz1, hz2⟩ := info_parts info_RuleS
  have hr := run_make (P := Try.prog) W 27 35 i0 _ Try.underlying27 hi hz0 .i64 .i64 n n (by omega) (by omega) (by rw [hz2]; omega) (by omega)
  simpa [hz1, Value.cells] using hr
set_option maxHeartbeats 2000000 in
theorem toK_RuleS (v : Value) (D : List (Dat sRule)) (w : World) (h : Rd w w.heap.size sRuleS [v] D) (hz : sz sRuleS D ≤ 1048576) :
    Calls Try.prog 85 #[v] w (Copy1 w sRuleS D) := by
  obtain ⟨A, c, rfl, hcap⟩ := h.slice
  obtain ⟨n, hn⟩ : ∃ n, D.length = n := ⟨_, rfl⟩
  have hn1 : n ≤ 1048576 := by rw [← hn]; exact sz_len hz
  rw [hn] at h hcap ⊢
  have HN := Lib.hid hn
  have H := Lib.hid h
  have HZ := Lib.hid hz
  clear hcap hn h hz
  have hmk := make_RuleS n hn1
  have S0 := Lib.hid (headCp_zero (s := sRule) (e := 35) (w := w) (n := n) (D := D) (cs := madeCells #[.slice none 0 0, .slice none 0 0] (n * 2)) (size_madeCells _ _))
  go_enter Try.func85, Try.ntmps85
  go_wp2
  clear hmk
  go_loopw [4] (fun i wr => HeadCp w 35 sRule n D i wr) (fun i _ => n - (intOf i).toNat)
  case atStart => exact S0.out
  case round =>
    obtain ⟨k, ks, E, G, hk, rfl, hr, hs, hnd, hi, hb⟩ := hrel
    clear S0
    by_cases hlt : k < n
    · have hkD : k < D.length := by rw [HN.out]; exact hlt
      obtain ⟨b, off, n2, c2, es, ev, -, -, hbB, hel, hp, hrd⟩ := H.out.elem hkD
      injection ev with e1 e2 e3
      subst e1 e2 e3
      obtain ⟨v0, v1, rfl⟩ := cells_Rule hrd
      have hpw := hp.keep (w' := wr) (fun p hp => hb.cell (p := p) (by rw [hp]; exact hbB))
      have c0 : wr.cell? ⟨b, off + k * 2, none⟩ = some (v0) := hpw 0 (by simp)
      have c1 : wr.cell? ⟨b, off + k * 2 + 1, none⟩ = some (v1) := hpw 1 (by simp)
      have L := Lib.hid (toK_Rule _ _ (D.getD k (dft sRule)) wr ((hrd.below hb).more hb.size) (sz_each HZ.out hkD))
      have R := Lib.hid (fun w1 xA0 xn0 xc0 xA1 xn1 xc1 ho bb => headCp_step (w1 := w1) (es := [.slice xA0 xn0 xc0, .slice xA1 xn1 xc1]) hlt hr hs hnd hi hb ho bb)
      have rr := hr
      have hsz : ks.size = n * 2 := hs
      have HS := Lib.hid hsz
      clear hr hs hnd hi hb hrd hel hp hpw hsz
      go_wp2_with fail
      refine L.out.mono ?_
      rintro e w1 ⟨xA0, xn0, xc0, xA1, xn1, xc1, rfl, ho, bb⟩
      have S := Lib.hid (R.out w1 xA0 xn0 xc0 xA1 xn1 xc1 ho bb)
      have rr1 := rr.next bb
      obtain ⟨u0, hu0⟩ : ∃ u, w1.cell? ⟨w.heap.size, k * 2, none⟩ = some u := ⟨_, (rr1.cell _).trans (Array.getElem?_eq_getElem (by rw [HS.out]; omega))⟩
      have hf0 : w1.frozen? ⟨w.heap.size, k * 2, none⟩ = false := rr1.free _
      obtain ⟨u1, hu1⟩ : ∃ u, w1.cell? ⟨w.heap.size, k * 2 + 1, none⟩ = some u := ⟨_, (rr1.cell _).trans (Array.getElem?_eq_getElem (by rw [HS.out]; omega))⟩
      have hf1 : w1.frozen? ⟨w.heap.size, k * 2 + 1, none⟩ = false := rr1.free _
      clear ho bb rr rr1 L R
      go_wp2
      go_roundw
      case rel => exact S.out
      case measure => simp [intOf]; omega
    · have e1 : k = n := by omega
      subst e1
      have F := Lib.hid (headCp_end HN.out hn1 hr hs hnd hi hb)
      clear hr hs hnd hi hb
      go_wp2
      go_ret
      exact F.out

set_option maxHeartbeats 2000000 in
theorem eqK_RuleS (v u : Value) (D : List (Dat sRule)) (w : World) (h : Rd w w.heap.size sRuleS [v] D) (h' : Rd w w.heap.size sRuleS [u] D) (hz : sz sRuleS D ≤ 1048576) :
    Calls Try.prog 86 #[v, u] w (Yes w) := by
  obtain ⟨A, c, rfl, hcap⟩ := h.slice
  obtain ⟨A', c', rfl, hcap'⟩ := h'.slice
  obtain ⟨n, hn⟩ : ∃ n, D.length = n := ⟨_, rfl⟩
  have hn1 : n ≤ 1048576 := by rw [← hn]; exact sz_len hz
  rw [hn] at h h' hcap hcap' ⊢
  have HN := Lib.hid hn
  have H := Lib.hid h
  have H' := Lib.hid h'
  have HZ := Lib.hid hz
  clear hcap hcap' hn h h' hz
  go_enter Try.func86, Try.ntmps86
  go_wp2
  go_loopw [5] (fun i wr => ∃ k : Nat, k ≤ n ∧ i = .int .i64 k ∧ Below w.heap.size w wr) (fun i _ => n - (intOf i).toNat)
  case atStart => exact ⟨0, Nat.zero_le _, rfl, Below.refl _ _⟩
  case round =>
    obtain ⟨k, hk, rfl, hb⟩ := hrel
    by_cases hlt : k < n
    · have hkD : k < D.length := by rw [HN.out]; exact hlt
      obtain ⟨b, off, n2, c2, es, ev, -, -, hbB, hel, hp, hrd⟩ := H.out.elem hkD
      injection ev with e1 e2 e3
      subst e1 e2 e3
      obtain ⟨b', off', n2, c2, es', ev, -, -, hbB', hel', hp', hrd'⟩ := H'.out.elem hkD
      injection ev with e1 e2 e3
      subst e1 e2 e3
      obtain ⟨v0, v1, rfl⟩ := cells_Rule hrd
      obtain ⟨u0, u1, rfl⟩ := cells_Rule hrd'
      replace hb := hb.drew
      have hpw := hp.keep (w' := wr.drew) (fun p hp => hb.cell (p := p) (by rw [hp]; exact hbB))
      have hpw' := hp'.keep (w' := wr.drew) (fun p hp => hb.cell (p := p) (by rw [hp]; exact hbB'))
      have c0 : wr.drew.cell? ⟨b, off + k * 2, none⟩ = some (v0) := hpw 0 (by simp)
      have c0' : wr.drew.cell? ⟨b', off' + k * 2, none⟩ = some (u0) := hpw' 0 (by simp)
      have c1 : wr.drew.cell? ⟨b, off + k * 2 + 1, none⟩ = some (v1) := hpw 1 (by simp)
      have c1' : wr.drew.cell? ⟨b', off' + k * 2 + 1, none⟩ = some (u1) := hpw' 1 (by simp)
      have L := Lib.hid (eqK_Rule _ _ _ _ (D.getD k (dft sRule)) wr.drew ((hrd.below hb).more hb.size) ((hrd'.below hb).more hb.size) (sz_each HZ.out hkD))
      have HB := Lib.hid hb
      have hlb : b < wr.drew.heap.size := Nat.lt_of_lt_of_le hbB hb.size
      have hlb' : b' < wr.drew.heap.size := Nat.lt_of_lt_of_le hbB' hb.size
      clear hrd hrd' hel hel' hp hp' hpw hpw' hb
      go_wp2_with fail
      go_region_held3 (fun w' => w'.cell? ⟨b, off + k * 2, none⟩ = some (v0) ∧ w'.cell? ⟨b', off' + k * 2, none⟩ = some (u0) ∧ w'.cell? ⟨b, off + k * 2 + 1, none⟩ = some (v1) ∧ w'.cell? ⟨b', off' + k * 2 + 1, none⟩ = some (u1))
        (go_keep)
        (first | (go_at_call 43; refine L.out.mono ?_; rintro e w1 ⟨rfl, bb⟩; have m0 := (bb.cell (p := ⟨b, off + k * 2, none⟩) hlb).trans c0; have m1 := (bb.cell (p := ⟨b', off' + k * 2, none⟩) hlb').trans c0'; have m2 := (bb.cell (p := ⟨b, off + k * 2 + 1, none⟩) hlb).trans c1; have m3 := (bb.cell (p := ⟨b', off' + k * 2 + 1, none⟩) hlb').trans c1'))
      have HB1 := Lib.hid (next_trans HB.out bb)
      clear bb L c0 c0' c1 c1' m0 m1 m2 m3
      go_wp2
      go_roundw
      case rel => exact ⟨k + 1, hlt, by simp, HB1.out⟩
      case measure => simp [intOf]; omega
    · have HB := Lib.hid hb
      clear hb
      go_wp2
      go_ret
      exact ⟨rfl, HB.out⟩

set_option maxHeartbeats 2000000 in
theorem markK_RuleS (v : Value) (D : List (Dat sRule)) (k : Int) (F : List Nat) (w : World) (h : Ow w sRuleS [v] D F) (hF : F.Nodup) (hz : sz sRuleS D ≤ 1048576) (hk0 : 0 ≤ k) (hk : k + (cntv sRuleS D : Int) ≤ 1099511627776) :
    Calls Try.prog 88 #[v, .int .i64 k] w (AnsMarkF w sRuleS [v] D k F) := by
  obtain ⟨A, c, rfl, hcap⟩ := h.rd.slice
  have hn1 := sz_len hz
  obtain ⟨n, hn⟩ : ∃ n, D.length = n := ⟨_, rfl⟩
  rw [hn] at h hcap hn1 ⊢
  have HN := Lib.hid hn
  have HZ := Lib.hid hz
  have S0 := Lib.hid (headMk_zero (k := k) h)
  clear h hcap hn hz
  go_enter Try.func88, Try.ntmps88
  go_wp2
  go_loopw [1, 5] (fun kk i wr => HeadMk w 35 sRule (.slice A n c) D k F kk i wr) (fun _ i _ => n - (intOf i).toNat)
  case atStart => exact S0.out
  case round =>
    obtain ⟨j, hj, rfl, rfl, ho, hb⟩ := hrel
    clear S0
    rw [HN.out] at hj
    by_cases hlt : j < n
    · have hjD : j < D.length := by rw [HN.out]; exact hlt
      obtain ⟨g, n2, c2, es, Gj, ev, -, hel, hp, hg, oe, ng, gG, sub, R⟩ := ho.elem' hF (j := j) (by rw [mixed_len]; exact hjD)
      injection ev with e1 e2 e3
      subst e1 e2 e3
      rw [mixed_get hjD] at oe
      obtain ⟨v0, v1, rfl⟩ := cells_Rule oe.rd
      obtain ⟨F0, R0, eF0, o0, o1⟩ := Ow.split (ca := [v0]) (cb := [v1]) oe rfl
      rw [eF0] at ng
      obtain ⟨n0, nr0, x0, y0⟩ := dis_app ng
      have g0 : g ∉ F0 := fun hb => gG (by rw [eF0]; exact List.mem_append_left _ hb)
      have g1 : g ∉ R0 := fun hb => gG (by rw [eF0]; exact (List.mem_append_right _ hb))
      have sub0 : ∀ x ∈ F0, x ∈ Gj := fun x hb => by rw [eF0]; exact List.mem_append_left _ hb
      have sub1 : ∀ x ∈ R0, x ∈ Gj := fun x hb => by rw [eF0]; exact (List.mem_append_right _ hb)
      obtain ⟨z0, hz0⟩ : ∃ z, cntv sI ((D.getD j (dft sRule)).1) = z := ⟨_, rfl⟩
      obtain ⟨z1, hz1⟩ : ∃ z, cntv sI ((D.getD j (dft sRule)).2) = z := ⟨_, rfl⟩
      have hzz : cnt sRule (D.getD j (dft sRule)) = z0 + z1 := by rw [← hz0, ← hz1]; rfl
      have hcn := headMk_cnt (e := 35) hjD
      rw [hzz] at hcn
      obtain ⟨q, hq⟩ : ∃ q, k + (cnts sRule D j : Int) = q := ⟨_, rfl⟩
      have q0 : 0 ≤ q := by omega
      have q1 : q + (z0 : Int) + (z1 : Int) ≤ 1099511627776 := by have : (cntv sRuleS D : Int) = (cntv (.row 35 sRule) D : Nat) := rfl; omega
      have Z0 : Hid (sz sI ((D.getD j (dft sRule)).1) ≤ 1048576) := Lib.hid (by have := sz_each HZ.out hjD; simp only [sz] at this ⊢; omega)
      have HZ0 := Lib.hid hz0
      have Z1 : Hid (sz sI ((D.getD j (dft sRule)).2) ≤ 1048576) := Lib.hid (by have := sz_each HZ.out hjD; simp only [sz] at this ⊢; omega)
      have HZ1 := Lib.hid hz1
      rw [hq]
      have HEF : Hid (Gj = (F0 ++ R0)) := Lib.hid (by rw [eF0])
      have HR := Lib.hid R
      have HB := Lib.hid hb
      have HQ := Lib.hid hq
      have HZZ := Lib.hid hzz
      have SUB := Lib.hid sub
      have on : Only Gj wr wr := Only.refl _ _
      have c0 : wr.cell? ⟨g, j * 2, none⟩ = some (v0) := by simpa [nc] using hp 0 (by simp)
      have c1 : wr.cell? ⟨g, j * 2 + 1, none⟩ = some (v1) := by simpa [nc] using hp 1 (by simp)
      clear R hb hq hzz hcn ho oe sub hp hel gG hz0 hz1 eF0
      go_wp2_with fail
      refine (markK_ints _ _ q F0 _ o0 Z0.out (by omega) (by omega)).mono ?_
      rintro e w1 ⟨he, o0, on0⟩
      rw [HZ0.out] at he
      replace o1 := o1.only on0 y0
      have hgl : g < wr.heap.size := Nat.lt_of_lt_of_le hg on.size
      replace c0 := (World.cell?_of_block (a := ⟨g, j * 2, none⟩) (on0.block g hgl g0)).trans c0
      replace c1 := (World.cell?_of_block (a := ⟨g, j * 2 + 1, none⟩) (on0.block g hgl g0)).trans c1
      replace on := on.trans (on0.wider sub0)
      clear on0 hgl
      obtain ⟨k0, hk0⟩ : ∃ l, q + (z0 : Int) = l := ⟨_, rfl⟩
      rw [hk0] at he
      have l0 : 0 ≤ k0 := by omega
      have u0 : k0  + (z1 : Int) ≤ 1099511627776 := by omega
      subst he
      have HK0 := Lib.hid hk0
      clear hk0
      go_wp2_with fail
      refine (markK_ints _ _ k0 R0 _ o1 Z1.out (by omega) (by omega)).mono ?_
      rintro e w2 ⟨he, o1, on1⟩
      rw [HZ1.out] at he
      replace o0 := o0.only on1 x0
      have hgl : g < w1.heap.size := Nat.lt_of_lt_of_le hg on.size
      replace c0 := (World.cell?_of_block (a := ⟨g, j * 2, none⟩) (on1.block g hgl g1)).trans c0
      replace c1 := (World.cell?_of_block (a := ⟨g, j * 2 + 1, none⟩) (on1.block g hgl g1)).trans c1
      replace on := on.trans (on1.wider sub1)
      clear on1 hgl
      obtain ⟨k1, hk1⟩ : ∃ l, k0 + (z1 : Int) = l := ⟨_, rfl⟩
      rw [hk1] at he
      have l1 : 0 ≤ k1 := by omega
      have u1 : k1  ≤ 1099511627776 := by omega
      subst he
      have HK1 := Lib.hid hk1
      clear hk1
      have e0 : k0 = q + (cntv sI ((D.getD j (dft sRule)).1) : Int) := by have := HK0.out; have := HZ0.out; omega
      rw [e0] at o1
      have S : HeadMk w 35 sRule (.slice (some ⟨g, 0, none⟩) n c) D k F (.int .i64 k1) (.int .i64 ((j : Int) + 1)) w2 := by
        have h1 := HR.out w2 (mkc sRule q (D.getD j (dft sRule))) (by rw [HEF.out]; exact (Ow.join o0 o1)) on
        have h2 := headMk_step (z := z0 + z1) hjD HB.out (on.wider SUB.out) HZZ.out (by rw [HQ.out]) h1
        have h3 : k + (cnts sRule D j : Int) + ((z0 + z1 : Nat) : Int) = k1 := by have := HQ.out; have := HK0.out; have := HK1.out; omega
        rw [h3] at h2
        exact h2
      have HS := Lib.hid S
      clear S on o0 o1 c0 c1 e0
      go_wp2
      go_roundw
      case rel => exact HS.out
      case measure => simp [intOf]; omega
    · have F1 := Lib.hid (headMk_end (by rw [HN.out]; exact hlt) (by rw [HN.out]; exact hj) ho hb)
      clear ho hb
      generalize cnts sRule D j = z at *
      go_wp2
      go_ret
      exact F1.out

abbrev sSystem : Sh := .cat sSig sRuleS
theorem parts_System {w : World} {B : Nat} {v0 v1 : Value} {d : Dat sSystem} (h : Rd w B sSystem [v0, v1] d) : Rd w B sSig [v0] d.1 ∧ Rd w B sRuleS [v1] d.2 := by
  obtain ⟨p0, q0⟩ := Rd.split (ca := [v0]) (cb := [v1]) h rfl
  exact ⟨p0, q0⟩
theorem join_System {w : World} {lo hi : Nat} {v0 v1 : Value} {d : Dat sSystem} {m0 m1 m2 : Nat} (o0 : Owned w m0 m1 sSig [v0] d.1) (o1 : Owned w m1 m2 sRuleS [v1] d.2) (l0 : m0 ≤ m1) (l1 : m1 ≤ m2) (hl : lo ≤ m0) (hh : m2 ≤ hi) : Owned w lo hi sSystem [v0, v1] d := by
  exact ((Owned.cat o0 o1 (Nat.le_refl _) (by omega) (by omega)) : Owned w m0 m2 sSystem [v0, v1] d).wider hl hh
theorem cells_System {w : World} {B : Nat} {es : List Value} {d : Dat sSystem} (h : Rd w B sSystem es d) : ∃ (v0 : Value) (v1 : Value), es = [v0, v1] := by
  obtain ⟨ca0, cb0, e0, p0, q0⟩ := h
  obtain ⟨u0, z0⟩ := cells_Sig p0
  obtain ⟨A1, n1, c1, z1, -⟩ := q0
  exact ⟨u0, .slice A1 n1 c1, by rw [e0, z0, z1] <;> rfl⟩

set_option maxHeartbeats 2000000 in
theorem szK_System (v0 v1 : Value) (d : Dat sSystem) (left : Int) (w : World) (h : Rd w w.heap.size sSystem [v0, v1] d) (h0 : 0 ≤ left) (h1 : left ≤ 1048576) :
    Calls Try.prog 44 #[.agg #[v0, v1], .int .i64 left] w (AnsSzK w left (sz sSystem d)) := by
  obtain ⟨g0, g1⟩ := parts_System h
  obtain ⟨t0, ht0⟩ : ∃ t, sz sSig d.1 = t := ⟨_, rfl⟩
  obtain ⟨t1, ht1⟩ : ∃ t, sz sRuleS d.2 = t := ⟨_, rfl⟩
  have HE : Hid (sz sSystem d = t0 + t1) := Lib.hid (by rw [← ht0, ← ht1]; simp only [sz]; try omega)
  have HT0 := Lib.hid ht0
  have G0 := Lib.hid g0
  have HT1 := Lib.hid ht1
  have G1 := Lib.hid g1
  obtain ⟨W, hW⟩ : ∃ W, W = w.alloc (.cells #[v0, v1] 51) := ⟨_, rfl⟩
  have r : Row W w.heap.size 51 #[v0, v1] := by rw [hW]; exact Row.new _ _ _
  have bel : Below w.heap.size w W := by rw [hW]; exact (Below.refl _ _).alloc (Nat.le_refl _) _
  have HW := Lib.hid hW
  clear hW h g0 g1 ht0 ht1
  go_enter Try.func44, Try.ntmps44
  go_wp2_with fail
  rw [← HW.out]
  refine (szK_Sig _ _ left W (G0.out.next bel) h0 h1).mono ?_
  rintro e w1 ⟨he, bb⟩
  rw [HT0.out] at he
  replace r := r.next bb
  replace bel := next_trans bel bb
  clear bb
  by_cases q0 : left - (t0 : Int) < 0
  · rw [if_pos q0] at he
    subst he
    have F : AnsSzK w left (sz sSystem d) (.returned (.int .i64 (-1))) w1 := ⟨by rw [HE.out, if_pos (by omega)], bel⟩
    have HF := Lib.hid F
    clear F bel r
    go_wp2
    go_ret
    exact HF.out
  rw [if_neg q0] at he
  obtain ⟨l0, hl0⟩ : ∃ l, left - (t0 : Int) = l := ⟨_, rfl⟩
  rw [hl0] at he
  have a0 : 0 ≤ l0 := by omega
  have b0 : l0 ≤ 1048576 := by omega
  have HL0 := Lib.hid hl0
  clear hl0 q0
  subst he
  have c0_0 : w1.cell? ⟨w.heap.size, 1, none⟩ = some (v1) := r.cell 1
  go_wp2_with fail
  refine (szK_RuleS _ _ l0 w1 (G1.out.next bel) a0 b0).mono ?_
  rintro e w2 ⟨he, bb⟩
  rw [HT1.out] at he
  replace r := r.next bb
  replace bel := next_trans bel bb
  clear bb
  by_cases q1 : l0 - (t1 : Int) < 0
  · rw [if_pos q1] at he
    subst he
    have F : AnsSzK w left (sz sSystem d) (.returned (.int .i64 (-1))) w2 := ⟨by have := HL0.out; rw [HE.out, if_pos (by omega)], bel⟩
    have HF := Lib.hid F
    clear F bel r
    go_wp2
    go_ret
    exact HF.out
  rw [if_neg q1] at he
  obtain ⟨l1, hl1⟩ : ∃ l, l0 - (t1 : Int) = l := ⟨_, rfl⟩
  rw [hl1] at he
  have a1 : 0 ≤ l1 := by omega
  have b1 : l1 ≤ 1048576 := by omega
  have HL1 := Lib.hid hl1
  clear hl1 q1
  subst he
  have F : AnsSzK w left (sz sSystem d) (.returned (.int .i64 l1)) w2 := ⟨by have := HL0.out; have := HL1.out; rw [HE.out, if_neg (by omega)]; exact congrArg (fun z => Ending.returned (.int .i64 z)) (by omega), bel⟩
  have HF := Lib.hid F
  clear F bel r
  go_wp2
  go_ret
  exact HF.out

def CopySystem (w : World) (d : Dat sSystem) (e : Ending) (w' : World) : Prop := ∃ A0 n0 c0 A1 n1 c1, e = .returned (.agg #[.slice A0 n0 c0, .slice A1 n1 c1]) ∧ Owned w' w.heap.size w'.heap.size sSystem [.slice A0 n0 c0, .slice A1 n1 c1] d ∧ Below w.heap.size w w'
set_option maxHeartbeats 2000000 in
theorem toK_System (v0 v1 : Value) (d : Dat sSystem) (w : World) (h : Rd w w.heap.size sSystem [v0, v1] d) (hz : sz sSystem d ≤ 1048576) :
    Calls Try.prog 45 #[.agg #[v0, v1]] w (CopySystem w d) := by
  obtain ⟨g0, g1⟩ := parts_System h
  have cp0 := CpS.zero w 51 29 #[v0, v1] #[.slice none 0 0, .slice none 0 0]
  obtain ⟨W, hW⟩ : ∃ W, W = ((w.alloc (.cells #[v0, v1] 51)).alloc (.cells #[.slice none 0 0, .slice none 0 0] 29)).alloc (.cells #[.slice none 0 0, .slice none 0 0] 29) := ⟨_, rfl⟩
  rw [← hW] at cp0
  have HW := Lib.hid hW
  have G0 := Lib.hid g0
  have Z0 : Hid (sz sSig d.1 ≤ 1048576) := Lib.hid (by have := hz; simp only [sz] at this ⊢; omega)
  have G1 := Lib.hid g1
  have Z1 : Hid (sz sRuleS d.2 ≤ 1048576) := Lib.hid (by have := hz; simp only [sz] at this ⊢; omega)
  clear hW hz h g0 g1
  go_enter Try.func45, Try.ntmps45
  go_wp2_with fail
  rw [← HW.out]
  refine (toK_Sig _ _ _ ((G0.out.below cp0.bel).more cp0.bel.size) Z0.out).mono ?_
  rintro e w1 ⟨x0A0, x0n0, x0c0, rfl, o0, bb⟩
  have zb0 := bb.size
  have zc0 := cp0.size
  replace cp0 := cp0.next bb
  clear bb
  have f0_0 : w1.frozen? ⟨w.heap.size + 1 + 1, 0, none⟩ = false := cp0.cur.free 0
  have k0_0 : w1.cell? ⟨w.heap.size + 1 + 1, 0, none⟩ = some (.slice none 0 0) := cp0.cur.cell 0
  obtain ⟨w2, hw0⟩ : ∃ x, x = (w1.setCell ⟨w.heap.size + 1 + 1, 0, none⟩ (.slice x0A0 x0n0 x0c0)) := ⟨_, rfl⟩
  replace o0 := o0.put (g := w.heap.size + 1 + 1) (i := 0) (u := .slice x0A0 x0n0 x0c0) (by omega)
  rw [← hw0] at o0
  replace cp0 : CpS w 51 29 #[v0, v1] #[.slice none 0 0, .slice none 0 0] #[.slice x0A0 x0n0 x0c0, .slice none 0 0] w2 := by rw [hw0]; exact (CpS.put cp0 0 (.slice x0A0 x0n0 x0c0))
  have zw0 : w2.heap.size = w1.heap.size := by rw [hw0]; simp
  have HW0 := Lib.hid hw0
  clear hw0
  have d1_0 : w2.cell? ⟨w.heap.size, 1, none⟩ = some (v1) := cp0.box.cell 1
  rw [HW0.out] at d1_0
  go_wp2_with fail
  rw [← HW0.out]
  clear d1_0
  refine (toK_RuleS _ _ _ ((G1.out.below cp0.bel).more cp0.bel.size) Z1.out).mono ?_
  rintro e w3 ⟨x1A0, x1n0, x1c0, rfl, o1, bb⟩
  replace o0 := o0.next bb
  have zb1 := bb.size
  have zc1 := cp0.size
  replace cp0 := cp0.next bb
  clear bb
  have f1_0 : w3.frozen? ⟨w.heap.size + 1 + 1, 1, none⟩ = false := cp0.cur.free 1
  have k1_0 : w3.cell? ⟨w.heap.size + 1 + 1, 1, none⟩ = some (.slice none 0 0) := cp0.cur.cell 1
  obtain ⟨w4, hw1⟩ : ∃ x, x = (w3.setCell ⟨w.heap.size + 1 + 1, 1, none⟩ (.slice x1A0 x1n0 x1c0)) := ⟨_, rfl⟩
  replace o0 := o0.put (g := w.heap.size + 1 + 1) (i := 1) (u := .slice x1A0 x1n0 x1c0) (by omega)
  rw [← hw1] at o0
  replace o1 := o1.put (g := w.heap.size + 1 + 1) (i := 1) (u := .slice x1A0 x1n0 x1c0) (by omega)
  rw [← hw1] at o1
  replace cp0 : CpS w 51 29 #[v0, v1] #[.slice none 0 0, .slice none 0 0] #[.slice x0A0 x0n0 x0c0, .slice x1A0 x1n0 x1c0] w4 := by rw [hw1]; exact (CpS.put cp0 1 (.slice x1A0 x1n0 x1c0))
  have zw1 : w4.heap.size = w3.heap.size := by rw [hw1]; simp
  have HW1 := Lib.hid hw1
  clear hw1
  have y0 : w4.cell? ⟨w.heap.size + 1 + 1, 0, none⟩ = some (.slice x0A0 x0n0 x0c0) := cp0.cur.cell 0
  rw [HW1.out] at y0
  have y1 : w4.cell? ⟨w.heap.size + 1 + 1, 1, none⟩ = some (.slice x1A0 x1n0 x1c0) := cp0.cur.cell 1
  rw [HW1.out] at y1
  have s0 : (w4).cell? ⟨w.heap.size + 1, 0, none⟩ = some (.slice none 0 0) := cp0.res.cell 0
  rw [HW1.out] at s0
  have r0 : (w4).frozen? ⟨w.heap.size + 1, 0, none⟩ = false := cp0.res.free 0
  rw [HW1.out] at r0
  have s1 : ((w4.setCell ⟨w.heap.size + 1, 0, none⟩ (.slice x0A0 x0n0 x0c0))).cell? ⟨w.heap.size + 1, 1, none⟩ = some (.slice none 0 0) := (CpS.fin cp0 0 (.slice x0A0 x0n0 x0c0)).res.cell 1
  rw [HW1.out] at s1
  have r1 : ((w4.setCell ⟨w.heap.size + 1, 0, none⟩ (.slice x0A0 x0n0 x0c0))).frozen? ⟨w.heap.size + 1, 1, none⟩ = false := (CpS.fin cp0 0 (.slice x0A0 x0n0 x0c0)).res.free 1
  rw [HW1.out] at r1
  have oo : Owned w4 (w.heap.size + 1 + 1 + 1) w4.heap.size sSystem [.slice x0A0 x0n0 x0c0, .slice x1A0 x1n0 x1c0] d := join_System (m0 := W.heap.size) (m1 := w2.heap.size) (m2 := w4.heap.size) (o0.wider (Nat.le_refl _) (by omega)) (o1.wider (Nat.le_refl _) (by omega)) (by omega) (by omega) (by omega) (by omega)
  have F : CopySystem w d (.returned (.agg #[.slice x0A0 x0n0 x0c0, .slice x1A0 x1n0 x1c0])) ((w4.setCell ⟨w.heap.size + 1, 0, none⟩ (.slice x0A0 x0n0 x0c0)).setCell ⟨w.heap.size + 1, 1, none⟩ (.slice x1A0 x1n0 x1c0)) := ⟨x0A0, x0n0, x0c0, x1A0, x1n0, x1c0, rfl, Owned.wider (((oo.put (g := w.heap.size + 1) (i := 0) (u := .slice x0A0 x0n0 x0c0) (by omega)).put (g := w.heap.size + 1) (i := 1) (u := .slice x1A0 x1n0 x1c0) (by omega))) (by omega) (by simp), ((CpS.fin (CpS.fin cp0 0 (.slice x0A0 x0n0 x0c0)) 1 (.slice x1A0 x1n0 x1c0))).bel⟩
  have u0 : (((w4.setCell ⟨w.heap.size + 1, 0, none⟩ (.slice x0A0 x0n0 x0c0)).setCell ⟨w.heap.size + 1, 1, none⟩ (.slice x1A0 x1n0 x1c0))).cell? ⟨w.heap.size + 1, 0, none⟩ = some (.slice x0A0 x0n0 x0c0) := (CpS.fin (CpS.fin cp0 0 (.slice x0A0 x0n0 x0c0)) 1 (.slice x1A0 x1n0 x1c0)).res.cell 0
  rw [HW1.out] at u0
  have u1 : (((w4.setCell ⟨w.heap.size + 1, 0, none⟩ (.slice x0A0 x0n0 x0c0)).setCell ⟨w.heap.size + 1, 1, none⟩ (.slice x1A0 x1n0 x1c0))).cell? ⟨w.heap.size + 1, 1, none⟩ = some (.slice x1A0 x1n0 x1c0) := (CpS.fin (CpS.fin cp0 0 (.slice x0A0 x0n0 x0c0)) 1 (.slice x1A0 x1n0 x1c0)).res.cell 1
  rw [HW1.out] at u1
  rw [HW1.out] at F
  have HF := Lib.hid F
  clear F oo cp0 o0 o1
  go_wp2
  exact bodyPost_ret (v := .agg #[.slice x0A0 x0n0 x0c0, .slice x1A0 x1n0 x1c0]) (by simp [results, Try.results45, go_sem, u0, u1]) rfl HF.out

set_option maxHeartbeats 2000000 in
theorem eqK_System (v0 v1 u0 u1 : Value) (d : Dat sSystem) (w : World) (h : Rd w w.heap.size sSystem [v0, v1] d) (h' : Rd w w.heap.size sSystem [u0, u1] d) (hz : sz sSystem d ≤ 1048576) :
    Calls Try.prog 46 #[.agg #[v0, v1], .agg #[u0, u1]] w (Yes w) := by
  obtain ⟨g0, g1⟩ := parts_System h
  obtain ⟨g0', g1'⟩ := parts_System h'
  obtain ⟨W, hW⟩ : ∃ W, W = (w.alloc (.cells #[v0, v1] 29)).alloc (.cells #[u0, u1] 29) := ⟨_, rfl⟩
  have ra : Row W w.heap.size 29 #[v0, v1] := by rw [hW]; exact (Row.new w 29 #[v0, v1]).alloc _
  have rb : Row W (w.heap.size + 1) 29 #[u0, u1] := by rw [hW]; have := Row.new (w.alloc (.cells #[v0, v1] 29)) 29 #[u0, u1]; simpa using this
  have bel : Below w.heap.size w W := by rw [hW]; exact ((Below.refl _ _).alloc (Nat.le_refl _) _).alloc (by simp) _
  have HW := Lib.hid hW
  have G0 := Lib.hid g0
  have G0' := Lib.hid g0'
  have Z0 : Hid (sz sSig d.1 ≤ 1048576) := Lib.hid (by have := hz; simp only [sz] at this ⊢; omega)
  have G1 := Lib.hid g1
  have G1' := Lib.hid g1'
  have Z1 : Hid (sz sRuleS d.2 ≤ 1048576) := Lib.hid (by have := hz; simp only [sz] at this ⊢; omega)
  clear hW hz h h' g0 g0' g1 g1'
  go_enter Try.func46, Try.ntmps46
  go_wp2_with fail
  rw [← HW.out]
  refine (eqK_Sig _ _ _ W (G0.out.next bel) (G0'.out.next bel) Z0.out).mono ?_
  rintro e w1 ⟨rfl, bb⟩
  replace ra := ra.next bb
  replace rb := rb.next bb
  replace bel := next_trans bel bb
  clear bb
  have a1_0 : w1.cell? ⟨w.heap.size, 1, none⟩ = some (v1) := ra.cell 1
  have b1_0 : w1.cell? ⟨w.heap.size + 1, 1, none⟩ = some (u1) := rb.cell 1
  go_wp2_with fail
  clear a1_0 b1_0
  refine (eqK_RuleS _ _ _ w1 (G1.out.next bel) (G1'.out.next bel) Z1.out).mono ?_
  rintro e w2 ⟨rfl, bb⟩
  replace ra := ra.next bb
  replace rb := rb.next bb
  replace bel := next_trans bel bb
  clear bb
  have F : Yes w (.returned (.bool true)) w2 := ⟨rfl, bel⟩
  have HF := Lib.hid F
  clear F ra rb bel
  go_wp2
  go_ret
  exact HF.out

set_option maxHeartbeats 2000000 in
theorem markK_System (v0 v1 : Value) (d : Dat sSystem) (k : Int) (F : List Nat) (w : World) (h : Ow w sSystem [v0, v1] d F) (hF : F.Nodup) (hz : sz sSystem d ≤ 1048576) (hk0 : 0 ≤ k) (hk : k + (cntv sSystem d : Int) ≤ 1099511627776) :
    Calls Try.prog 49 #[.agg #[v0, v1], .int .i64 k] w (AnsMarkF w sSystem [v0, v1] d k F) := by
  have hlt := h.lt
  obtain ⟨F0, R0, eF0, o0, o1⟩ := Ow.split (ca := [v0]) (cb := [v1]) h rfl
  rw [eF0] at hF
  obtain ⟨n0, nr0, x0, y0⟩ := dis_app hF
  obtain ⟨z0, hz0⟩ : ∃ z, cntv sSig d.1 = z := ⟨_, rfl⟩
  obtain ⟨z1, hz1⟩ : ∃ z, cntv sRuleS d.2 = z := ⟨_, rfl⟩
  have hc : (cntv sSystem d : Int) = (z0 : Int) + (z1 : Int) := by rw [← hz0, ← hz1]; first | done | (simp only [cntv]; try omega)
  have Z0 : Hid (sz sSig d.1 ≤ 1048576) := Lib.hid (by have := hz; simp only [sz] at this ⊢; omega)
  have HZ0 := Lib.hid hz0
  have Z1 : Hid (sz sRuleS d.2 ≤ 1048576) := Lib.hid (by have := hz; simp only [sz] at this ⊢; omega)
  have HZ1 := Lib.hid hz1
  have HC := Lib.hid hc
  rw [hc] at hk
  obtain ⟨W, hW⟩ : ∃ W, W = w.alloc (.cells #[v0, v1] 29) := ⟨_, rfl⟩
  have r : Row W w.heap.size 29 #[v0, v1] := by rw [hW]; exact Row.new _ _ _
  have bel : Below w.heap.size w W := by rw [hW]; exact (Below.refl _ _).alloc (Nat.le_refl _) _
  replace o0 := o0.next bel
  replace o1 := o1.next bel
  have nb0 : w.heap.size ∉ F0 := fun hb => by have := hlt _ (by rw [eF0]; exact List.mem_append_left _ hb); omega
  have nb1 : w.heap.size ∉ R0 := fun hb => by have := hlt _ (by rw [eF0]; exact (List.mem_append_right _ hb)); omega
  have sub0 : ∀ x ∈ F0, x ∈ F := fun x hb => by rw [eF0]; exact List.mem_append_left _ hb
  have sub1 : ∀ x ∈ R0, x ∈ F := fun x hb => by rw [eF0]; exact (List.mem_append_right _ hb)
  have on : Only F w W := Only.of_below bel
  have HW := Lib.hid hW
  have HEF : Hid (F = (F0 ++ R0)) := Lib.hid (by rw [eF0])
  clear hW h hz hc bel hlt hz0 hz1 eF0
  go_enter Try.func49, Try.ntmps49
  go_wp2_with fail
  rw [← HW.out]
  refine (markK_Sig _ _ k F0 _ o0 n0 Z0.out (by omega) (by rw [HZ0.out]; omega)).mono ?_
  rintro e w1 ⟨he, o0, on0⟩
  rw [HZ0.out] at he
  replace o1 := o1.only on0 y0
  replace r := Row.only r on0 nb0
  replace on := on.trans (on0.wider sub0)
  clear on0
  obtain ⟨k0, hk0⟩ : ∃ l, k + (z0 : Int) = l := ⟨_, rfl⟩
  rw [hk0] at he
  have l0 : 0 ≤ k0 := by omega
  have u0 : k0  + (z1 : Int) ≤ 1099511627776 := by omega
  subst he
  have HK0 := Lib.hid hk0
  clear hk0
  have c1_0 : w1.cell? ⟨w.heap.size, 1, none⟩ = some (v1) := r.cell 1
  go_wp2_with fail
  clear c1_0
  refine (markK_RuleS _ _ k0 R0 _ o1 nr0 Z1.out (by omega) (by rw [HZ1.out]; omega)).mono ?_
  rintro e w2 ⟨he, o1, on1⟩
  rw [HZ1.out] at he
  replace o0 := o0.only on1 x0
  replace r := Row.only r on1 nb1
  replace on := on.trans (on1.wider sub1)
  clear on1
  obtain ⟨k1, hk1⟩ : ∃ l, k0 + (z1 : Int) = l := ⟨_, rfl⟩
  rw [hk1] at he
  have l1 : 0 ≤ k1 := by omega
  have u1 : k1  ≤ 1099511627776 := by omega
  subst he
  have HK1 := Lib.hid hk1
  clear hk1
  have F1 : AnsMarkF w sSystem [v0, v1] d k F (.returned (.int .i64 k1)) w2 := by
    refine ⟨congrArg (fun z => Ending.returned (.int .i64 z)) ?_, ?_, on⟩
    · rw [HC.out]; have := HK0.out; have := HK1.out; omega
    · rw [HEF.out]
      have e0 : k0 = k + (cntv sSig d.1 : Int) := by have := HK0.out; have := HZ0.out; omega
      rw [e0] at o1
      exact (Ow.join o0 o1)
  have HF := Lib.hid F1
  clear F1 on r o0 o1
  go_wp2
  go_ret
  exact HF.out

end Go.Proofs.Ytdkjafjphgcbjaa.kindsR
end

section
/-
  CONTRACTS: spec.l1Copy, slices.Clone at []int64; a part of a slice. Conditions: the slices read as lists ('Seg'), at most 1048576 numbers. By an AI agent.
-/
namespace Go.Proofs.Ytdkjafjphgcbjaa.sub
open Go.RowKit Go.Proofs.Ytdkjafjphgcbjaa.base Go.Proofs.Ytdkjafjphgcbjaa.ints Go.Proofs.Ytdkjafjphgcbjaa.marks Go.Proofs.Ytdkjafjphgcbjaa.app Go.Proofs.Ytdkjafjphgcbjaa.sym

theorem Seg.cut {w : World} {B b off m a j : Nat} {t : List Int} (h : Seg w B (some ⟨b, off, none⟩) m t) (hj : a + j ≤ m) : Seg w B (some ⟨b, off + a, none⟩) j ((t.drop a).take j) := by
  refine ⟨by have := h.1; simp; omega, fun hn => ?_⟩
  obtain ⟨b', off', e, hb, hc⟩ := h.2 (by omega)
  injection e with e
  injection e with e1 e2
  subst e1 e2
  refine ⟨_, _, rfl, hb, fun q hq => ?_⟩
  rw [Nat.add_assoc, hc (a + q) (by omega)]
  simp [List.getD, List.getElem?_take, hq]

set_option maxHeartbeats 400000 in
theorem copyInts (S : Option Addr) (m c : Nat) (ys : List Int) (w : World) (h : Seg w w.heap.size S m ys) (hnone : S = none → c = 0) (hm : m ≤ 1048576) :
    Calls Try.prog 120 #[.slice S m c] w (AnsList w ys) := by
  have ho := own_empty w w.heap.size (Nat.le_refl _)
  have bb : Below w.heap.size w (w.alloc (.cells #[] 2)) := (Below.refl _ _).alloc (Nat.le_refl _) _
  have hs := h.alloc (Nat.le_refl _) (.cells #[] 2)
  have HN := Lib.hid hnone
  clear hnone h
  go_enter Try.func120, Try.ntmps120
  go_wp2_with (at_builtin; refine appAll rfl _ _ rfl w.heap.size (some ⟨w.heap.size, 0, none⟩) 0 0 [] rfl ho S m c w.heap.size ys rfl hs HN.out (by omega) (by omega) (by simp) ?_; intro A' c' w' ho' b')
  simp only [Nat.zero_add, List.nil_append] at ho'
  have F : AnsList w ys (.returned (.slice A' m c')) w' := ⟨A', m, c', rfl, ho', bb.trans b'⟩
  have HF := Lib.hid F
  clear F ho' b' bb hs ho
  go_wp2
  go_ret
  exact HF.out

end Go.Proofs.Ytdkjafjphgcbjaa.sub
end

section
/-
  CONTRACTS: spec.l1Into, l2Vars, VarsOf, GroundIn; impl.VarsOf, GroundIn. Conditions: the slices read as lists ('Seg'), at most 1048576 numbers. By an AI agent.
-/
namespace Go.Proofs.Ytdkjafjphgcbjaa.varsOf
open Go.RowKit Go.Proofs.Ytdkjafjphgcbjaa.base Go.Proofs.Ytdkjafjphgcbjaa.ints Go.Proofs.Ytdkjafjphgcbjaa.sig Go.Proofs.Ytdkjafjphgcbjaa.term Go.Proofs.Ytdkjafjphgcbjaa.termOk Go.Proofs.Ytdkjafjphgcbjaa.marks Go.Proofs.Ytdkjafjphgcbjaa.app Go.Proofs.Ytdkjafjphgcbjaa.sym Go.Proofs.Ytdkjafjphgcbjaa.sub Go.Proofs.Ytdkjafjphgcbjaa.segs Go.Proofs.Ytdkjafjphgcbjaa.varsMath Go.Proofs.Ytdkjafjphgcbjaa.termFacts
set_option maxRecDepth 100000

/-- a slice that reads as these numbers -/
def AnsInto (w : World) (ys : List Int) (e : Ending) (w' : World) : Prop := ∃ b off n c, e = .returned (.slice (some ⟨b, off, none⟩) n c) ∧ Seg w' w'.heap.size (some ⟨b, off, none⟩) n ys ∧ n ≤ c ∧ c ≤ 9223372036854775807 ∧ Below w.heap.size w w'

theorem Seg.pre {w : World} {B n k : Nat} {A : Option Addr} {xs : List Int} (h : Seg w B A n xs) (hk : k ≤ n) : Seg w B A k (xs.take k) := by
  refine ⟨by have := h.1; simp; omega, fun h0 => ?_⟩
  obtain ⟨b, off, e, hb, hc⟩ := h.2 (by omega)
  refine ⟨b, off, e, hb, fun j hj => ?_⟩
  rw [hc j (by omega)]
  simp [List.getD, List.getElem?_take, hj]
theorem Seg.post {w : World} {B n k b off : Nat} {xs : List Int} (h : Seg w B (some ⟨b, off, none⟩) n xs) (hk : k ≤ n) : Seg w B (some ⟨b, off + k, none⟩) (n - k) (xs.drop k) := by
  have h1 := Seg.cut (a := k) (j := n - k) h (by omega)
  rw [List.take_of_length_le (by have := h.1; simp; omega)] at h1
  exact h1
theorem into_ans {w w' : World} {base : Nat} {A : Option Addr} {n c : Nat} {xs ys : List Int} (h : Own w' base (.slice A n c) ys) (hn : 1 ≤ n) (e : ys = xs) (hb : Below w.heap.size w w') : AnsInto w xs (.returned (.slice A n c)) w' := by
  subst e
  have hl := Own.len h
  rcases own_form (n := n) (vs := ys.map (Value.int .i64)) (by rw [hl]; rw [hl] at h; exact h) with ⟨_, e, _⟩ | ⟨g, cur, rfl, _, _, h1, _, h3, _⟩
  · omega
  · exact ⟨g, 0, n, c, rfl, Own.seg h, h1, h3, hb⟩

def HeadInto (n : Nat) (xs : List Int) (x : Int) (i : Value) : Prop := ∃ k : Nat, k ≤ n ∧ i = .int .i64 k ∧ ∀ j, j < k → xs.getD j 0 < x

set_option maxHeartbeats 4000000 in
theorem l1Into (b off n c : Nat) (xs : List Int) (x : Int) (w : World) (h : Seg w w.heap.size (some ⟨b, off, none⟩) n xs) (hc1 : n ≤ c) (hc2 : c ≤ 9223372036854775807) (hn : n ≤ 1048576) :
    Calls Try.prog 98 #[.slice (some ⟨b, off, none⟩) n c, .int .i64 x] w (AnsInto w (into xs x)) := by
  have HX := Lib.hid h.1
  go_enter Try.func98, Try.ntmps98
  go_wp2
  go_loop [5] (fun i => HeadInto n xs x i) (fun i => n - (intOf i).toNat)
  case atStart => exact ⟨0, Nat.zero_le _, rfl, fun j hj => absurd hj (Nat.not_lt_zero _)⟩
  case round =>
    obtain ⟨k, hk, rfl, hlow⟩ := hrel
    have HLOW := Lib.hid hlow
    clear hlow
    have i1 : (0 : Int) ≤ (k : Int) := by omega
    have i2 : (k : Int) ≤ (n : Int) := by omega
    have i3 : (k : Int) ≤ (c : Int) := by omega
    have i4 : (n : Int) ≤ (c : Int) := by omega
    have L := Lib.hid (copyInts (some ⟨b, off, none⟩) k c (xs.take k) w (Seg.pre h hk) (fun e => by cases e) (by omega))
    by_cases hlt : k < n
    · obtain ⟨b', off', y, e, -, hy, ey⟩ := h.spot hlt
      injection e with e
      injection e with e1 e2
      subst e1 e2
      have i5 : (k : Int) < (n : Int) := by omega
      by_cases hyx : y < x
      · have S : HeadInto n xs x (.int .i64 ((k : Int) + 1)) := ⟨k + 1, hlt, by simp, fun j hj => by
          by_cases e : j = k
          · subst e; rw [ey.out]; exact hyx
          · exact HLOW.out j (by omega)⟩
        replace S := Lib.hid S
        clear h ey L
        go_wp2
        go_round
        case rel => exact S.out
        case measure => simp [intOf]; omega
      · by_cases hye : y = x
        · have F : AnsInto w (into xs x) (.returned (.slice (some ⟨b, off, none⟩) n c)) w := by
            rw [into_at (by rw [HX.out]; exact hlt) HLOW.out (ey.out.trans hye)]
            exact ⟨b, off, n, c, rfl, h, hc1, hc2, Below.refl _ _⟩
          have HF := Lib.hid F
          have d1 : (y == x) = true := by simp [hye]
          have d2 : decide (y < x) = false := by simp; omega
          clear F h ey L hye hyx
          go_wp2
          go_ret
          exact HF.out
        · have hck : ¬ c = k := by omega
          have E := Lib.hid (into_mid (xs := xs) (n := x) (k := k) (by rw [HX.out]; exact hlt) HLOW.out (by rw [ey.out]; omega))
          have d1 : (y == x) = false := by simp [hye]
          have d2 : decide (y < x) = false := by simp; omega
          have hp := Seg.post h hk
          clear h ey hye hyx
          go_wp2_with fail
          refine L.out.mono ?_
          rintro e w1 ⟨D, dn, dc, rfl, o1, b1⟩
          have hdn : dn = k := by rw [Own.len o1]; have := HX.out; simp; omega
          subst hdn
          clear L
          go_wp2_with (first
            | (at_builtin; refine app1 rfl (.tmp 37) (.tmp 39) rfl w.heap.size D dn dc (xs.take dn) rfl (Own.alloc o1 _) w1.heap.size 1 x rfl ((Row.new _ _ _).cell 0) (by omega) (by simp; exact Nat.le_trans b1.size (Nat.le_succ _)) ?_; intro O' oc' w2 o2 b2; have hp2 := hp.below ((b1.alloc b1.size _).trans b2))
            | (at_builtin; refine appAll rfl (.tmp 41) (.tmp 44) rfl w.heap.size O' (dn + 1) oc' _ rfl o2 (some ⟨b, off + dn, none⟩) (n - dn) (c - dn) w.heap.size (xs.drop dn) rfl hp2 (fun e => by cases e) (by omega) (by omega) (by have h1 := b1.size; have h2 := b2.size; simp at h2; omega) ?_; intro Q' qc' w3 o3 b3))
          have F := Lib.hid (into_ans (xs := into xs x) o3 (by omega) E.out.symm (((b1.alloc b1.size _).trans b2).trans b3))
          clear o1 o2 o3 b1 b2 b3 hp hp2 E
          go_wp2
          go_ret
          exact F.out
    · have ek : k = n := by omega
      subst ek
      have E := Lib.hid (into_end (xs := xs) (n := x) (fun j hj => HLOW.out j (by rw [HX.out] at hj; exact hj)))
      have ET := Lib.hid (show xs.take k = xs from List.take_of_length_le (by rw [HX.out]; exact Nat.le_refl _))
      have d0 : decide (k < k) = false := by simp
      by_cases hck : c = k
      · subst hck
        have hp := Seg.pre h (Nat.zero_le _)
        clear h
        go_wp2_with fail
        refine L.out.mono ?_
        rintro e w1 ⟨D, dn, dc, rfl, o1, b1⟩
        rw [ET.out] at o1
        have hdn : dn = c := by rw [Own.len o1]; exact HX.out
        subst hdn
        clear L
        go_wp2_with (first
          | (at_builtin; refine app1 rfl (.tmp 37) (.tmp 39) rfl w.heap.size D dn dc xs rfl (Own.alloc o1 _) w1.heap.size 1 x rfl ((Row.new _ _ _).cell 0) (by omega) (by simp; exact Nat.le_trans b1.size (Nat.le_succ _)) ?_; intro O' oc' w2 o2 b2; have hp2 := hp.below ((b1.alloc b1.size _).trans b2))
          | (at_builtin; refine appAll rfl (.tmp 41) (.tmp 44) rfl w.heap.size O' (dn + 1) oc' _ rfl o2 (some ⟨b, off, none⟩) 0 0 w.heap.size (xs.take 0) rfl hp2 (fun e => by cases e) (by omega) (by omega) (by have h1 := b1.size; have h2 := b2.size; simp at h2; omega) ?_; intro Q' qc' w3 o3 b3))
        have F := Lib.hid (into_ans (xs := into xs x) o3 (by omega) (by rw [E.out]; simp) (((b1.alloc b1.size _).trans b2).trans b3))
        clear o1 o2 o3 b1 b2 b3 hp hp2 E
        go_wp2
        go_ret
        exact F.out
      · have hp := Seg.post h (Nat.le_refl _)
        rw [Nat.sub_self] at hp
        clear h
        go_wp2_with fail
        refine L.out.mono ?_
        rintro e w1 ⟨D, dn, dc, rfl, o1, b1⟩
        rw [ET.out] at o1
        have hdn : dn = k := by rw [Own.len o1]; exact HX.out
        subst hdn
        clear L
        go_wp2_with (first
          | (at_builtin; refine app1 rfl (.tmp 37) (.tmp 39) rfl w.heap.size D dn dc xs rfl (Own.alloc o1 _) w1.heap.size 1 x rfl ((Row.new _ _ _).cell 0) (by omega) (by simp; exact Nat.le_trans b1.size (Nat.le_succ _)) ?_; intro O' oc' w2 o2 b2; have hp2 := hp.below ((b1.alloc b1.size _).trans b2))
          | (at_builtin; refine appAll rfl (.tmp 41) (.tmp 44) rfl w.heap.size O' (dn + 1) oc' _ rfl o2 (some ⟨b, off + dn, none⟩) 0 (c - dn) w.heap.size (xs.drop dn) rfl hp2 (fun e => by cases e) (by omega) (by omega) (by have h1 := b1.size; have h2 := b2.size; simp at h2; omega) ?_; intro Q' qc' w3 o3 b3))
        have F := Lib.hid (into_ans (xs := into xs x) o3 (by omega) (by rw [E.out, List.drop_eq_nil_of_le (by rw [HX.out]; exact Nat.le_refl _)]; simp) (((b1.alloc b1.size _).trans b2).trans b3))
        clear o1 o2 o3 b1 b2 b3 hp hp2 E
        go_wp2
        go_ret
        exact F.out
end Go.Proofs.Ytdkjafjphgcbjaa.varsOf
end

section
/-
  WORD: what a contract of a test says: a bool, and that below the call's own blocks nothing has turned. Conditions: none. By an AI agent.
-/
namespace Go.Proofs.Ytdkjafjphgcbjaa.varsOf
open Go.RowKit Go.Proofs.Ytdkjafjphgcbjaa.base

def AnsB (w : World) (b : Bool) (e : Ending) (w' : World) : Prop := e = .returned (.bool b) ∧ Below w.heap.size w w'
theorem ansB {w w' : World} {a b : Bool} (h : a = b) (hb : Below w.heap.size w w') : AnsB w b (.returned (.bool a)) w' := ⟨by rw [h], hb⟩
end Go.Proofs.Ytdkjafjphgcbjaa.varsOf
end

section
/-
  DERIVED: THE SHELF's CONTRACTS AT THIS DUMP, IN PLAIN WORDS (tools/lay-plain.mjs out of 'YtdkjafjphgcbjaaShelfT.lean', which tools/lay-shelf.mjs wrote): THE SAME DECLARATIONS UNDER THE SAME NAMES: 'import', 'namespace', 'open', 'def', 'theorem' AND NOTHING ELSE: no command of the shelf's: FOR A HAND-IN. Each laying: the table of numbers ('.._ren') and one theorem, a field a fact of the dump's own or the kernel's comparison; each contract: ONE APPLICATION.
-/
namespace Go.Proofs
open Go.Shelf
def Try.laysSlgn53_ren : Go.Shelf.Ren := ⟨fun | 53 => 127 | 64 => 130 | 63 => 129 | 78 => 140 | 79 => 141 | 70 => 131 | 71 => 132 | 72 => 133 | 73 => 134 | 74 => 135 | 75 => 136 | 59 => 137 | 76 => 138 | 77 => 139 | 88 => 142 | 89 => 143 | 90 => 144 | 91 => 145 | 92 => 146 | 68 => 147 | 96 => 148 | n => n, fun | 22 => 24 | 23 => 2 | 3 => 3 | 51 => 113 | 0 => 0 | 67 => 128 | 69 => 130 | 4 => 4 | 61 => 120 | 60 => 119 | 44 => 125 | 5 => 5 | 9 => 9 | 75 => 131 | 79 => 135 | 83 => 137 | 84 => 138 | n => n, fun | n => n⟩
theorem Try.laysSlgn53 : Go.Proofs.SlLaysN.n53 Try.prog Try.laysSlgn53_ren := {
  mixed := by kernel_rfl
  f53 := ⟨Try.f127.name, by decide, Try.func127.trans (congrArg some (by kernel_rfl))⟩
  f59 := ⟨Try.f137.name, by decide, Try.func137.trans (congrArg some (by kernel_rfl))⟩
  f63 := ⟨Try.f129.name, by decide, Try.func129.trans (congrArg some (by kernel_rfl))⟩
  f64 := Try.func130.trans (congrArg some (by kernel_rfl))
  f68 := ⟨Try.f147.name, by decide, Try.func147.trans (congrArg some (by kernel_rfl))⟩
  f70 := ⟨Try.f131.name, by decide, Try.func131.trans (congrArg some (by kernel_rfl))⟩
  f71 := ⟨Try.f132.name, by decide, Try.func132.trans (congrArg some (by kernel_rfl))⟩
  f72 := ⟨Try.f133.name, by decide, Try.func133.trans (congrArg some (by kernel_rfl))⟩
  f73 := ⟨Try.f134.name, by decide, Try.func134.trans (congrArg some (by kernel_rfl))⟩
  f74 := ⟨Try.f135.name, by decide, Try.func135.trans (congrArg some (by kernel_rfl))⟩
  f75 := ⟨Try.f136.name, by decide, Try.func136.trans (congrArg some (by kernel_rfl))⟩
  f76 := ⟨Try.f138.name, by decide, Try.func138.trans (congrArg some (by kernel_rfl))⟩
  f77 := ⟨Try.f139.name, by decide, Try.func139.trans (congrArg some (by kernel_rfl))⟩
  f78 := Try.func140.trans (congrArg some (by kernel_rfl))
  f79 := Try.func141.trans (congrArg some (by kernel_rfl))
  f88 := ⟨Try.f142.name, by decide, Try.func142.trans (congrArg some (by kernel_rfl))⟩
  f89 := Try.func143.trans (congrArg some (by kernel_rfl))
  f90 := Try.func144.trans (congrArg some (by kernel_rfl))
  f91 := ⟨Try.f145.name, by decide, Try.func145.trans (congrArg some (by kernel_rfl))⟩
  f92 := ⟨Try.f146.name, by decide, Try.func146.trans (congrArg some (by kernel_rfl))⟩
  f96 := ⟨Try.f148.name, by decide, Try.func148.trans (congrArg some (by kernel_rfl))⟩
  t0 := Try.underlying0
  a0 := Try.isAgg0
  z0 := Try.sizeOf0
  v0 := Try.zeroValue0
  t3 := Try.underlying3
  a3 := Try.isAgg3
  z3 := Try.sizeOf3
  v3 := Try.zeroValue3
  t4 := Try.underlying4
  a4 := Try.isAgg4
  z4 := Try.sizeOf4
  v4 := Try.zeroValue4
  t5 := Try.underlying5
  a5 := Try.isAgg5
  z5 := Try.sizeOf5
  v5 := Try.zeroValue5
  t9 := Try.underlying9
  a9 := Try.isAgg9
  z9 := Try.sizeOf9
  v9 := Try.zeroValue9
  t22 := Try.underlying24
  a22 := Try.isAgg24
  z22 := Try.sizeOf24
  v22 := Try.zeroValue24
  t23 := Try.underlying2
  a23 := Try.isAgg2
  z23 := Try.sizeOf2
  v23 := Try.zeroValue2
  t44 := Try.underlying125
  a44 := Try.isAgg125
  z44 := Try.sizeOf125
  v44 := Try.zeroValue125
  t51 := Try.underlying113
  a51 := Try.isAgg113
  z51 := Try.sizeOf113
  v51 := Try.zeroValue113
  t60 := Try.underlying119
  a60 := Try.isAgg119
  z60 := Try.sizeOf119
  v60 := Try.zeroValue119
  t61 := Try.underlying120
  a61 := Try.isAgg120
  z61 := Try.sizeOf120
  v61 := Try.zeroValue120
  t67 := Try.underlying128
  a67 := Try.isAgg128
  z67 := Try.sizeOf128
  v67 := Try.zeroValue128
  t69 := Try.underlying130
  a69 := Try.isAgg130
  z69 := Try.sizeOf130
  v69 := Try.zeroValue130
  t75 := Try.underlying131
  a75 := Try.isAgg131
  z75 := Try.sizeOf131
  v75 := Try.zeroValue131
  t79 := Try.underlying135
  a79 := Try.isAgg135
  z79 := Try.sizeOf135
  v79 := Try.zeroValue135
  t83 := Try.underlying137
  a83 := Try.isAgg137
  z83 := Try.sizeOf137
  v83 := Try.zeroValue137
  t84 := Try.underlying138
  a84 := Try.isAgg138
  z84 := Try.sizeOf138
  v84 := Try.zeroValue138 }
open Go.Sort Go.RowKit in
theorem Try.slices_Sort_int (blk off cap : Nat) (zs : List Int) (w : World) (hH : Holds (Value.int .i64) w blk off zs.toArray) (hblk : blk < w.heap.size) (hsz : zs.length < 4611686018427387904) :
    Calls Try.prog 127 #[.slice (some ⟨blk, off, none⟩) zs.length cap] w fun e w' => e = .returned (.tuple #[]) ∧ ∃ n os, w' = grow (putRow (Value.int .i64) (Sort.ahead w n) blk off (zs.mergeSort fun x y => decide (x ≤ y)).toArray) os := AnyG.slices_Sort_int Try.laysSlgn53 blk off cap zs w hH hblk hsz
open Go.Sort Go.RowKit in
theorem Try.slices_Sort_int_none (p : Option Addr) (cap : Nat) (w : World) :
    Calls Try.prog 127 #[.slice p 0 cap] w fun e w' => e = .returned (.tuple #[]) ∧ w' = w := AnyG.slices_Sort_int_none Try.laysSlgn53 p cap w
def Try.laysSlgn43_ren : Go.Shelf.Ren := ⟨fun | 43 => 128 | n => n, fun | 22 => 24 | 23 => 2 | 3 => 3 | 4 => 4 | 0 => 0 | n => n, fun | n => n⟩
theorem Try.laysSlgn43 : Go.Proofs.SlLaysN.n43 Try.prog Try.laysSlgn43_ren := {
  mixed := by kernel_rfl
  f43 := ⟨Try.f128.name, by decide, Try.func128.trans (congrArg some (by kernel_rfl))⟩
  t0 := Try.underlying0
  a0 := Try.isAgg0
  z0 := Try.sizeOf0
  v0 := Try.zeroValue0
  t3 := Try.underlying3
  a3 := Try.isAgg3
  z3 := Try.sizeOf3
  v3 := Try.zeroValue3
  t4 := Try.underlying4
  a4 := Try.isAgg4
  z4 := Try.sizeOf4
  v4 := Try.zeroValue4
  t22 := Try.underlying24
  a22 := Try.isAgg24
  z22 := Try.sizeOf24
  v22 := Try.zeroValue24
  t23 := Try.underlying2
  a23 := Try.isAgg2
  z23 := Try.sizeOf2
  v23 := Try.zeroValue2
  i23 := by kernel_rfl }
open Go.Sort Go.RowKit in
theorem Try.slices_Compact_int (blk off cap : Nat) (zs : List Int) (w : World) (hH : Holds (Value.int .i64) w blk off zs.toArray) (hsz : zs.length ≤ 9223372036854775807) (hcap : zs.length ≤ cap) :
    Calls Try.prog 128 #[.slice (some ⟨blk, off, none⟩) zs.length cap] w fun e w' => e = .returned (.slice (some ⟨blk, off, none⟩) (Lib.compact zs).length cap) ∧ ∃ q, w' = putRow (Value.int .i64) (Sort.ahead w q) blk off (Lib.compact zs ++ List.replicate (zs.length - (Lib.compact zs).length) 0).toArray := AnyG.slices_Compact_int Try.laysSlgn43 blk off cap zs w hH hsz hcap
open Go.Sort Go.RowKit in
theorem Try.slices_Compact_int_empty (a : Option Addr) (cap : Nat) (w : World) :
    Calls Try.prog 128 #[.slice a 0 cap] w fun e w' => e = .returned (.slice a 0 cap) ∧ w' = w := AnyG.slices_Compact_int_empty Try.laysSlgn43 a cap w
end Go.Proofs
end

section
/-
  CONTRACTS: slices.Sort and slices.Compact at a slice of int64 of the call's own ('Own'), out of the library's. Conditions: none beyond the slice's. By an AI agent.
-/
namespace Go.Proofs.Ytdkjafjphgcbjaa.sorted
open Go.RowKit Go.Proofs.Ytdkjafjphgcbjaa.base Go.Proofs.Ytdkjafjphgcbjaa.marks Go.Proofs.Ytdkjafjphgcbjaa.app Go.Proofs.Ytdkjafjphgcbjaa.sym Go.Proofs.Ytdkjafjphgcbjaa.appAt Go.Proofs.Ytdkjafjphgcbjaa.segs
set_option maxRecDepth 100000

theorem row_put {w : World} {g : Nat} {t : TypeId} {cs : Array Value} (h : Row w g t cs) (d : Array Int) : Row (Sort.putRow (Value.int .i64) w g 0 d) g t (Sort.putCells (Value.int .i64) 0 d cs) := by
  unfold Row at h ⊢
  show (w.heap.modify g (Sort.onCells (Sort.putCells (Value.int .i64) 0 d)))[g]? = _
  rw [Array.getElem?_modify, if_pos rfl, h]
  rfl
theorem grown_putRow (w : World) (g q : Nat) (d : Array Int) : w.grownBy (Sort.putRow (Value.int .i64) (Sort.ahead w q) g 0 d) (some g) := by
  refine ⟨rfl, rfl, rfl, ?_, fun i hi hne => ?_⟩
  · show w.heap.size ≤ (w.heap.modify g _).size
    simp
  · show (w.heap.modify g _)[i]? = _
    rw [Array.getElem?_modify, if_neg (fun e => hne (by rw [e]))]
theorem grown_grow {w w' : World} {r : Option Nat} (h : w.grownBy w' r) (os : Array Obj) : w.grownBy (Sort.grow w' os) r := by
  refine ⟨h.os, h.tape, h.output, by rw [Sort.size_grow]; have := h.size; omega, fun i hi hne => ?_⟩
  rw [Sort.heap_grow_old w' os (Nat.lt_of_lt_of_le hi h.size)]
  exact h.block i hi hne
theorem holds_own {w : World} {g : Nat} {t : TypeId} {cs : Array Value} {xs : List Int} (h : Row w g t cs) (hc : ∀ j, j < xs.length → cs[j]? = some ((xs.map (Value.int .i64)).getD j undef)) : Sort.Holds (Value.int .i64) w g 0 xs.toArray := by
  intro j hj
  have hj' : j < xs.length := by simpa using hj
  refine ⟨?_, by rw [Nat.zero_add]; exact h.free j⟩
  rw [Nat.zero_add, h.cell j, hc j hj']
  simp [List.getD, hj']
theorem putCells_get {cs : Array Value} {d : List Int} {j : Nat} (hj : j < d.length) (hs : d.length ≤ cs.size) : (Sort.putCells (Value.int .i64) 0 d.toArray cs)[j]? = some (.int .i64 (d.getD j 0)) := by
  unfold Sort.putCells
  rw [Array.getElem?_mapIdx, Array.getElem?_eq_getElem (by omega)]
  simp [hj, List.getD]

/-- what sorting leaves -/
def AnsSort (w : World) (base : Nat) (A : Option Addr) (n c : Nat) (ys : List Int) (e : Ending) (w' : World) : Prop := e = .returned (.tuple #[]) ∧ Own w' base (.slice A n c) ys ∧ w.grownBy w' (blk A)

def up (xs : List Int) : List Int := xs.mergeSort fun x y => decide (x ≤ y)

theorem sortOwn (base : Nat) (A : Option Addr) (n c : Nat) (xs : List Int) (w : World) (h : Own w base (.slice A n c) xs) (hn : n ≤ 1048576) :
    Calls Try.prog 127 #[.slice A n c] w (AnsSort w base A n c (up xs)) := by
  have hl := Own.len h
  subst hl
  rcases own_form (n := xs.length) h with ⟨rfl, h0, rfl, _⟩ | ⟨g, cs, rfl, hb, hr, hnc, hz, hmax, _, hc⟩
  · have hx : xs = [] := List.eq_nil_of_length_eq_zero h0
    subst hx
    refine (Try.slices_Sort_int_none none 0 w).mono ?_
    rintro e w' ⟨rfl, rfl⟩
    exact ⟨rfl, by simpa [up] using h, World.grownBy.refl _ _⟩
  · have hH := holds_own hr hc
    refine (Try.slices_Sort_int g 0 c xs w hH hr.lt (by omega)).mono ?_
    rintro e w' ⟨rfl, n, os, rfl⟩
    have hyl : (up xs).length = xs.length := List.length_mergeSort _
    refine ⟨rfl, ?_, grown_grow (grown_putRow w g n _) os⟩
    have r1 : Row (Sort.ahead w n) g 2 cs := hr
    have r2 := row_put r1 (up xs).toArray
    have r3 : Row (Sort.grow (Sort.putRow (Value.int .i64) (Sort.ahead w n) g 0 (up xs).toArray) os) g 2 _ := (Sort.heap_grow_old _ os r2.lt).trans r2
    exact Own.of_row r3 hyl (by simp [Sort.putCells, hz]) hnc hmax hb (fun j hj => putCells_get (by omega) (by omega))

theorem compact_le (zs : List Int) : (Lib.compact zs).length ≤ zs.length := by
  unfold Lib.compact Lib.compactUpTo
  rw [List.length_map]
  exact Nat.le_trans (List.length_filter_le _ _) (by simp)

/-- what compacting leaves: a slice of the same row, shorter perhaps -/
def AnsCompact (w : World) (base : Nat) (A : Option Addr) (ys : List Int) (e : Ending) (w' : World) : Prop := ∃ c, e = .returned (.slice A ys.length c) ∧ Own w' base (.slice A ys.length c) ys ∧ w.grownBy w' (blk A)

theorem compactOwn (base : Nat) (A : Option Addr) (n c : Nat) (xs : List Int) (w : World) (h : Own w base (.slice A n c) xs) (hn : n ≤ 1048576) :
    Calls Try.prog 128 #[.slice A n c] w (AnsCompact w base A (Lib.compact xs)) := by
  have hl := Own.len h
  subst hl
  rcases own_form (n := xs.length) h with ⟨rfl, h0, rfl, _⟩ | ⟨g, cs, rfl, hb, hr, hnc, hz, hmax, _, hc⟩
  · have hx : xs = [] := List.eq_nil_of_length_eq_zero h0
    subst hx
    refine (Try.slices_Compact_int_empty none 0 w).mono ?_
    rintro e w' ⟨rfl, rfl⟩
    exact ⟨0, rfl, h, World.grownBy.refl _ _⟩
  · have hH := holds_own hr hc
    have hle : (Lib.compact xs).length ≤ xs.length := compact_le xs
    refine (Try.slices_Compact_int g 0 c xs w hH (by omega) hnc).mono ?_
    rintro e w' ⟨rfl, q, rfl⟩
    refine ⟨c, rfl, ?_, grown_putRow w g q _⟩
    have r1 : Row (Sort.ahead w q) g 2 cs := hr
    have r2 := row_put r1 (Lib.compact xs ++ List.replicate (xs.length - (Lib.compact xs).length) 0).toArray
    refine Own.of_row r2 rfl (by simp [Sort.putCells, hz]) (by omega) hmax hb (fun j hj => ?_)
    rw [putCells_get (by simp; omega) (by simp; omega)]
    simp [List.getD, List.getElem?_append_left hj]
end Go.Proofs.Ytdkjafjphgcbjaa.sorted
end

section
/-
  PLAIN MATHEMATICS: sorted and compacted, the negative numbers of a list are its variables. Conditions: none. By an AI agent.
-/
namespace Go.Proofs.Ytdkjafjphgcbjaa.varsMath
open Go.Proofs.Ytdkjafjphgcbjaa.term Go.Proofs.Ytdkjafjphgcbjaa.termOk Go.Proofs.Ytdkjafjphgcbjaa.sorted

theorem compact_cons_cons (x y : Int) (r : List Int) : Lib.compact (x :: y :: r) = if x = y then Lib.compact (y :: r) else x :: Lib.compact (y :: r) := by
  unfold Lib.compact Lib.compactUpTo
  have hr : List.range (x :: y :: r).length = 0 :: (List.range (y :: r).length).map (· + 1) := by
    rw [List.length_cons, List.range_succ_eq_map]
  have hr2 : List.range (y :: r).length = 0 :: (List.range r.length).map (· + 1) := by
    rw [List.length_cons, List.range_succ_eq_map]
  have k0 : Lib.keeps (x :: y :: r).toArray 0 = true := by simp [Lib.keeps]
  have k0' : Lib.keeps (y :: r).toArray 0 = true := by simp [Lib.keeps]
  have ks : ∀ j, Lib.keeps (x :: y :: r).toArray (j + 1 + 1) = Lib.keeps (y :: r).toArray (j + 1) := fun j => by
    simp [Lib.keeps]
  have gs : ∀ j, (x :: y :: r).toArray[j + 1]! = (y :: r).toArray[j]! := fun j => by simp
  rw [hr, hr2]
  simp only [List.map_cons, List.filter_cons, k0, k0', if_true, List.filter_map, List.map_map]
  have e1 : Lib.keeps (x :: y :: r).toArray ∘ (fun (j : Nat) => j + 1) ∘ (fun (j : Nat) => j + 1) = Lib.keeps (y :: r).toArray ∘ fun (j : Nat) => j + 1 := by
    funext j
    exact ks j
  have k1 : Lib.keeps (x :: y :: r).toArray (0 + 1) = decide (¬ x = y) := by
    simp [Lib.keeps, eq_comm]
  rw [e1, k1]
  have e2 : (fun j => (x :: y :: r).toArray[j]!) ∘ (fun (j : Nat) => j + 1) ∘ (fun (j : Nat) => j + 1) = (fun j => (y :: r).toArray[j]!) ∘ fun (j : Nat) => j + 1 := by
    funext j
    exact gs (j + 1)
  by_cases h : x = y
  · subst h
    simp [List.map_map, e2]
  · simp [h, List.map_map, e2]
theorem compact_one (x : Int) : Lib.compact [x] = [x] := by simp [Lib.compact, Lib.compactUpTo, Lib.keeps, List.range_succ]
theorem compact_nil : Lib.compact ([] : List Int) = [] := rfl
theorem compact_sorted : ∀ {l : List Int}, l.Pairwise (· ≤ ·) → Rises (Lib.compact l) ∧ (∀ x, x ∈ Lib.compact l ↔ x ∈ l)
  | [], _ => ⟨List.Pairwise.nil, fun x => by rw [compact_nil]⟩
  | [y], _ => ⟨by rw [compact_one]; simp [Rises], fun x => by rw [compact_one]⟩
  | x :: y :: r, h => by
    have h1 := List.pairwise_cons.1 h
    obtain ⟨h2, h3⟩ := compact_sorted h1.2
    rw [compact_cons_cons]
    by_cases e : x = y
    · subst e
      rw [if_pos rfl]
      exact ⟨h2, fun z => by rw [h3]; simp⟩
    · rw [if_neg e]
      refine ⟨List.pairwise_cons.2 ⟨fun z hz => ?_, h2⟩, fun z => by rw [List.mem_cons, h3, List.mem_cons (a := z) (b := x)]⟩
      have h4 := h1.1 y (List.mem_cons_self ..)
      rcases List.mem_cons.1 ((h3 z).1 hz) with e2 | e2
      · omega
      · have := (List.pairwise_cons.1 h1.2).1 z e2
        omega
theorem up_sorted (l : List Int) : (up l).Pairwise (· ≤ ·) := by
  have := List.pairwise_mergeSort (le := fun x y => decide (x ≤ y)) (fun a b c h1 h2 => by simp at *; omega) (fun a b => by simp; omega) l
  refine this.imp (fun h => ?_)
  simpa using h
theorem up_mem {l : List Int} {x : Int} : x ∈ up l ↔ x ∈ l := by unfold up; exact List.mem_mergeSort
theorem sorted_vars (t : List Int) : Lib.compact (up (negs t)) = vars t := by
  have h := compact_sorted (up_sorted (negs t))
  refine rises_unique h.1 (vars_rises t) (fun x => ?_)
  rw [h.2, up_mem, vars_mem]
end Go.Proofs.Ytdkjafjphgcbjaa.varsMath
end

section
/-
  CONTRACTS: spec.l2Vars, VarsOf, GroundIn; impl.VarsOf, GroundIn. Conditions: the slices read as lists ('Seg'), at most 1048576 numbers. By an AI agent.
-/
namespace Go.Proofs.Ytdkjafjphgcbjaa.varsOf
open Go.RowKit Go.Proofs.Ytdkjafjphgcbjaa.base Go.Proofs.Ytdkjafjphgcbjaa.ints Go.Proofs.Ytdkjafjphgcbjaa.sig Go.Proofs.Ytdkjafjphgcbjaa.term Go.Proofs.Ytdkjafjphgcbjaa.termOk Go.Proofs.Ytdkjafjphgcbjaa.marks Go.Proofs.Ytdkjafjphgcbjaa.app Go.Proofs.Ytdkjafjphgcbjaa.sym Go.Proofs.Ytdkjafjphgcbjaa.sub Go.Proofs.Ytdkjafjphgcbjaa.segs Go.Proofs.Ytdkjafjphgcbjaa.sorted Go.Proofs.Ytdkjafjphgcbjaa.varsMath Go.Proofs.Ytdkjafjphgcbjaa.termFacts
set_option maxRecDepth 100000

/-- the head of the loop over the numbers -/
def HeadVars (w : World) (m : Nat) (t : List Int) (out i : Value) (wr : World) : Prop :=
  ∃ (k b off n c : Nat), k ≤ m ∧ i = .int .i64 k ∧ out = .slice (some ⟨b, off, none⟩) n c ∧ Seg wr wr.heap.size (some ⟨b, off, none⟩) n (vars (t.take k)) ∧ n ≤ c ∧ c ≤ 9223372036854775807 ∧ n ≤ m ∧ Below w.heap.size w wr
theorem vars_seg_len {t : List Int} {m k n : Nat} {w : World} {B : Nat} {A : Option Addr} (hm : t.length = m) (h : Seg w B A n (vars (t.take k))) : n ≤ m := by
  have h1 := vars_len (t.take k)
  have h2 := h.1
  simp at h1
  omega

/-- a slice that reads as these numbers, with its bounds -/
def AnsSeg (w : World) (ys : List Int) (e : Ending) (w' : World) : Prop := ∃ A n c, e = .returned (.slice A n c) ∧ Seg w' w'.heap.size A n ys ∧ Below w.heap.size w w'

/-- the head of the loop that collects -/
def HeadNegs (w : World) (A : Option Addr) (n c m : Nat) (t : List Int) (out i : Value) (wr : World) : Prop :=
  ∃ (k : Nat) (O : Option Addr) (on oc : Nat), k ≤ m ∧ i = .int .i64 k ∧ out = .slice O on oc ∧ Own wr (w.heap.size + 1) (.slice O on oc) (negs (t.take k)) ∧ Row wr w.heap.size 26 #[.slice A n c] ∧ Below w.heap.size w wr

set_option maxHeartbeats 2000000 in
theorem implVarsOf (A A' : Option Addr) (n c m c' : Nat) (sg t : List Int) (w : World) (h : Seg w w.heap.size A n sg) (h' : Seg w w.heap.size A' m t) (hn : n ≤ 1048576) (hm : m ≤ 1048576) :
    Calls Try.prog 124 #[.agg #[.slice A n c], .slice A' m c'] w (AnsList w (varsI sg t)) := by
  obtain ⟨W, hW⟩ : ∃ W, W = w.alloc (.cells #[.slice A n c] 26) := ⟨_, rfl⟩
  have rA : Row W w.heap.size 26 #[.slice A n c] := by rw [hW]; exact Row.new _ _ _
  have bel : Below w.heap.size w W := by rw [hW]; exact (Below.refl _ _).alloc (Nat.le_refl _) _
  have s := (h.below bel).more bel.size
  have s' := (h'.below bel).more bel.size
  have HW := Lib.hid hW
  have HL := Lib.hid h'.1
  have L := Lib.hid (implTermOk A A' n c m c' sg t W s s' hn hm)
  clear hW h s
  cases hok : termOkB sg t with
  | false =>
    have HS := Lib.hid hok
    clear hok s' h'
    go_enter Try.func124, Try.ntmps124
    go_wp2_with fail
    rw [← HW.out]
    refine L.out.mono ?_
    rintro e w1 ⟨he, bb⟩
    rw [HS.out] at he
    subst he
    have F : AnsList w (varsI sg t) (.returned (.slice none 0 0)) w1 := ⟨_, _, _, rfl, by unfold varsI; rw [if_neg (by rw [HS.out]; simp)]; exact Own.nil _ _, next_trans bel bb⟩
    have HF := Lib.hid F
    clear F bb bel rA
    go_wp2
    go_ret
    exact HF.out
  | true =>
    have HS := Lib.hid hok
    have HV := Lib.hid (fun x hx => (term_mem (x := x) hok hx).1)
    clear hok s'
    go_enter Try.func124, Try.ntmps124
    go_wp2_with fail
    rw [← HW.out]
    refine L.out.mono ?_
    rintro e w1 ⟨he, bb⟩
    rw [HS.out] at he
    subst he
    have S0 : HeadNegs w A n c m t (.slice none 0 0) (.int .i64 0) w1 := ⟨0, _, _, _, Nat.zero_le _, rfl, rfl, by simpa [negs] using Own.nil w1 (w.heap.size + 1), rA.next bb, next_trans bel bb⟩
    have HS0 := Lib.hid S0
    clear S0 bb bel rA L
    go_wp2_with fail
    go_loopw [5, 14] (fun out i wr => HeadNegs w A n c m t out i wr) (fun _ i _ => m - (intOf i).toNat)
    case atStart => exact HS0.out
    case round =>
      obtain ⟨k, O, on, oc, hk, rfl, rfl, ho, hr, hb⟩ := hrel
      clear HS0
      have hon : on ≤ m := by have h1 := Own.len ho; have h2 := negs_len (t.take k); simp at h2; have h3 := HL.out; omega
      by_cases hlt : k < m
      · obtain ⟨b, off, x, rfl, hbb, hx, ex⟩ := h'.spot hlt
        have hx1 : wr.cell? ⟨b, off + k, none⟩ = some (.int .i64 x) := (hb.cell (p := ⟨b, off + k, none⟩) hbb).trans hx
        have hsz := hr.lt
        have hmem : x ∈ t := by
          have hkl : k < t.length := by rw [HL.out]; exact hlt
          have := ex.out
          rw [← this]
          simp [List.getD, hkl]
        have hx24 : -24 ≤ x := HV.out x hmem
        clear hmem hx h'
        by_cases hneg : x < 0
        · have E := Lib.hid (negs_yes (t := t) (k := k) (by rw [HL.out]; exact hlt) ex.out hneg)
          clear ex
          go_wp2_with (at_builtin; refine app1 rfl _ _ rfl (w.heap.size + 1) O on oc (negs (t.take k)) rfl (Own.alloc ho _) wr.heap.size 1 (-1 - x) rfl ((Row.new _ _ _).cell 0) (by omega) (by simp; omega) ?_; intro O' oc' w2 ho2 b2)
          have S : HeadNegs w A n c m t (.slice O' (on + 1) oc') (.int .i64 ((k : Int) + 1)) w2 := ⟨k + 1, O', on + 1, oc', hlt, by simp, rfl, by rw [E.out]; exact ho2, ((hr.alloc _).below b2 (Nat.lt_succ_self _)), ((hb.alloc (Nat.le_of_lt hsz) _).trans (b2.mono (Nat.le_succ _)))⟩
          replace S := Lib.hid S
          clear ho2 b2 ho hr hb
          go_wp2
          go_roundw
          case rel => exact S.out
          case measure => simp [intOf]; omega
        · rw [← negs_no (t := t) (k := k) (by rw [HL.out]; exact hlt) ex.out hneg] at ho
          have S : HeadNegs w A n c m t (.slice O on oc) (.int .i64 ((k : Int) + 1)) wr := ⟨k + 1, O, on, oc, hlt, by simp, rfl, ho, hr, hb⟩
          replace S := Lib.hid S
          clear ho hr hb ex
          go_wp2
          go_roundw
          case rel => exact S.out
          case measure => simp [intOf]; omega
      · rw [List.take_of_length_le (by rw [HL.out]; omega)] at ho
        have hge := Own.ge ho
        have hsz := hr.lt
        have L2 := Lib.hid (sortOwn (w.heap.size + 1) O on oc (negs t) wr ho (by omega))
        clear ho hr h'
        go_wp2_with fail
        refine L2.out.mono ?_
        rintro e w2 ⟨rfl, o2, g2⟩
        have b2 := hb.grown g2 hb.size (fun k hk => by have := hge k hk; omega)
        have L3 := Lib.hid (compactOwn (w.heap.size + 1) O on oc (up (negs t)) w2 o2 (by omega))
        clear o2 g2 L2 hb
        go_wp2_with fail
        refine L3.out.mono ?_
        rintro e w3 ⟨c3, rfl, o3, g3⟩
        have b3 := b2.grown g3 b2.size (fun k hk => by have := hge k hk; omega)
        have F : AnsList w (varsI sg t) (.returned (.slice O (Lib.compact (up (negs t))).length c3)) w3 := ⟨O, _, c3, rfl, by unfold varsI; rw [if_pos HS.out, ← sorted_vars t]; exact Own.lower o3 (Nat.le_succ _), b3⟩
        have HF := Lib.hid F
        clear F o3 g3 b2 b3 L3 hge
        go_wp2
        go_ret
        exact HF.out

/-! ### GroundIn -/
def groundB (sg t : List Int) : Bool := termOkB sg t && decide ((vars t).length = 0)

end Go.Proofs.Ytdkjafjphgcbjaa.varsOf
end

section
/-
  CONTRACTS: spec.l1Count, impl.CountOf. Conditions: the slices read as lists ('Seg'), at most 1048576 numbers. By an AI agent.
-/
namespace Go.Proofs.Ytdkjafjphgcbjaa.count
open Go.RowKit Go.Proofs.Ytdkjafjphgcbjaa.base Go.Proofs.Ytdkjafjphgcbjaa.ints Go.Proofs.Ytdkjafjphgcbjaa.sig Go.Proofs.Ytdkjafjphgcbjaa.term Go.Proofs.Ytdkjafjphgcbjaa.termOk

def cnt (t : List Int) (x : Int) (k : Nat) : Nat := (t.take k).count x
def countI (sg t : List Int) (x : Int) : Int := if termOkB sg t = true then (cnt t x t.length : Int) else 0

theorem cnt_le (t : List Int) (x : Int) (k : Nat) : cnt t x k ≤ k := by
  unfold cnt
  exact Nat.le_trans List.count_le_length (List.length_take_le _ _)
theorem cnt_step {t : List Int} {x y : Int} {k : Nat} (hk : k < t.length) (hy : t.getD k 0 = y) : cnt t x (k + 1) = cnt t x k + if y = x then 1 else 0 := by
  unfold cnt
  have e : t.take (k + 1) = t.take k ++ [y] := by
    rw [List.take_succ_eq_append_getElem hk, ← hy]
    simp [List.getD, hk]
  rw [e, List.count_append]
  by_cases h : y = x
  · simp [h]
  · simp [h]

def HeadCnt (m : Nat) (t : List Int) (x : Int) (many i : Value) : Prop := ∃ k : Nat, k ≤ m ∧ i = .int .i64 k ∧ many = .int .i64 (cnt t x k)
theorem headCnt_yes {m k : Nat} {t : List Int} {x : Int} (hm : t.length = m) (hk : k < m) (ex : Hid (t.getD k 0 = x)) : HeadCnt m t x (.int .i64 ((cnt t x k : Int) + 1)) (.int .i64 ((k : Int) + 1)) :=
  ⟨k + 1, hk, by simp, by rw [cnt_step (by omega) ex.out]; simp⟩
theorem headCnt_no {m k : Nat} {t : List Int} {x y : Int} (hm : t.length = m) (hk : k < m) (ex : Hid (t.getD k 0 = y)) (h : ¬ y = x) : HeadCnt m t x (.int .i64 (cnt t x k)) (.int .i64 ((k : Int) + 1)) :=
  ⟨k + 1, hk, by simp, by rw [cnt_step (by omega) ex.out, if_neg h]; simp⟩

set_option maxHeartbeats 400000 in
theorem l1Count (A : Option Addr) (m c : Nat) (t : List Int) (x : Int) (w : World) (h : Seg w w.heap.size A m t) (hm : m ≤ 1048576) :
    Calls Try.prog 111 #[.slice A m c, .int .i64 x] w fun e w' => w = w' ∧ e = .returned (.int .i64 (cnt t x t.length)) := by
  have HL := Lib.hid h.1
  go_enter Try.func111, Try.ntmps111
  go_wp2
  go_loop [5, 6] (fun many i => HeadCnt m t x many i) (fun _ i => m - (intOf i).toNat)
  case atStart => exact ⟨0, Nat.zero_le _, rfl, rfl⟩
  case round =>
    obtain ⟨k, hk, rfl, rfl⟩ := hrel
    have hle := cnt_le t x k
    by_cases hlt : k < m
    · obtain ⟨b, off, y, rfl, -, hy, ey⟩ := h.spot hlt
      by_cases he : y = x
      · subst he
        have S := Lib.hid (headCnt_yes HL.out hlt ey)
        have e1 : (y == y) = true := by simp
        clear h ey
        generalize cnt t y k = z at *
        go_wp2
        go_round
        case rel => exact S.out
        case measure => simp [intOf]; omega
      · have S := Lib.hid (headCnt_no HL.out hlt ey he)
        have e1 : (y == x) = false := by simp [he]
        clear h ey
        generalize cnt t x k = z at *
        go_wp2
        go_round
        case rel => exact S.out
        case measure => simp [intOf]; omega
    · have e : cnt t x k = cnt t x t.length := by rw [HL.out, show k = m by omega]
      have E := Lib.hid e
      clear h e
      generalize cnt t x k = z at *
      go_wp2
      go_ret
      exact ⟨rfl, by rw [← E.out]; rfl⟩

def AnsCount (w : World) (sg t : List Int) (x : Int) (e : Ending) (w' : World) : Prop := e = .returned (.int .i64 (countI sg t x)) ∧ Below w.heap.size w w'
theorem count_no {w w' : World} {sg t : List Int} {x : Int} (h : termOkB sg t = false) (hb : Below w.heap.size w w') : AnsCount w sg t x (.returned (.int .i64 0)) w' := ⟨by unfold countI; rw [if_neg (by rw [h]; simp)], hb⟩
theorem count_yes {w w' : World} {sg t : List Int} {x : Int} {m : Nat} (hm : t.length = m) (h : termOkB sg t = true) (hb : Below w.heap.size w w') : AnsCount w sg t x (.returned (.int .i64 (cnt t x m))) w' := ⟨by unfold countI; rw [if_pos h, hm], hb⟩

set_option maxHeartbeats 1000000 in
theorem implCountOf (A A' : Option Addr) (n c m c' : Nat) (sg t : List Int) (x : Int) (w : World) (h : Seg w w.heap.size A n sg) (h' : Seg w w.heap.size A' m t) (hn : n ≤ 1048576) (hm : m ≤ 1048576) (_ : -9223372036854775808 ≤ x) (_ : x ≤ 9223372036854775807) :
    Calls Try.prog 110 #[.agg #[.slice A n c], .slice A' m c', .int .i64 x] w (AnsCount w sg t x) := by
  obtain ⟨W, hW⟩ : ∃ W, W = w.alloc (.cells #[.slice A n c] 26) := ⟨_, rfl⟩
  have rA : Row W w.heap.size 26 #[.slice A n c] := by rw [hW]; exact Row.new _ _ _
  have bel : Below w.heap.size w W := by rw [hW]; exact (Below.refl _ _).alloc (Nat.le_refl _) _
  replace h := (h.below bel).more bel.size
  replace h' := (h'.below bel).more bel.size
  have HW := Lib.hid hW
  have HL := Lib.hid h'.1
  clear hW
  have L := Lib.hid (implTermOk A A' n c m c' sg t W h h' hn hm)
  cases hok : termOkB sg t with
  | false =>
    have HS := Lib.hid hok
    clear hok h h'
    go_enter Try.func110, Try.ntmps110
    go_wp2_with fail
    rw [← HW.out]
    refine L.out.mono ?_
    rintro e w1 ⟨he, bb⟩
    rw [HS.out] at he
    subst he
    have F := Lib.hid (count_no (x := x) HS.out (next_trans bel bb))
    clear bb bel rA
    go_wp2
    go_ret
    exact F.out
  | true =>
    have HS := Lib.hid hok
    clear hok
    go_enter Try.func110, Try.ntmps110
    go_wp2_with fail
    rw [← HW.out]
    refine L.out.mono ?_
    rintro e w1 ⟨he, bb⟩
    rw [HS.out] at he
    subst he
    replace h' := h'.next bb
    have F := Lib.hid (count_yes (x := x) HL.out HS.out (next_trans bel bb))
    clear bb bel rA h
    go_wp2_with fail
    go_loop [7, 16] (fun many i => HeadCnt m t x many i) (fun _ i => m - (intOf i).toNat)
    case atStart => exact ⟨0, Nat.zero_le _, rfl, rfl⟩
    case round =>
      obtain ⟨k, hk, rfl, rfl⟩ := hrel
      have hle := cnt_le t x k
      by_cases hlt : k < m
      · obtain ⟨b, off, y, rfl, -, hy, ey⟩ := h'.spot hlt
        by_cases he : y = x
        · subst he
          have S := Lib.hid (headCnt_yes HL.out hlt ey)
          have e1 : (y == y) = true := by simp
          clear h' ey F
          generalize cnt t y k = z at *
          go_wp2
          go_round
          case rel => exact S.out
          case measure => simp [intOf]; omega
        · have S := Lib.hid (headCnt_no HL.out hlt ey he)
          have e1 : (y == x) = false := by simp [he]
          clear h' ey F
          generalize cnt t x k = z at *
          go_wp2
          go_round
          case rel => exact S.out
          case measure => simp [intOf]; omega
      · have e : k = m := by omega
        subst e
        clear h'
        generalize cnt t x k = z at *
        go_wp2
        go_ret
        exact F.out

end Go.Proofs.Ytdkjafjphgcbjaa.count
end

section
/-
  CONTRACTS: spec.l2Linear, LinearIn; impl.LinearIn. Conditions: the slices read as lists ('Seg'), at most 1048576 numbers. By an AI agent.
-/
namespace Go.Proofs.Ytdkjafjphgcbjaa.linear
open Go.RowKit Go.Proofs.Ytdkjafjphgcbjaa.base Go.Proofs.Ytdkjafjphgcbjaa.ints Go.Proofs.Ytdkjafjphgcbjaa.sig Go.Proofs.Ytdkjafjphgcbjaa.term Go.Proofs.Ytdkjafjphgcbjaa.termOk Go.Proofs.Ytdkjafjphgcbjaa.marks Go.Proofs.Ytdkjafjphgcbjaa.sym Go.Proofs.Ytdkjafjphgcbjaa.count Go.Proofs.Ytdkjafjphgcbjaa.varsMath Go.Proofs.Ytdkjafjphgcbjaa.termFacts Go.Proofs.Ytdkjafjphgcbjaa.varsOf
set_option maxRecDepth 100000

/-- how often a number stands in a list -/
def many (t : List Int) (x : Int) : Nat := cnt t x t.length
/-- no variable stands twice -/
def linB (t : List Int) : Bool := t.all fun x => decide (¬ x < 0 ∨ many t x ≤ 1)
def linearB (sg t : List Int) : Bool := termOkB sg t && linB t

theorem lin_no {t : List Int} {x : Int} (hx : x ∈ t) (h0 : x < 0) (h : 1 < many t x) : linB t = false := by
  unfold linB
  rw [List.all_eq_false]
  exact ⟨x, hx, by simp; omega⟩
theorem lin_yes {t : List Int} (h : ∀ x ∈ t, x < 0 → many t x ≤ 1) : linB t = true := by
  unfold linB
  rw [List.all_eq_true]
  intro x hx
  by_cases h0 : x < 0
  · simp [h x hx h0]
  · simp; omega

def HeadLin (m : Nat) (t : List Int) (i : Value) : Prop := ∃ k : Nat, k ≤ m ∧ i = .int .i64 k ∧ ∀ j, j < k → t.getD j 0 < 0 → many t (t.getD j 0) ≤ 1

set_option maxHeartbeats 1000000 in
theorem l2Linear (A : Option Addr) (m c : Nat) (t : List Int) (w : World) (h : Seg w w.heap.size A m t) (hm : m ≤ 1048576) :
    Calls Try.prog 79 #[.slice A m c] w fun e w' => w = w' ∧ e = .returned (.bool (linB t)) := by
  have HL := Lib.hid h.1
  go_enter Try.func79, Try.ntmps79
  go_wp2
  go_loop [3] (fun i => HeadLin m t i) (fun i => m - (intOf i).toNat)
  case atStart => exact ⟨0, Nat.zero_le _, rfl, fun j hj => absurd hj (Nat.not_lt_zero _)⟩
  case round =>
    obtain ⟨k, hk, rfl, hlin⟩ := hrel
    have HLIN := Lib.hid hlin
    clear hlin
    by_cases hlt : k < m
    · have L := fun x => l1Count A m c t x w h hm
      obtain ⟨b, off, x, rfl, -, hx, ex⟩ := h.spot hlt
      have hmem : x ∈ t := by
        have hkl : k < t.length := by rw [HL.out]; exact hlt
        have := ex.out
        rw [← this]
        simp [List.getD, hkl]
      by_cases hneg : x < 0
      · have LX := Lib.hid (L x)
        obtain ⟨z, hz⟩ : ∃ z, cnt t x t.length = z := ⟨_, rfl⟩
        have hzl : z ≤ m := by rw [← hz]; have := cnt_le t x t.length; rw [HL.out] at this ⊢; exact this
        rw [hz] at LX
        by_cases h1 : 1 < z
        · have F := Lib.hid (lin_no hmem hneg (by unfold many; rw [hz]; exact h1))
          clear L h ex hmem hz
          go_wp2_with fail
          refine LX.out.mono ?_
          rintro e w' ⟨rfl, rfl⟩
          clear LX
          go_wp2
          go_ret
          exact ⟨rfl, by rw [F.out]; rfl⟩
        · have S : HeadLin m t (.int .i64 ((k : Int) + 1)) := ⟨k + 1, hlt, by simp, fun j hj h0 => by
            by_cases e : j = k
            · subst e; rw [ex.out]; unfold many; rw [hz]; omega
            · exact HLIN.out j (by omega) h0⟩
          replace S := Lib.hid S
          clear L h ex hmem hz
          go_wp2_with fail
          refine LX.out.mono ?_
          rintro e w' ⟨rfl, rfl⟩
          clear LX
          go_wp2
          go_round
          case rel => exact S.out
          case measure => simp [intOf]; omega
      · have S : HeadLin m t (.int .i64 ((k : Int) + 1)) := ⟨k + 1, hlt, by simp, fun j hj h0 => by
          by_cases e : j = k
          · subst e; rw [ex.out] at h0; omega
          · exact HLIN.out j (by omega) h0⟩
        replace S := Lib.hid S
        have d1 : decide (x < 0) = false := by simp; omega
        clear L h ex hmem
        go_wp2
        go_round
        case rel => exact S.out
        case measure => simp [intOf]; omega
    · have F : linB t = true := lin_yes (fun x hx h0 => by
        obtain ⟨j, hj, rfl⟩ := List.getElem_of_mem hx
        have e : t.getD j 0 = t[j] := by simp [List.getD, hj]
        rw [← e]
        exact HLIN.out j (by rw [HL.out] at hj; omega) (by rw [e]; exact h0))
      have HF := Lib.hid F
      clear F h
      go_wp2
      go_ret
      exact ⟨rfl, by rw [HF.out]; rfl⟩

/-- the head of the loop over the variables -/
def HeadLinV (w : World) (A : Option Addr) (n c : Nat) (V : Option Addr) (vn : Nat) (t : List Int) (i : Value) (wr : World) : Prop :=
  ∃ k : Nat, k ≤ vn ∧ i = .int .i64 k ∧ (∀ j, j < k → many t (-1 - (vars t).getD j 0) ≤ 1) ∧ Seg wr wr.heap.size V vn (vars t) ∧ Row wr w.heap.size 26 #[.slice A n c] ∧ Below w.heap.size w wr
theorem vars_neg {t : List Int} {x : Int} : x ∈ vars t ↔ (-1 - x ∈ t ∧ 0 ≤ x) := by
  rw [vars_mem]
  unfold negs
  rw [List.mem_map]
  constructor
  · rintro ⟨y, hy, rfl⟩
    rw [List.mem_filter] at hy
    have h1 : y < 0 := by simpa using hy.2
    exact ⟨by rw [show -1 - (-1 - y) = y by omega]; exact hy.1, by omega⟩
  · rintro ⟨h1, h2⟩
    exact ⟨-1 - x, List.mem_filter.2 ⟨h1, by simp; omega⟩, by omega⟩

set_option maxHeartbeats 2000000 in
theorem implLinearIn (A A' : Option Addr) (n c m c' : Nat) (sg t : List Int) (w : World) (h : Seg w w.heap.size A n sg) (h' : Seg w w.heap.size A' m t) (hn : n ≤ 1048576) (hm : m ≤ 1048576) :
    Calls Try.prog 108 #[.agg #[.slice A n c], .slice A' m c'] w (AnsB w (linearB sg t)) := by
  obtain ⟨W, hW⟩ : ∃ W, W = w.alloc (.cells #[.slice A n c] 26) := ⟨_, rfl⟩
  have rA : Row W w.heap.size 26 #[.slice A n c] := by rw [hW]; exact Row.new _ _ _
  have bel : Below w.heap.size w W := by rw [hW]; exact (Below.refl _ _).alloc (Nat.le_refl _) _
  have s := (h.below bel).more bel.size
  have s' := (h'.below bel).more bel.size
  have HW := Lib.hid hW
  have HL := Lib.hid h'.1
  have L := Lib.hid (implTermOk A A' n c m c' sg t W s s' hn hm)
  clear hW
  cases hok : termOkB sg t with
  | false =>
    have HS := Lib.hid hok
    clear hok s s' h h'
    go_enter Try.func108, Try.ntmps108
    go_wp2_with fail
    rw [← HW.out]
    refine L.out.mono ?_
    rintro e w1 ⟨he, bb⟩
    rw [HS.out] at he
    subst he
    have F := Lib.hid (ansB (b := linearB sg t) (a := false) (by unfold linearB; rw [HS.out]; rfl) (next_trans bel bb))
    clear bb bel rA
    go_wp2
    go_ret
    exact F.out
  | true =>
    have HS := Lib.hid hok
    have HT := Lib.hid (fun x hx => term_mem (x := x) hok hx)
    have H60 := (term_len hok).2
    clear hok
    go_enter Try.func108, Try.ntmps108
    go_wp2_with fail
    rw [← HW.out]
    refine L.out.mono ?_
    rintro e w1 ⟨he, bb⟩
    rw [HS.out] at he
    subst he
    have L2 := Lib.hid (implVarsOf A A' n c m c' sg t w1 (s.next bb) (s'.next bb) hn hm)
    have cA : w1.cell? ⟨w.heap.size, 0, none⟩ = some (.slice A n c) := (rA.next bb).cell 0
    clear L s s'
    go_wp2_with fail
    refine L2.out.mono ?_
    rintro e w2 ⟨V, vn, vc, rfl, o2, b2⟩
    rw [show varsI sg t = vars t from if_pos HS.out] at o2
    have hvn : vn ≤ 60 := by have h1 := Own.len o2; have h2 := vars_len t; omega
    have S0 : HeadLinV w A n c V vn t (.int .i64 0) w2 := ⟨0, Nat.zero_le _, rfl, fun j hj => absurd hj (Nat.not_lt_zero _), Own.seg o2, (rA.next bb).next b2, next_trans (next_trans bel bb) b2⟩
    have HS0 := Lib.hid S0
    clear S0 o2 b2 L2 bb bel rA cA
    go_wp2_with fail
    go_loopw [15] (fun i wr => HeadLinV w A n c V vn t i wr) (fun i _ => vn - (intOf i).toNat)
    case atStart => exact HS0.out
    case round =>
      obtain ⟨k, hk, rfl, hlow, sv, hr, hb⟩ := hrel
      have HLOW := Lib.hid hlow
      clear hlow HS0
      have HSV := Lib.hid sv.1
      by_cases hlt : k < vn
      · obtain ⟨b, off, x, rfl, -, hx, ex⟩ := sv.spot hlt
        have hmem : x ∈ vars t := by
          have hkl : k < (vars t).length := by rw [HSV.out]; exact hlt
          have := ex.out
          rw [← this]
          simp [List.getD, hkl]
        have hmem2 := vars_neg.1 hmem
        have hx24 := HT.out _ hmem2.1
        have hx0 : 0 ≤ x := hmem2.2
        have hx1 : x ≤ 23 := by omega
        have cA : wr.cell? ⟨w.heap.size, 0, none⟩ = some (.slice A n c) := hr.cell 0
        have L3 := Lib.hid (implCountOf A A' n c m c' sg t (-1 - x) wr ((h.below hb).more hb.size) ((h'.below hb).more hb.size) hn hm (by omega) (by omega))
        have EC := Lib.hid (show countI sg t (-1 - x) = (many t (-1 - x) : Int) from if_pos HS.out)
        obtain ⟨z, hz⟩ : ∃ z, many t (-1 - x) = z := ⟨_, rfl⟩
        have HZ := Lib.hid hz
        clear hz
        have hzl : z ≤ 60 := by rw [← HZ.out]; unfold many; have := cnt_le t (-1 - x) t.length; omega
        have F1 := Lib.hid (fun (h1 : 1 < z) => lin_no hmem2.1 (by omega) (by rw [HZ.out]; exact h1))
        clear hmem hmem2 hx24 h h'
        go_wp2_with fail
        refine L3.out.mono ?_
        rintro e w3 ⟨he, b3⟩
        rw [EC.out, HZ.out] at he
        subst he
        have hb3 := next_trans hb b3
        by_cases h1 : 1 < z
        · have F := Lib.hid (ansB (b := linearB sg t) (a := false) (by unfold linearB; rw [HS.out, F1.out h1]; rfl) hb3)
          clear hb3 b3 hb hr sv ex L3 cA
          go_wp2
          go_ret
          exact F.out
        · have S : HeadLinV w A n c (some ⟨b, off, none⟩) vn t (.int .i64 ((k : Int) + 1)) w3 := ⟨k + 1, hlt, by simp, fun j hj => by
            by_cases e : j = k
            · subst e; rw [ex.out, HZ.out]; omega
            · exact HLOW.out j (by omega), sv.next b3, hr.next b3, hb3⟩
          replace S := Lib.hid S
          clear hb3 b3 hb hr sv ex L3 cA
          go_wp2
          go_roundw
          case rel => exact S.out
          case measure => simp [intOf]; omega
      · have F : linB t = true := lin_yes (fun x hx h0 => by
          have h1 : -1 - x ∈ vars t := vars_neg.2 ⟨by rw [show -1 - (-1 - x) = x by omega]; exact hx, by omega⟩
          obtain ⟨j, hj, e⟩ := List.getElem_of_mem h1
          have e2 : (vars t).getD j 0 = -1 - x := by simp [List.getD, hj, e]
          have h3 := HLOW.out j (by rw [HSV.out] at hj; omega)
          rw [e2, show -1 - (-1 - x) = x by omega] at h3
          exact h3)
        have HF := Lib.hid (ansB (b := linearB sg t) (a := true) (by unfold linearB; rw [HS.out, F]; rfl) hb)
        clear F hb hr sv h h'
        go_wp2
        go_ret
        exact HF.out
end Go.Proofs.Ytdkjafjphgcbjaa.linear
end

section
/-
  PLAIN MATHEMATICS of renaming: the order in which variables stand first ('orderL'), the place in it ('idx'), a term renamed ('renL'). Conditions: none. By an AI agent.
-/
namespace Go.Proofs.Ytdkjafjphgcbjaa.renMath
open Go.Proofs.Ytdkjafjphgcbjaa.sig Go.Proofs.Ytdkjafjphgcbjaa.term Go.Proofs.Ytdkjafjphgcbjaa.termOk Go.Proofs.Ytdkjafjphgcbjaa.termFacts Go.Proofs.Ytdkjafjphgcbjaa.varsMath Go.Proofs.Ytdkjafjphgcbjaa.fillMath

/-- the first place of a number -/
def idx : List Int → Int → Nat
  | [], _ => 0
  | y :: r, x => if y = x then 0 else idx r x + 1
theorem idx_lt : ∀ {o : List Int} {x : Int}, x ∈ o → idx o x < o.length
  | y :: r, x, h => by
    rw [idx]
    split
    · simp
    · rename_i h1
      rcases List.mem_cons.1 h with e | e
      · exact absurd e.symm h1
      · have := idx_lt e; simp; omega
theorem idx_not : ∀ {o : List Int} {x : Int}, x ∉ o → idx o x = o.length
  | [], _, _ => rfl
  | y :: r, x, h => by
    have h1 : ¬ y = x := fun e => h (by rw [e]; exact List.mem_cons_self ..)
    rw [idx, if_neg h1, idx_not (fun e => h (List.mem_cons_of_mem _ e))]
    rfl
theorem idx_get : ∀ {o : List Int} {x : Int}, x ∈ o → o.getD (idx o x) 0 = x
  | y :: r, x, h => by
    rw [idx]
    split
    · rename_i h1; simpa using h1
    · rename_i h1
      rcases List.mem_cons.1 h with e | e
      · exact absurd e.symm h1
      · simpa using idx_get e
theorem idx_first : ∀ {o : List Int} {x : Int} {k : Nat}, k < o.length → (∀ j, j < k → o.getD j 0 ≠ x) → o.getD k 0 = x → idx o x = k
  | y :: r, x, 0, _, _, h => by
    have h : y = x := by simpa using h
    rw [idx, if_pos h]
  | y :: r, x, k + 1, hk, hl, h => by
    have h0 : ¬ y = x := by simpa using hl 0 (by omega)
    rw [idx, if_neg h0, idx_first (k := k) (by simpa using hk) (fun j hj => by simpa using hl (j + 1) (by omega)) (by simpa using h)]
theorem idx_app_mem : ∀ {o q : List Int} {x : Int}, x ∈ o → idx (o ++ q) x = idx o x
  | y :: r, q, x, h => by
    rw [List.cons_append, idx, idx]
    split
    · rfl
    · rename_i h1
      rcases List.mem_cons.1 h with e | e
      · exact absurd e.symm h1
      · rw [idx_app_mem e]
theorem idx_app_new {o : List Int} {x : Int} (h : x ∉ o) : idx (o ++ [x]) x = o.length := by
  refine idx_first (by simp) (fun j hj => ?_) (by simp)
  have e : (o ++ [x]).getD j 0 = o[j] := by simp [List.getD, List.getElem?_append_left hj, hj]
  rw [e]
  exact fun e2 => h (by rw [← e2]; exact List.getElem_mem hj)
theorem idx_map {f : Int → Int} (hf : ∀ a b, f a = f b → a = b) : ∀ (o : List Int) (x : Int), idx (o.map f) (f x) = idx o x
  | [], _ => rfl
  | y :: r, x => by
    rw [List.map_cons, idx, idx]
    by_cases h : y = x
    · rw [if_pos h, if_pos (by rw [h])]
    · rw [if_neg h, if_neg (fun e => h (hf _ _ e)), idx_map hf r x]
theorem mem_map_inj {f : Int → Int} (hf : ∀ a b, f a = f b → a = b) {o : List Int} {x : Int} : f x ∈ o.map f ↔ x ∈ o := by
  rw [List.mem_map]
  exact ⟨fun ⟨y, hy, e⟩ => by rw [← hf _ _ e]; exact hy, fun h => ⟨x, h, rfl⟩⟩

/-- with one more, unless it is there -/
def ext (o : List Int) (x : Int) : List Int := if x ∈ o then o else o ++ [x]
/-- with a number's variable, if it is one -/
def extV (o : List Int) (x : Int) : List Int := if x < 0 then ext o x else o
/-- the variables in the order in which they stand first -/
def orderL (t : List Int) : List Int := t.foldl extV []
theorem order_take {t : List Int} {k : Nat} {x : Int} (hk : k < t.length) (hx : t.getD k 0 = x) : orderL (t.take (k + 1)) = extV (orderL (t.take k)) x := by
  unfold orderL
  rw [take_snoc hk hx, List.foldl_append]
  rfl
theorem ext_mem {o : List Int} {x y : Int} : y ∈ ext o x ↔ y = x ∨ y ∈ o := by
  unfold ext
  split
  · rename_i h
    exact ⟨fun e => .inr e, fun e => by rcases e with e | e; exact e ▸ h; exact e⟩
  · rw [List.mem_append, List.mem_singleton, or_comm]
theorem extV_mem {o : List Int} {x y : Int} : y ∈ extV o x ↔ (y = x ∧ x < 0) ∨ y ∈ o := by
  unfold extV
  split
  · rename_i h
    rw [ext_mem]
    exact ⟨fun e => by rcases e with e | e; exact .inl ⟨e, h⟩; exact .inr e, fun e => by rcases e with e | e; exact .inl e.1; exact .inr e⟩
  · rename_i h
    exact ⟨fun e => .inr e, fun e => by rcases e with e | e; exact absurd e.2 h; exact e⟩
theorem fold_ext_mem {y : Int} : ∀ {l o : List Int}, y ∈ l.foldl extV o ↔ (y ∈ l ∧ y < 0) ∨ y ∈ o
  | [], o => by simp
  | x :: l, o => by
    rw [List.foldl_cons, fold_ext_mem, extV_mem, List.mem_cons]
    constructor
    · rintro (⟨h, h0⟩ | ⟨rfl, h0⟩ | h)
      · exact .inl ⟨.inr h, h0⟩
      · exact .inl ⟨.inl rfl, h0⟩
      · exact .inr h
    · rintro (⟨rfl | h, h0⟩ | h)
      · exact .inr (.inl ⟨rfl, h0⟩)
      · exact .inl ⟨h, h0⟩
      · exact .inr (.inr h)
theorem order_mem {t : List Int} {y : Int} : y ∈ orderL t ↔ y ∈ t ∧ y < 0 := by unfold orderL; rw [fold_ext_mem]; simp
theorem ext_nodup {o : List Int} {x : Int} (h : o.Nodup) : (ext o x).Nodup := by
  unfold ext
  split
  · exact h
  · rename_i hx
    rw [List.nodup_append]
    exact ⟨h, by simp, fun a ha b hb => by simp at hb; subst hb; exact fun e => hx (e ▸ ha)⟩
theorem fold_nodup : ∀ {l o : List Int}, o.Nodup → (l.foldl extV o).Nodup
  | [], _, h => h
  | x :: l, o, h => by
    rw [List.foldl_cons]
    refine fold_nodup ?_
    unfold extV
    split
    · exact ext_nodup h
    · exact h
theorem order_nodup (t : List Int) : (orderL t).Nodup := fold_nodup List.nodup_nil
theorem ext_len (o : List Int) (x : Int) : (ext o x).length ≤ o.length + 1 := by unfold ext; split <;> simp
theorem fold_ext_len : ∀ (l o : List Int), (l.foldl extV o).length ≤ o.length + l.length
  | [], _ => by simp
  | x :: l, o => by
    have h1 := fold_ext_len l (extV o x)
    have h2 : (extV o x).length ≤ o.length + 1 := by unfold extV; split; exact ext_len o x; simp
    simp
    omega
theorem order_len (t : List Int) : (orderL t).length ≤ t.length := by have := fold_ext_len t []; simpa [orderL] using this

/-- a number by an order -/
def ren (o : List Int) (n : Int) : Int := if n < 0 then -1 - (idx o n : Int) else n
/-- a term renamed -/
def renL (t : List Int) : List Int := t.map (ren (orderL t))
theorem ren_ext {o : List Int} {x n : Int} (h : n < 0 → n ∈ o) : ren (extV o x) n = ren o n := by
  unfold ren
  split
  · rename_i h0
    unfold extV ext
    split
    · split
      · rfl
      · rw [idx_app_mem (h h0)]
    · rfl
  · rfl
theorem ren_take {t : List Int} {k : Nat} {x : Int} (hk : k < t.length) (hx : t.getD k 0 = x) : renL (t.take (k + 1)) = renL (t.take k) ++ [ren (extV (orderL (t.take k)) x) x] := by
  unfold renL
  rw [order_take hk hx, take_snoc hk hx, List.map_append]
  congr 1
  refine List.map_congr_left (fun n hn => ren_ext (fun h0 => order_mem.2 ⟨hn, h0⟩))
theorem ren_len (t : List Int) : (renL t).length = t.length := by simp [renL]
/-- what Renamed answers -/
def renI (sg t : List Int) : List Int := if termOkB sg t = true then renL t else []
theorem renI_len {sg t : List Int} {m : Nat} (h : t.length = m) (hm : m ≤ 1048576) : (renI sg t).length ≤ 1048576 := by
  unfold renI
  split
  · rw [ren_len]; omega
  · simp
/-- a place of an order without a number twice -/
theorem idx_nodup {o : List Int} (h : o.Nodup) {k : Nat} (hk : k < o.length) {x : Int} (hx : o.getD k 0 = x) : idx o x = k := by
  refine idx_first hk (fun j hj e => ?_) hx
  have h1 : o[j]'(by omega) = o[k] := by
    have a : o.getD j 0 = o[j]'(by omega) := by simp [List.getD, show j < o.length by omega]
    have b : o.getD k 0 = o[k] := by simp [List.getD, hk]
    rw [← a, ← b, e, hx]
  exact (List.pairwise_iff_getElem.1 h) j k (by omega) hk hj h1
end Go.Proofs.Ytdkjafjphgcbjaa.renMath
end

section
/-
  PURE: rules and systems of rules, and what chapter 6 tells about them. A rule is a pair of lists, a system a list of arities and a list of rules. Conditions: none. By an AI agent.
-/
namespace Go.Proofs.Ytdkjafjphgcbjaa.ruleMath
open Go.Proofs.Ytdkjafjphgcbjaa.sig Go.Proofs.Ytdkjafjphgcbjaa.term Go.Proofs.Ytdkjafjphgcbjaa.termOk Go.Proofs.Ytdkjafjphgcbjaa.termFacts Go.Proofs.Ytdkjafjphgcbjaa.varsMath Go.Proofs.Ytdkjafjphgcbjaa.count Go.Proofs.Ytdkjafjphgcbjaa.linear Go.Proofs.Ytdkjafjphgcbjaa.renMath

abbrev Rl := List Int × List Int
/-- the head of a list of numbers -/
def hd (t : List Int) : Int := t.getD 0 0
/-- a variable that L lacks -/
def newB (l : List Int) (x : Int) : Bool := decide (x < 0 ∧ x ∉ l)
def ruleOkB (sg : List Int) (r : Rl) : Bool := termOkB sg r.1 && (termOkB sg r.2 && (!decide (hd r.1 < 0) && !r.2.any (newB r.1)))
def sysOkB (sg : List Int) (rs : List Rl) : Bool := sigOkB sg && (decide (rs.length ≤ 12) && rs.all (ruleOkB sg))

theorem rule_parts {sg : List Int} {r : Rl} (h : ruleOkB sg r = true) : termOkB sg r.1 = true ∧ termOkB sg r.2 = true ∧ 0 ≤ hd r.1 ∧ ∀ x, x ∈ r.2 → x < 0 → x ∈ r.1 := by
  unfold ruleOkB at h
  simp only [Bool.and_eq_true, Bool.not_eq_true', decide_eq_false_iff_not] at h
  refine ⟨h.1, h.2.1, by omega, fun x hx h0 => ?_⟩
  have h1 := h.2.2.2
  rw [List.any_eq_false] at h1
  have h2 := h1 x hx
  unfold newB at h2
  simp only [decide_eq_true_eq] at h2
  exact Classical.byContradiction fun hn => h2 ⟨h0, hn⟩
theorem sys_parts {sg : List Int} {rs : List Rl} (h : sysOkB sg rs = true) : sigOkB sg = true ∧ rs.length ≤ 12 ∧ ∀ r ∈ rs, ruleOkB sg r = true := by
  unfold sysOkB at h
  simp only [Bool.and_eq_true, decide_eq_true_eq, List.all_eq_true] at h
  exact ⟨h.1, h.2.1, h.2.2⟩
theorem sys_mk {sg : List Int} {rs : List Rl} (h1 : sigOkB sg = true) (h2 : rs.length ≤ 12) (h3 : ∀ r ∈ rs, ruleOkB sg r = true) : sysOkB sg rs = true := by
  unfold sysOkB
  simp only [Bool.and_eq_true, decide_eq_true_eq, List.all_eq_true]
  exact ⟨h1, h2, h3⟩
theorem sys_sig {sg : List Int} {rs : List Rl} (h : sigOkB sg = false) : sysOkB sg rs = false := by unfold sysOkB; rw [h]; rfl
theorem sys_long {sg : List Int} {rs : List Rl} {n : Nat} (hl : rs.length = n) (h : ¬ n ≤ 12) : sysOkB sg rs = false := by
  unfold sysOkB; rw [hl, decide_eq_false h]; simp
theorem rl_mem {rs : List Rl} {k : Nat} (hk : k < rs.length) : rs.getD k ([], []) ∈ rs := by
  have : rs.getD k ([], []) = rs[k] := by simp [List.getD, hk]
  rw [this]; exact List.getElem_mem hk
theorem sys_bad {sg : List Int} {rs : List Rl} {k : Nat} (hk : k < rs.length) (h : ruleOkB sg (rs.getD k ([], [])) = false) : sysOkB sg rs = false := by
  cases hs : sysOkB sg rs with
  | false => rfl
  | true => have := (sys_parts hs).2.2 _ (rl_mem hk); rw [h] at this; cases this
theorem all_rounds {rs : List Rl} {P : Rl → Prop} (h : ∀ j, j < rs.length → P (rs.getD j ([], []))) : ∀ r ∈ rs, P r := by
  intro r hr
  obtain ⟨i, hi, rfl⟩ := List.getElem_of_mem hr
  have := h i hi
  simpa [List.getD, hi] using this
theorem any_rounds {rs : List Rl} {f : Rl → Bool} (h : ∀ j, j < rs.length → f (rs.getD j ([], [])) = false) : rs.any f = false := by
  rw [List.any_eq_false]
  intro r hr
  rw [all_rounds (P := fun r => f r = false) h r hr]
  simp
theorem any_round {rs : List Rl} {f : Rl → Bool} {k : Nat} (hk : k < rs.length) (h : f (rs.getD k ([], [])) = true) : rs.any f = true := by
  rw [List.any_eq_true]; exact ⟨_, rl_mem hk, h⟩
theorem sys_good {sg : List Int} {rs : List Rl} (h1 : sigOkB sg = true) (h2 : rs.length ≤ 12) (h3 : ∀ j, j < rs.length → ruleOkB sg (rs.getD j ([], [])) = true) : sysOkB sg rs = true :=
  sys_mk h1 h2 (all_rounds h3)

/-! ### the same -/
def sameRB (a b : Rl) : Bool := decide (a = b)
def sameSB (sg sg' : List Int) (rs rs' : List Rl) : Bool := sysOkB sg rs && (decide (sg = sg') && decide (rs = rs'))
theorem same_sys {sg sg' : List Int} {rs rs' : List Rl} (h : sysOkB sg' rs' = false) : sameSB sg sg' rs rs' = false := by
  unfold sameSB
  cases h1 : sysOkB sg rs with
  | false => rfl
  | true =>
    rw [Bool.true_and]
    by_cases e1 : sg = sg'
    · by_cases e2 : rs = rs'
      · subst e1 e2; rw [h1] at h; cases h
      · rw [decide_eq_false e2]; simp
    · rw [decide_eq_false e1]; rfl
theorem lists_eq {rs rs' : List Rl} (hl : rs.length = rs'.length) (h : ∀ j, j < rs.length → rs.getD j ([], []) = rs'.getD j ([], [])) : rs = rs' :=
  List.ext_getElem hl fun j h1 h2 => by
    have := h j h1
    simpa [List.getD, h1, h2] using this

/-! ### the forms -/
def leftB (rs : List Rl) : Bool := !rs.any fun r => !linB r.1
def leftLinB (sg : List Int) (rs : List Rl) : Bool := sysOkB sg rs && leftB rs
def fallsB (r : Rl) : Bool := decide (hd r.2 < 0)
def collB (sg : List Int) (rs : List Rl) : Bool := sysOkB sg rs && rs.any fallsB
def moreB (r : Rl) (x : Int) : Bool := decide (x < 0 ∧ many r.1 x < many r.2 x)
def dblB (r : Rl) : Bool := r.2.any (moreB r)
def dupB (sg : List Int) (rs : List Rl) : Bool := sysOkB sg rs && rs.any dblB

/-! ### what is defined -/
def heads (rs : List Rl) : List Int := rs.map fun r => hd r.1
def defL (rs : List Rl) : List Int := (heads rs).foldl into []
def isDef (rs : List Rl) (x : Int) : Bool := rs.any fun r => decide (hd r.1 = x)
theorem isDef_mem {rs : List Rl} {x : Int} : isDef rs x = decide (x ∈ defL rs) := by
  unfold isDef defL
  rw [Bool.eq_iff_iff, List.any_eq_true, decide_eq_true_eq, fold_mem]
  unfold heads
  simp only [List.mem_map, decide_eq_true_eq, List.not_mem_nil, false_or]
theorem def_mem {rs : List Rl} {x : Int} : x ∈ defL rs ↔ ∃ r ∈ rs, hd r.1 = x := by
  unfold defL
  rw [fold_mem]
  unfold heads
  simp only [List.mem_map, List.not_mem_nil, false_or]
theorem def_len (rs : List Rl) : (defL rs).length ≤ rs.length := by
  have := fold_len (heads rs) []
  unfold heads at this
  simp only [List.length_map, List.length_nil, Nat.zero_add] at this
  exact this
theorem def_rises (rs : List Rl) : Rises (defL rs) := fold_rises List.Pairwise.nil
theorem def_take {rs : List Rl} {k : Nat} (hk : k < rs.length) : defL (rs.take (k + 1)) = into (defL (rs.take k)) (hd (rs.getD k ([], [])).1) := by
  unfold defL heads
  rw [List.take_succ_eq_append_getElem hk, List.map_append, List.foldl_append]
  simp [List.getD, hk]
/-- the numbers below n that keep to p -/
def symL (p : Int → Bool) : Nat → List Int
  | 0 => []
  | n + 1 => symL p n ++ (if p (n : Int) = true then [(n : Int)] else [])
theorem sym_mem {p : Int → Bool} {x : Int} : ∀ {n : Nat}, x ∈ symL p n ↔ (0 ≤ x ∧ x < (n : Int)) ∧ p x = true
  | 0 => by simp [symL]; omega
  | n + 1 => by
    rw [symL, List.mem_append, sym_mem]
    constructor
    · rintro (⟨⟨h1, h2⟩, h3⟩ | h)
      · exact ⟨⟨h1, by omega⟩, h3⟩
      · split at h
        · rename_i hp
          simp only [List.mem_singleton] at h
          subst h
          exact ⟨⟨by omega, by omega⟩, hp⟩
        · cases h
    · rintro ⟨⟨h1, h2⟩, h3⟩
      by_cases e : x = (n : Int)
      · subst e
        right
        rw [if_pos h3]
        simp
      · left
        exact ⟨⟨h1, by omega⟩, h3⟩
theorem sym_rises {p : Int → Bool} : ∀ n : Nat, Rises (symL p n)
  | 0 => List.Pairwise.nil
  | n + 1 => by
    rw [symL]
    refine List.pairwise_append.2 ⟨sym_rises n, ?_, fun a ha b hb => ?_⟩
    · split
      · exact List.pairwise_singleton _ _
      · exact List.Pairwise.nil
    · have h1 := (sym_mem.1 ha).1.2
      split at hb
      · simp only [List.mem_singleton] at hb
        omega
      · cases hb
theorem sym_len {p : Int → Bool} : ∀ n : Nat, (symL p n).length ≤ n
  | 0 => Nat.le_refl _
  | n + 1 => by
    rw [symL, List.length_append]
    have := sym_len (p := p) n
    split <;> simp <;> omega
/-- a symbol of a right term -/
theorem head_bd {sg t : List Int} (h : termOkB sg t = true) (h0 : 0 ≤ hd t) : hd t < (sg.length : Int) := by
  have h1 := term_ar h (j := 0) (by have := (term_len h).1; omega)
  unfold hd at h0 ⊢
  by_cases h2 : t.getD 0 0 < (sg.length : Int)
  · exact h2
  · rw [ar_no (by omega) (by omega)] at h1
    omega
theorem def_sym {sg : List Int} {rs : List Rl} (h : sysOkB sg rs = true) : defL rs = symL (isDef rs) sg.length := by
  refine rises_unique (def_rises rs) (sym_rises _) fun x => ?_
  rw [sym_mem, isDef_mem, decide_eq_true_eq]
  constructor
  · intro hx
    obtain ⟨r, hr, rfl⟩ := def_mem.1 hx
    have h1 := rule_parts ((sys_parts h).2.2 r hr)
    exact ⟨⟨h1.2.2.1, head_bd h1.1 h1.2.2.1⟩, hx⟩
  · exact fun h => h.2
def definedI (sg : List Int) (rs : List Rl) : List Int := if sysOkB sg rs = true then defL rs else []
def consI (sg : List Int) (rs : List Rl) : List Int := if sysOkB sg rs = true then symL (fun x => !isDef rs x) sg.length else []
/-- a defined symbol below the head -/
def nestB (rs : List Rl) (r : Rl) : Bool := (r.1.drop 1).any (isDef rs)
def consB (sg : List Int) (rs : List Rl) : Bool := sysOkB sg rs && !rs.any (nestB rs)
theorem parts_len {p : Int → Bool} : ∀ n : Nat, (symL p n).length + (symL (fun x => !p x) n).length = n
  | 0 => rfl
  | n + 1 => by
    have := parts_len (p := p) n
    rw [symL, symL, List.length_append, List.length_append]
    cases p (n : Int) <;> simp <;> omega

/-! ### a rule whose variables are renumbered in the order of L -/
def byL (o t : List Int) : List Int := t.map (ren o)
theorem byL_own (t : List Int) : byL (orderL t) t = renL t := rfl
theorem byL_len (o t : List Int) : (byL o t).length = t.length := by unfold byL; rw [List.length_map]
def renR (r : Rl) : Rl := (renL r.1, byL (orderL r.1) r.2)
def renRI (sg : List Int) (r : Rl) : Rl := if ruleOkB sg r = true then renR r else ([], [])
end Go.Proofs.Ytdkjafjphgcbjaa.ruleMath
end
