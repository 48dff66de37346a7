/-
  MERGED: my texts DrawSig, DrawTerm, DrawAny, DrawNew, DrawPairL, DrawOne, DrawAt, Segs, DrawPath, SegsHelp, Concat, PutMath, Put, one behind the other, as they are. By an AI agent.
-/
import Derived.Test.YtobifgobipcmdaaMFnPaths2
import Derived.Deep.AppendLies
import Derived.Deep.RegionLaw
import Derived.Deep.RegionHeld3
import Derived.Deep.QuietTactic
import Derived.BigQuiet
import Derived.Lib.AppendZeros
import Derived.Deep.LoopGhost
section
/-
  CONTRACTS: spec.l1DrawSig, spec.l1DrawSigAny: a drawn signature. Conditions: a drawing cursor ('Dice'). By an AI agent.
-/
namespace Go.Proofs.Ytobifgobipcmdaa.drawSig
open Go.RowKit Go.Proofs.Ytobifgobipcmdaa.base Go.Proofs.Ytobifgobipcmdaa.ints Go.Proofs.Ytobifgobipcmdaa.sig Go.Proofs.Ytobifgobipcmdaa.cursor Go.Proofs.Ytobifgobipcmdaa.marks Go.Proofs.Ytobifgobipcmdaa.app Go.Proofs.Ytobifgobipcmdaa.sym Go.Proofs.Ytobifgobipcmdaa.dice
set_option maxRecDepth 100000

/-- one number appended, at a step of a region that draws -/
theorem stepApp1 {w : World} {ops : Array Oper} {o : Oper} {a : Act} {K : Act → World → Prop} {Q : Exit → Act → World → Prop} {E : Prop} (hgd : o.guard = none) (s x : Operand)
    (ho : o.op = .call { callee := .builtin .append, args := #[s, x], argTypes := #[24, 24] })
    (base : Nat) (A : Option Addr) (n c : Nat) (xs : List Int) (hs : a.eval s = .slice A n c) (hown : Own w base (.slice A n c) xs)
    (g c2 : Nat) (y : Int) (hx : a.eval x = .slice (some ⟨g, 0, none⟩) 1 c2) (hy : w.cell? ⟨g, 0, none⟩ = some (.int .i64 y)) (hn : n ≤ 2097152) (hbase : base ≤ w.heap.size)
    (h : ∀ g' c' w', Own w' base (.slice (some ⟨g', 0, none⟩) (n + 1) c') (xs ++ [y]) → w.grownBy w' (blk A) → (blk A = some g' ∨ g' = w.heap.size) → g' < w'.heap.size → K (a.put o.dst (.slice (some ⟨g', 0, none⟩) (n + 1) c')) w') :
    if Region.wanted o (yielded ops a.tmps) = true then Oper.wp Try.prog o a w K Q else E := by
  obtain ⟨i0, hi, hz0, hz1, hz2⟩ := info_parts info_i64
  have hl : xs.length = n := by
    obtain ⟨A', c', e⟩ := hown.slice
    injection e with _ e _
    exact e.symm
  have hob : (Value.slice A n c).ownBlock = blk A := by cases A <;> rfl
  refine step_append_lies w hgd s x 24 ho base 2 i0 (.int .i64 0) 1 8 Try.underlying24 hi hz0 hz1 hz2 rfl (by decide) (.slice A n c) n (xs.map (Value.int .i64)) hs (by rw [← hl]; rw [← hl] at hown; exact hown)
    ⟨g, 0, none⟩ 1 c2 [.int .i64 y] hx rfl (fun j u hj => ?_) (fun u hu => ?_) (by omega) (by unfold maxLen; omega) (by omega) hbase w.heap.size rfl ?_
  · match j, hj with
    | 0, hj => simp at hj; subst hj; simpa [Addr.add] using hy
  · simp at hu; subst hu; rfl
  · intro g' c' w' hown' hg hat hlt
    have e : xs.map (Value.int .i64) ++ [.int .i64 y] = (xs ++ [y]).map (Value.int .i64) := by simp
    rw [e] at hown'
    rw [hob] at hg hat
    refine h g' c' w' ?_ hg hat hlt
    have hl2 : (xs ++ [y]).length = n + 1 := by simp [hl]
    unfold Own
    rw [hl2]
    exact hown'

/-- a drawn signature -/
def AnsSigD (w : World) (p : Nat) (A : Option Addr) (n c : Nat) (P : List Int → Prop) (e : Ending) (w' : World) : Prop :=
  ∃ O on oc xs, e = .returned (.agg #[.slice O on oc]) ∧ Own w' w.heap.size (.slice O on oc) xs ∧ P xs ∧ Dice w' p A n c ∧ w.grownBy w' (some p)
/-- a good one -/
def Good (xs : List Int) : Prop := 1 ≤ xs.length ∧ xs.length ≤ 4 ∧ ∀ j, j < xs.length → 0 ≤ xs.getD j 0 ∧ xs.getD j 0 ≤ 2

theorem good_snoc {xs : List Int} {x : Int} (h1 : 1 ≤ xs.length) (h2 : xs.length ≤ 3) (h : ∀ j, j < xs.length → 0 ≤ xs.getD j 0 ∧ xs.getD j 0 ≤ 2) (h0 : 0 ≤ x) (hx : x ≤ 2) : Good (xs ++ [x]) := by
  refine ⟨by simp, by simp; omega, fun j hj => ?_⟩
  by_cases e : j < xs.length
  · have := h j e
    simpa [List.getD, e, List.getElem?_append_left e] using this
  · have e2 : j = xs.length := by simp at hj; omega
    subst e2
    simp [List.getD]
    omega

/-- the state of a signature that is being drawn: result cell in block N, the variable in block v -/
structure SigSt (w : World) (p : Nat) (A : Option Addr) (n c : Nat) (v : Nat) (wr : World) (O : Option Addr) (on oc : Nat) (xs : List Int) : Prop where
  own : Own wr w.heap.size (.slice O on oc) xs
  rV : Row wr v 26 #[.slice O on oc]
  rN : Row wr w.heap.size 26 #[.slice none 0 0]
  nV : blk O ≠ some v
  nN : blk O ≠ some w.heap.size
  hv : w.heap.size < v
  d : Dice wr p A n c
  g : w.grownBy wr (some p)
  hp : p < w.heap.size

theorem row_grown {w w' : World} {g : Nat} {t : TypeId} {cs : Array Value} {r : Option Nat} (h : Row w g t cs) (hg : w.grownBy w' r) (hr : r ≠ some g) : Row w' g t cs := Row.away h hg hr
theorem Own.away {w w' : World} {base : Nat} {O : Option Addr} {on oc : Nat} {xs : List Int} {r : Option Nat} (h : Own w base (.slice O on oc) xs) (hg : w.grownBy w' r) (hr : ∀ k, r = some k → k < base) : Own w' base (.slice O on oc) xs := Own.far h hg hr

section
variable {w : World} {p : Nat} {A : Option Addr} {n c v : Nat} {wr : World} {O : Option Addr} {on oc : Nat} {xs : List Int}
/-- behind a draw from the dice -/
theorem SigSt.dice {w' : World} (s : SigSt w p A n c v wr O on oc xs) (d : Dice w' p A n c) (hg : wr.grownBy w' (some p)) : SigSt w p A n c v w' O on oc xs :=
  ⟨Own.far s.own hg (fun k hk => by injection hk; have := s.hp; omega), Row.away s.rV hg (fun e => by injection e; have := s.hp; have := s.hv; omega), Row.away s.rN hg (fun e => by injection e; have := s.hp; omega), s.nV, s.nN, s.hv, d, grown_trans s.g hg, s.hp⟩
theorem SigSt.alloc (s : SigSt w p A n c v wr O on oc xs) (o : Obj) : SigSt w p A n c v (wr.alloc o) O on oc xs :=
  ⟨Own.alloc s.own o, s.rV.alloc o, s.rN.alloc o, s.nV, s.nN, s.hv, s.d.alloc o, grown_trans s.g (World.grownBy_alloc wr o _), s.hp⟩
theorem SigSt.drew (s : SigSt w p A n c v wr O on oc xs) : SigSt w p A n c v wr.drew O on oc xs :=
  ⟨Own.drew s.own, s.rV.drew, s.rN.drew, s.nV, s.nN, s.hv, s.d.drewN 1, grown_drewN s.g 1, s.hp⟩
/-- a new slice stored into the variable -/
theorem SigSt.put {w' : World} {O' : Option Addr} {on' oc' : Nat} {ys : List Int} (s : SigSt w p A n c v wr O on oc xs) (ho : Own w' w.heap.size (.slice O' on' oc') ys) (hg : wr.grownBy w' (blk O)) (hat : blk O' = blk O ∨ blk O' = some wr.heap.size) (hO : ∀ k, blk O = some k → w.heap.size ≤ k) :
    SigSt w p A n c v (w'.setCell ⟨v, 0, none⟩ (.slice O' on' oc')) O' on' oc' ys := by
  have hpk : ∀ k, blk O = some k → p + 1 ≤ k := fun k hk => by have := hO k hk; have := s.hp; omega
  have zw := s.rV.lt
  have zn := s.rN.lt
  have nV' : blk O' ≠ some v := by
    rcases hat with h | h
    · rw [h]; exact s.nV
    · rw [h]; intro e; injection e; omega
  have nN' : blk O' ≠ some w.heap.size := by
    rcases hat with h | h
    · rw [h]; exact s.nN
    · rw [h]; intro e; injection e; omega
  have r1 := Row.away s.rV hg s.nV
  have r2 := Row.away s.rN hg s.nN
  have b1 : Below (p + 1) wr w' := (Below.refl _ _).grown hg (by have := s.hp; omega) hpk
  have b0 : Below w.heap.size wr w' := (Below.refl _ _).grown hg (by have := s.g.size; omega) hO
  refine ⟨?_, r1.put 0 _, r2.far (p := ⟨v, 0, none⟩) (by have := s.hv; simp; omega) _, nV', nN', s.hv, ?_, ?_, s.hp⟩
  · have hk : w'.grownBy (w'.setCell ⟨v, 0, none⟩ (.slice O' on' oc')) (some v) := grown_put (World.grownBy.refl _ _) 0 _
    refine World.ownsRow.kept ho hk ?_
    cases O' with
    | none => exact .inl rfl
    | some a => exact .inr (fun e => nV' (by simpa [Value.ownBlock, blk] using e))
  · have d1 := s.d.keep b1
    obtain ⟨i, h, d1⟩ := d1
    have hvp : p < v := by have := s.hp; have := s.hv; omega
    exact ⟨i, h, d1.row.far (p := ⟨v, 0, none⟩) (by simp; omega) _, d1.le, d1.s.keep fun q hq => World.cell?_setCell_other w' _ q _ (fun e => by subst e; have hq : v < p := hq; omega), d1.hn⟩
  · refine ⟨b0.os.trans s.g.os, b0.tape.trans s.g.tape, b0.output.trans s.g.output, by have := s.g.size; have := b0.size; simp only [World.size_setCell]; omega, fun k hk hne => ?_⟩
    rw [Below.heap_setCell _ _ _ _ (by have := s.hv; intro e; have e : k = v := e; omega), b0.block k hk]
    exact s.g.block k hk hne
/-- the result -/
theorem SigSt.result {P : List Int → Prop} (s : SigSt w p A n c v wr O on oc xs) (hP : P xs) (hO : blk O ≠ some w.heap.size) : AnsSigD w p A n c P (.returned (.agg #[.slice O on oc])) (wr.setCell ⟨w.heap.size, 0, none⟩ (.slice O on oc)) := by
  refine ⟨O, on, oc, xs, rfl, ?_, hP, ?_, ?_⟩
  · have hk : wr.grownBy (wr.setCell ⟨w.heap.size, 0, none⟩ (.slice O on oc)) (some w.heap.size) := grown_put (World.grownBy.refl _ _) 0 _
    refine World.ownsRow.kept s.own hk ?_
    cases O with
    | none => exact .inl rfl
    | some a => exact .inr (fun e => hO (by simpa [Value.ownBlock, blk] using e))
  · obtain ⟨i, h, d1⟩ := s.d
    have hp := s.hp
    exact ⟨i, h, d1.row.far (p := ⟨w.heap.size, 0, none⟩) (by simp; omega) _, d1.le, d1.s.keep fun q hq => World.cell?_setCell_other wr _ q _ (fun e => by subst e; have hq : w.heap.size < p := hq; omega), d1.hn⟩
  · refine ⟨s.g.os, s.g.tape, s.g.output, by simpa using s.g.size, fun k hk hne => ?_⟩
    rw [Below.heap_setCell _ _ _ _ (by intro e; have e : k = w.heap.size := e; omega)]
    exact s.g.block k hk hne
end

def HeadSigD (w : World) (p : Nat) (A : Option Addr) (n c v : Nat) (i : Value) (wr : World) : Prop :=
  ∃ (k : Nat) (O : Option Addr) (on oc : Nat) (xs : List Int), i = .int .i64 k ∧ SigSt w p A n c v wr O on oc xs ∧ 1 ≤ xs.length ∧ xs.length + k ≤ 4 ∧ ∀ j, j < xs.length → 0 ≤ xs.getD j 0 ∧ xs.getD j 0 ≤ 2

set_option maxHeartbeats 4000000 in
theorem drawSig (p : Nat) (A : Option Addr) (n c : Nat) (w : World) (hd : Dice w p A n c) :
    Calls Try.prog 81 #[.pointer (some ⟨p, 0, none⟩)] w (AnsSigD w p A n c Good) := by
  have hp := hd.lt
  obtain ⟨W, hW⟩ : ∃ W, W = ((w.alloc (.cells #[.slice none 0 0] 26)).alloc (.cells #[.int .i64 2, .int .i64 1, .int .i64 0] 2)).alloc (.cells #[.slice (some ⟨w.heap.size + 1, 0, none⟩) 3 3] 26) := ⟨_, rfl⟩
  have S0 : SigSt w p A n c (w.heap.size + 1 + 1) W (some ⟨w.heap.size + 1, 0, none⟩) 3 3 [2, 1, 0] := by
    rw [hW]
    have r1 : Row (((w.alloc (.cells #[.slice none 0 0] 26)).alloc (.cells #[.int .i64 2, .int .i64 1, .int .i64 0] 2)).alloc (.cells #[.slice (some ⟨w.heap.size + 1, 0, none⟩) 3 3] 26)) (w.heap.size + 1) 2 #[.int .i64 2, .int .i64 1, .int .i64 0] := by
      have := (Row.new (w.alloc (.cells #[.slice none 0 0] 26)) 2 #[.int .i64 2, .int .i64 1, .int .i64 0]).alloc (.cells #[.slice (some ⟨w.heap.size + 1, 0, none⟩) 3 3] 26)
      simpa using this
    refine ⟨Own.of_row r1 rfl rfl (Nat.le_refl _) (by omega) (by omega) (fun j hj => ?_), ?_, ((Row.new _ _ _).alloc _).alloc _, by simp [blk], by simp [blk], by omega, ((hd.alloc _).alloc _).alloc _, grown_trans (grown_trans (World.grownBy_alloc _ _ _) (World.grownBy_alloc _ _ _)) (World.grownBy_alloc _ _ _), hp⟩
    · match j, hj with
      | 0, _ => rfl
      | 1, _ => rfl
      | 2, _ => rfl
    · have := Row.new ((w.alloc (.cells #[.slice none 0 0] 26)).alloc (.cells #[.int .i64 2, .int .i64 1, .int .i64 0] 2)) 26 #[.slice (some ⟨w.heap.size + 1, 0, none⟩) 3 3]
      simpa using this
  have HW := Lib.hid hW
  clear hW
  have L := Lib.hid (once p A n c 4 W S0.d (by omega) (by omega))
  clear hd
  go_enter Try.func81, Try.ntmps81
  go_wp2_with fail
  rw [← HW.out]
  refine L.out.mono ?_
  rintro e w1 ⟨b, rfl, d1, g1⟩
  have S1 := S0.dice d1 g1
  have cV : w1.cell? ⟨w.heap.size + 1 + 1, 0, none⟩ = some (.slice (some ⟨w.heap.size + 1, 0, none⟩) 3 3) := S1.rV.cell 0
  have cN : w1.cell? ⟨w.heap.size, 0, none⟩ = some (.slice none 0 0) := S1.rN.cell 0
  have fV : w1.frozen? ⟨w.heap.size + 1 + 1, 0, none⟩ = false := S1.rV.free 0
  have fN : w1.frozen? ⟨w.heap.size, 0, none⟩ = false := S1.rN.free 0
  clear d1 g1 S0 L
  cases b with
  | false =>
    have F := Lib.hid (S1.result (P := Good) ⟨by decide, by decide, fun j hj => by match j, hj with | 0, _ => decide | 1, _ => decide | 2, _ => decide⟩ S1.nN)
    clear S1
    go_wp2
    exact bodyPost_ret (v := .agg #[.slice (some ⟨w.heap.size + 1, 0, none⟩) 3 3]) (by simp [results, Try.results81, go_sem, cN]) rfl F.out
  | true =>
    have zV : w.heap.size + 1 + 1 < w1.heap.size := S1.rV.lt
    obtain ⟨W2, hW2⟩ : ∃ W2, W2 = (w1.setCell ⟨w.heap.size + 1 + 1, 0, none⟩ (.slice (some ⟨w1.heap.size, 0, none⟩) 1 1)).alloc (.cells #[.int .i64 0] 2) := ⟨_, rfl⟩
    have S2 : SigSt w p A n c (w.heap.size + 1 + 1) W2 (some ⟨w1.heap.size, 0, none⟩) 1 1 [0] := by
      rw [hW2, ← World.setCell_alloc_past (hn := zV)]
      exact S1.put (Own.of_row (Row.new _ _ _) rfl rfl (Nat.le_refl _) (by omega) (by omega) (fun j hj => by match j, hj with | 0, _ => rfl)) (World.grownBy_alloc _ _ _) (.inr rfl) (fun k hk => by have hk : w.heap.size + 1 = k := Option.some.inj hk; omega)
    have HW2 := Lib.hid hW2
    have L2 := Lib.hid (below p A n c 4 W2 S2.d (by omega) (by omega))
    clear hW2 S1
    go_wp2_with fail
    rw [← HW2.out]
    refine L2.out.mono ?_
    rintro e w3 ⟨x, rfl, x0, x1, d3, g3⟩
    obtain ⟨k0, rfl⟩ := Int.eq_ofNat_of_zero_le x0
    have S3 := S2.dice d3 g3
    have H0 : HeadSigD w p A n c (w.heap.size + 1 + 1) (.int .i64 (k0 : Int)) w3 := ⟨k0, _, _, _, _, rfl, S3, by decide, by simp; omega, fun j hj => by match j, hj with | 0, _ => decide⟩
    have HH := Lib.hid H0
    clear H0 S3 S2 d3 g3 L2 cV cN fV fN
    go_wp2_with fail
    go_loopw [4] (fun i wr => HeadSigD w p A n c (w.heap.size + 1 + 1) i wr) (fun i _ => (intOf i).toNat)
    case atStart => exact HH.out
    case round =>
      obtain ⟨k, O, on, oc, xs, rfl, S, hx1, hx2, hxs⟩ := hrel
      clear HH
      have cV : wr.cell? ⟨w.heap.size + 1 + 1, 0, none⟩ = some (.slice O on oc) := S.rV.cell 0
      have cN : wr.cell? ⟨w.heap.size, 0, none⟩ = some (.slice none 0 0) := S.rN.cell 0
      have fV : wr.frozen? ⟨w.heap.size + 1 + 1, 0, none⟩ = false := S.rV.free 0
      have fN : wr.frozen? ⟨w.heap.size, 0, none⟩ = false := S.rN.free 0
      have zV : w.heap.size + 1 + 1 < wr.heap.size := S.rV.lt
      by_cases hk : k = 0
      · subst hk
        have F := Lib.hid (S.result (P := Good) ⟨hx1, by omega, hxs⟩ S.nN)
        clear S
        go_wp2
        exact bodyPost_ret (v := .agg #[.slice O on oc]) (by simp [results, Try.results81, go_sem, cN]) rfl F.out
      · have k1 : (0 : Int) < (k : Int) := by omega
        have S' := S.drew
        clear S
        go_wp2_with fail
        go_region_law (first
          | (refine stepApp1 rfl _ _ rfl w.heap.size O on oc xs (by simp [Act.eval, Act.put]) (Own.alloc S5.own _) w5.heap.size 1 x (by simp [Act.eval, Act.put]) ((Row.new _ _ _).cell 0) (by omega) (by simp; omega) ?_; intro O' oc' w6 ho6 hg6 hat6 hlt6; have r6 := Row.away (S5.alloc _).rV hg6 S5.nV; have cV6 : w6.cell? ⟨w.heap.size + 1 + 1, 0, none⟩ = some (.slice O on oc) := r6.cell 0; have fV6 : w6.frozen? ⟨w.heap.size + 1 + 1, 0, none⟩ = false := r6.free 0)
          | (go_simp; go_at_call 73; refine (below p A n c 3 _ S'.d (by omega) (by omega)).mono ?_; rintro e w5 ⟨x, rfl, x0, x1, d5, g5⟩; have S5 := S'.dice d5 g5; have cV5 : w5.cell? ⟨w.heap.size + 1 + 1, 0, none⟩ = some (.slice O on oc) := S5.rV.cell 0; have zV5 : w.heap.size + 1 + 1 < w5.heap.size := S5.rV.lt; have hon : on ≤ 4 := by have := Own.len S5.own; omega))
        all_goals
          have S6 := SigSt.put (S5.alloc (.cells #[.int .i64 x] 2)) ho6 hg6 (hat6.elim (fun h => .inl h.symm) (fun h => .inr (by rw [h]; rfl))) (Own.ge S5.own)
          have G := good_snoc hx1 (by omega) hxs x0 (by omega)
          have F : HeadSigD w p A n c (w.heap.size + 1 + 1) (.int .i64 ((k : Int) - 1)) (w6.setCell ⟨w.heap.size + 1 + 1, 0, none⟩ (.slice (some ⟨O', 0, none⟩) (on + 1) oc')) :=
            ⟨k - 1, _, _, _, _, congrArg (Value.int .i64) (by omega), S6, G.1, by simp; omega, G.2.2⟩
          have HF := Lib.hid F
          clear F G S6 S5 S' ho6 hg6 hat6 hlt6 r6 cV6 fV6 d5 g5 cV5
          go_wp2
          go_roundw
          case rel => exact HF.out
          case measure => simp [intOf]; omega

/-- a short one -/
def Short (xs : List Int) : Prop := xs.length ≤ 9

theorem Own.blk_lt {w : World} {base : Nat} {O : Option Addr} {on oc : Nat} {xs : List Int} (h : Own w base (.slice O on oc) xs) : ∀ k, blk O = some k → k < w.heap.size := fun k hk => by
  refine (World.ownsRow.lt h k ?_).2
  cases O with
  | none => cases hk
  | some a => exact hk

set_option maxHeartbeats 4000000 in
theorem drawSigAny (p : Nat) (A : Option Addr) (n c : Nat) (w : World) (hd : Dice w p A n c) :
    Calls Try.prog 70 #[.pointer (some ⟨p, 0, none⟩)] w (AnsSigD w p A n c Short) := by
  have hp := hd.lt
  obtain ⟨W, hW⟩ : ∃ W, W = w.alloc (.cells #[.slice none 0 0] 26) := ⟨_, rfl⟩
  have rN : Row W w.heap.size 26 #[.slice none 0 0] := by rw [hW]; exact Row.new _ _ _
  have g0 : w.grownBy W (some p) := by rw [hW]; exact World.grownBy_alloc _ _ _
  have d0 : Dice W p A n c := by rw [hW]; exact hd.alloc _
  have zW : W.heap.size = w.heap.size + 1 := by rw [hW]; simp
  have HW := Lib.hid hW
  have L := Lib.hid (drawSig p A n c W d0)
  clear hW hd d0
  go_enter Try.func70, Try.ntmps70
  go_wp2_with fail
  rw [← HW.out]
  refine L.out.mono ?_
  rintro e w2 ⟨O, on, oc, xs, rfl, ho, hgood, d2, g2⟩
  rw [zW] at ho
  have rN2 : Row w2 w.heap.size 26 #[.slice none 0 0] := Row.away rN g2 (fun e => by injection e; omega)
  have zN := rN2.lt
  have hxs := hgood.2.1
  have hx1 := hgood.1
  obtain ⟨W3, hW3⟩ : ∃ W3, W3 = w2.alloc (.cells #[.slice O on oc] 26) := ⟨_, rfl⟩
  have S3 : SigSt w p A n c w2.heap.size W3 O on oc xs := by
    rw [hW3]
    refine ⟨Own.alloc (Own.lower ho (Nat.le_succ _)) _, Row.new _ _ _, rN2.alloc _, fun e => ?_, fun e => ?_, zN, d2.alloc _, grown_trans (grown_trans g0 g2) (World.grownBy_alloc _ _ _), hp⟩
    · have := Own.blk_lt ho _ e; omega
    · have := Own.ge ho _ e; omega
  have HW3 := Lib.hid hW3
  have L3 := Lib.hid (once p A n c 15 W3 S3.d (by omega) (by omega))
  obtain ⟨v, hv⟩ : ∃ v, w2.heap.size = v := ⟨_, rfl⟩
  have HV := Lib.hid hv
  clear ho hgood d2 g2 rN rN2 g0 L hW3 hv
  go_wp2_with fail
  rw [← HW3.out]
  refine L3.out.mono ?_
  rintro e w4 ⟨b, rfl, d4, g4⟩
  have S4 := S3.dice d4 g4
  rw [HV.out] at S4 ⊢
  have cV : w4.cell? ⟨v, 0, none⟩ = some (.slice O on oc) := S4.rV.cell 0
  have cN : w4.cell? ⟨w.heap.size, 0, none⟩ = some (.slice none 0 0) := S4.rN.cell 0
  have fN : w4.frozen? ⟨w.heap.size, 0, none⟩ = false := S4.rN.free 0
  have zV : v < w4.heap.size := S4.rV.lt
  have zNv := S4.hv
  clear d4 g4 S3 L3
  cases b with
  | false =>
    have F := Lib.hid (S4.result (P := Short) (by unfold Short; omega) S4.nN)
    clear S4
    go_wp2
    exact bodyPost_ret (v := .agg #[.slice O on oc]) (by simp [results, Try.results70, go_sem, cN]) rfl F.out
  | true =>
    have L4 := Lib.hid (below p A n c 3 w4 S4.d (by omega) (by omega))
    go_wp2_with fail
    refine L4.out.mono ?_
    rintro e w5 ⟨x, rfl, x0, x1, d5, g5⟩
    have S5 := S4.dice d5 g5
    replace cV : w5.cell? ⟨v, 0, none⟩ = some (.slice O on oc) := S5.rV.cell 0
    replace cN : w5.cell? ⟨w.heap.size, 0, none⟩ = some (.slice none 0 0) := S5.rN.cell 0
    replace fN : w5.frozen? ⟨w.heap.size, 0, none⟩ = false := S5.rN.free 0
    have fV : w5.frozen? ⟨v, 0, none⟩ = false := S5.rV.free 0
    replace zV : v < w5.heap.size := S5.rV.lt
    clear d5 g5 S4 L4
    by_cases hx0 : x = 0
    · subst hx0
      have S6 := S5.drew
      clear S5 x0 x1
      go_wp2_with fail
      go_region_law (first
        | (refine stepApp1 rfl _ _ rfl w.heap.size O on oc xs (by simp [Act.eval, Act.put]) (Own.alloc S7.own _) w7.heap.size 1 y (by simp [Act.eval, Act.put]) ((Row.new _ _ _).cell 0) (by omega) (by simp; omega) ?_; intro O' oc' w8 ho8 hg8 hat8 hlt8; have r8 := Row.away (S7.alloc _).rV hg8 S7.nV; have cV8 : w8.cell? ⟨v, 0, none⟩ = some (.slice O on oc) := r8.cell 0; have fV8 : w8.frozen? ⟨v, 0, none⟩ = false := r8.free 0)
        | (go_simp; go_at_call 71; refine (fromTo p A n c (-1) 4 _ S6.d (by omega) (by omega) (by omega) (by omega)).mono ?_; rintro e w7 ⟨y, rfl, y0, y1, d7, g7⟩; have S7 := S6.dice d7 g7; have cV7 : w7.cell? ⟨v, 0, none⟩ = some (.slice O on oc) := S7.rV.cell 0; have zV7 : v < w7.heap.size := S7.rV.lt; have hon : on ≤ 4 := by have := Own.len S7.own; omega))
      all_goals
        have S8 := SigSt.put (S7.alloc (.cells #[.int .i64 y] 2)) ho8 hg8 (hat8.elim (fun h => .inl h.symm) (fun h => .inr (by rw [h]; rfl))) (Own.ge S7.own)
        have F := Lib.hid (S8.result (P := Short) (by unfold Short; simp; omega) S8.nN)
        have cN8 : (w8.setCell ⟨v, 0, none⟩ (.slice (some ⟨O', 0, none⟩) (on + 1) oc')).cell? ⟨w.heap.size, 0, none⟩ = some (.slice none 0 0) := S8.rN.cell 0
        have fN8 : (w8.setCell ⟨v, 0, none⟩ (.slice (some ⟨O', 0, none⟩) (on + 1) oc')).frozen? ⟨w.heap.size, 0, none⟩ = false := S8.rN.free 0
        clear S8 S7 S6 ho8 hg8 hat8 hlt8 r8 d7 g7 cV7
        go_wp2
        exact bodyPost_ret (v := .agg #[.slice (some ⟨O', 0, none⟩) (on + 1) oc']) (by simp [results, Try.results70, go_sem, cN8]) rfl F.out
    · by_cases hx1' : x = 1
      · subst hx1'
        have S6 : SigSt w p A n c v ((w5.alloc (.cells #[] 2)).setCell ⟨v, 0, none⟩ (.slice (some ⟨w5.heap.size, 0, none⟩) 0 0)) (some ⟨w5.heap.size, 0, none⟩) 0 0 [] :=
          S5.put (own_empty w5 w.heap.size (by omega)) (World.grownBy_alloc _ _ _) (.inr rfl) (Own.ge S5.own)
        have F := S6.result (P := Short) (by unfold Short; simp) S6.nN
        rw [World.setCell_alloc_past (hn := zV), World.setCell_alloc_past (hn := by simp; omega)] at F
        have HF := Lib.hid F
        have zz : w.heap.size < w5.heap.size := by omega
        have znv : ¬ w.heap.size = v := by omega
        have zvn : ¬ v = w.heap.size := by omega
        clear F S6 S5 x0 x1 hx0
        go_wp2
        exact bodyPost_ret (v := .agg #[.slice (some ⟨w5.heap.size, 0, none⟩) 0 0]) (by simp [results, Try.results70, go_sem, cN, zz, znv, zvn]) rfl HF.out
      · have e2 : x = 2 := by omega
        subst e2
        have L6 := Lib.hid (below p A n c 2 w5 S5.d (by omega) (by omega))
        clear x0 x1 hx0 hx1'
        go_wp2_with fail
        refine L6.out.mono ?_
        rintro e w7 ⟨y, rfl, y0, y1, d7, g7⟩
        have S7 := S5.dice d7 g7
        replace cV : w7.cell? ⟨v, 0, none⟩ = some (.slice O on oc) := S7.rV.cell 0
        replace cN : w7.cell? ⟨w.heap.size, 0, none⟩ = some (.slice none 0 0) := S7.rN.cell 0
        replace fN : w7.frozen? ⟨w.heap.size, 0, none⟩ = false := S7.rN.free 0
        replace fV : w7.frozen? ⟨v, 0, none⟩ = false := S7.rV.free 0
        replace zV : v < w7.heap.size := S7.rV.lt
        obtain ⟨k, rfl⟩ := Int.eq_ofNat_of_zero_le y0
        have hmk : ∀ W : World, (Instr.makeSlice 24 (.int .i64 (8 + (k : Int))) (.int .i64 (8 + (k : Int)))).run Try.prog W = .ok (.slice (some ⟨W.heap.size, 0, none⟩) (8 + k) (8 + k)) (W.alloc (.cells (madeCells #[.int .i64 0] (8 + k)) 2)) := fun W => by
          have := run_make_i64 (8 + k) (by omega) W
          rwa [show ((8 + k : Nat) : Int) = 8 + (k : Int) by simp] at this
        have hcells : ∀ j, j < 8 + k → (madeCells #[Value.int .i64 0] (8 + k))[j]? = some (.int .i64 ((List.replicate (8 + k) (0 : Int)).getD j 0)) := fun j hj => by
          simp [madeCells, List.getD, hj, Nat.mod_one]
        have S8 : SigSt w p A n c v ((w7.alloc (.cells (madeCells #[.int .i64 0] (8 + k)) 2)).setCell ⟨v, 0, none⟩ (.slice (some ⟨w7.heap.size, 0, none⟩) (8 + k) (8 + k))) (some ⟨w7.heap.size, 0, none⟩) (8 + k) (8 + k) (List.replicate (8 + k) 0) :=
          S7.put (Own.of_row (Row.new _ _ _) (by simp) (size_madeCells _ _) (Nat.le_refl _) (by omega) (by omega) hcells) (World.grownBy_alloc _ _ _) (.inr rfl) (Own.ge S7.own)
        have F := S8.result (P := Short) (by unfold Short; simp; omega) S8.nN
        rw [World.setCell_alloc_past (hn := zV), World.setCell_alloc_past (hn := by simp; omega)] at F
        have HF := Lib.hid F
        have zz : w.heap.size < w7.heap.size := by omega
        have znv : ¬ w.heap.size = v := by omega
        have zvn : ¬ v = w.heap.size := by omega
        clear F S8 S7 S5 d7 g7 hcells L6
        go_wp2
        exact bodyPost_ret (v := .agg #[.slice (some ⟨w7.heap.size, 0, none⟩) (8 + k) (8 + k)]) (by simp [results, Try.results70, go_sem, cN, zz, znv, zvn]) rfl HF.out
end Go.Proofs.Ytobifgobipcmdaa.drawSig
end

section
/-
  CONTRACT: spec.l1DrawTerm draws a list of numbers. Conditions: a drawing cursor ('Dice'), arities from 0 to 3. By an AI agent.
-/
namespace Go.Proofs.Ytobifgobipcmdaa.drawTerm
open Go.RowKit Go.Proofs.Ytobifgobipcmdaa.base Go.Proofs.Ytobifgobipcmdaa.ints Go.Proofs.Ytobifgobipcmdaa.sig Go.Proofs.Ytobifgobipcmdaa.term Go.Proofs.Ytobifgobipcmdaa.cursor Go.Proofs.Ytobifgobipcmdaa.marks Go.Proofs.Ytobifgobipcmdaa.app Go.Proofs.Ytobifgobipcmdaa.sym Go.Proofs.Ytobifgobipcmdaa.dice Go.Proofs.Ytobifgobipcmdaa.drawSig
set_option maxRecDepth 100000

/-- the slice value '.slice A n c' reads as xs, in a block below B that is not p -/
def Rd (w : World) (p B : Nat) (A : Option Addr) (n : Nat) (xs : List Int) : Prop :=
  xs.length = n ∧ (0 < n → ∃ b off, A = some ⟨b, off, none⟩ ∧ b < B ∧ b ≠ p ∧ ∀ j, j < n → w.cell? ⟨b, off + j, none⟩ = some (.int .i64 (xs.getD j 0)))
theorem Rd.more {w : World} {p B B' : Nat} {A : Option Addr} {n : Nat} {xs : List Int} (h : Rd w p B A n xs) (hB : B ≤ B') : Rd w p B' A n xs :=
  ⟨h.1, fun hn => by obtain ⟨b, off, e, hb, hne, hc⟩ := h.2 hn; exact ⟨b, off, e, by omega, hne, hc⟩⟩
theorem Rd.keep {w w' : World} {p B : Nat} {A : Option Addr} {n : Nat} {xs : List Int} (h : Rd w p B A n xs) (hk : ∀ q : Addr, q.block < B → q.block ≠ p → w'.cell? q = w.cell? q) : Rd w' p B A n xs :=
  ⟨h.1, fun hn => by obtain ⟨b, off, e, hb, hne, hc⟩ := h.2 hn; exact ⟨b, off, e, hb, hne, fun j hj => (hk ⟨b, off + j, none⟩ hb hne).trans (hc j hj)⟩⟩
theorem Rd.grown {w w' : World} {p B : Nat} {A : Option Addr} {n : Nat} {xs : List Int} (h : Rd w p B A n xs) (hg : w.grownBy w' (some p)) (hB : B ≤ w.heap.size) : Rd w' p B A n xs :=
  h.keep fun q hq hne => World.cell?_of_block (hg.block q.block (by omega) (fun e => hne (by injection e)))
theorem Rd.below {w w' : World} {p B B' : Nat} {A : Option Addr} {n : Nat} {xs : List Int} (h : Rd w p B A n xs) (hb : Below B' w w') (hB : B ≤ B') : Rd w' p B A n xs :=
  h.keep fun q hq _ => hb.cell (by omega)
theorem Rd.seg {w : World} {p B : Nat} {A : Option Addr} {n : Nat} {xs : List Int} (h : Rd w p B A n xs) : Seg w B A n xs :=
  ⟨h.1, fun hn => by obtain ⟨b, off, e, hb, _, hc⟩ := h.2 hn; exact ⟨b, off, e, hb, hc⟩⟩
theorem Rd.of_own {w : World} {p base : Nat} {A : Option Addr} {n c : Nat} {xs : List Int} (h : Own w base (.slice A n c) xs) (hp : p < base) : Rd w p w.heap.size A n xs := by
  have hs := Own.seg h
  refine ⟨hs.1, fun hn => ?_⟩
  obtain ⟨b, off, e, hb, hc⟩ := hs.2 hn
  subst e
  exact ⟨b, off, rfl, hb, by have := Own.ge h b rfl; omega, hc⟩
theorem Own.none_cap {w : World} {base : Nat} {A : Option Addr} {n c : Nat} {xs : List Int} (h : Own w base (.slice A n c) xs) : A = none → c = 0 := by
  rintro rfl
  rcases h.form with ⟨e, _⟩ | ⟨g, c', cur, e, _⟩
  · injection e
  · injection e with e _ _; cases e

/-- what is known in the course of a draw -/
structure DT (w : World) (p : Nat) (A : Option Addr) (n c : Nat) (S : Option Addr) (sn sc : Nat) (sg : List Int) (wr : World) : Prop where
  d : Dice wr p A n c
  r : Row wr w.heap.size 26 #[.slice S sn sc]
  s : Rd wr p w.heap.size S sn sg
  g : w.grownBy wr (some p)
  hp : p < w.heap.size
section
variable {w : World} {p : Nat} {A : Option Addr} {n c : Nat} {S : Option Addr} {sn sc : Nat} {sg : List Int} {wr w' : World}
theorem DT.dice (t : DT w p A n c S sn sc sg wr) (d : Dice w' p A n c) (hg : wr.grownBy w' (some p)) : DT w p A n c S sn sc sg w' :=
  ⟨d, Row.away t.r hg (fun e => by injection e; have := t.hp; omega), t.s.grown hg t.g.size, grown_trans t.g hg, t.hp⟩
theorem DT.below (t : DT w p A n c S sn sc sg wr) (hb : Below (w.heap.size + 1) wr w') : DT w p A n c S sn sc sg w' :=
  ⟨t.d.keep (hb.mono (by have := t.hp; omega)), t.r.below hb (Nat.lt_succ_self _), t.s.below hb (Nat.le_succ _), ⟨hb.os.trans t.g.os, hb.tape.trans t.g.tape, hb.output.trans t.g.output, Nat.le_trans t.g.size hb.size, fun k hk hne => (hb.block k (by omega)).trans (t.g.block k hk hne)⟩, t.hp⟩
theorem DT.drew (t : DT w p A n c S sn sc sg wr) : DT w p A n c S sn sc sg wr.drew := ⟨t.d.drewN 1, t.r.drew, t.s, grown_drewN t.g 1, t.hp⟩
theorem DT.start (hd : Dice w p A n c) (hs : Rd w p w.heap.size S sn sg) : DT w p A n c S sn sc sg (w.alloc (.cells #[.slice S sn sc] 26)) :=
  ⟨hd.alloc _, Row.new _ _ _, hs.below ((Below.refl _ _).alloc (Nat.le_refl _) _) (Nat.le_refl _), World.grownBy_alloc _ _ _, hd.lt⟩
end

/-- a drawn list of at least one and at most L numbers -/
def AnsT (w : World) (p : Nat) (A : Option Addr) (n c L : Nat) (e : Ending) (w' : World) : Prop :=
  ∃ O on oc xs, e = .returned (.slice O on oc) ∧ Own w' w.heap.size (.slice O on oc) xs ∧ 1 ≤ on ∧ on ≤ L ∧ Dice w' p A n c ∧ w.grownBy w' (some p)
theorem leaf {w : World} {p : Nat} {A : Option Addr} {n c L : Nat} {S : Option Addr} {sn sc : Nat} {sg : List Int} {u : World} (t : DT w p A n c S sn sc sg u) (hL : 1 ≤ L) (y : Int) :
    AnsT w p A n c L (.returned (.slice (some ⟨u.heap.size, 0, none⟩) 1 1)) (u.alloc (.cells #[.int .i64 y] 2)) :=
  ⟨_, _, _, [y], rfl, Own.of_row (Row.new _ _ _) rfl rfl (Nat.le_refl _) (by omega) t.g.size (fun j hj => by match j, hj with | 0, _ => rfl), Nat.le_refl _, hL, t.d.alloc _, grown_trans t.g (World.grownBy_alloc _ _ _)⟩
def HeadT (w : World) (p : Nat) (A : Option Addr) (n c : Nat) (S : Option Addr) (sn sc : Nat) (sg : List Int) (M : Nat) (out k : Value) (wr : World) : Prop :=
  ∃ (q : Nat) (O : Option Addr) (on oc : Nat) (xs : List Int), k = .int .i64 q ∧ q ≤ 3 ∧ out = .slice O on oc ∧ Own wr (w.heap.size + 1) (.slice O on oc) xs ∧ 1 ≤ on ∧ on + q * M ≤ 1 + 3 * M ∧ DT w p A n c S sn sc sg wr

theorem one_le_four (f : Nat) : 1 ≤ 4 ^ f := Nat.one_le_pow _ _ (by omega)

set_option maxHeartbeats 4000000 in
theorem drawTerm (p : Nat) (A : Option Addr) (n c : Nat) (S : Option Addr) (sn sc : Nat) (sg : List Int) (vars : Int) (hs : Arities sg) (hn1 : 1 ≤ sn) (hn2 : sn ≤ 256) (hv0 : 1 ≤ vars) (hv1 : vars ≤ 256) : ∀ (f0 : Nat) (depth : Int) (w : World),
    Dice w p A n c → Rd w p w.heap.size S sn sg → f0 ≤ 4 → -1000 ≤ depth → depth ≤ (f0 : Int) + 1 →
    Calls Try.prog 72 #[.pointer (some ⟨p, 0, none⟩), .agg #[.slice S sn sc], .int .i64 depth, .int .i64 vars] w (AnsT w p A n c (4 ^ f0)) := by
  intro f0
  induction f0 with
  | zero =>
    intro depth w hd hr hf hlo hdep
    obtain ⟨LL, hLe⟩ : ∃ LL, 4 ^ 0 = LL := ⟨_, rfl⟩
    have hLL : 1 ≤ LL := by rw [← hLe]; exact one_le_four 0
    rw [hLe]
    clear hLe
    have T0 := DT.start (sc := sc) hd hr
    have hz : depth ≤ 1 := by omega
    obtain ⟨W, hW⟩ : ∃ W, W = w.alloc (.cells #[.slice S sn sc] 26) := ⟨_, rfl⟩
    rw [← hW] at T0
    have HW := Lib.hid hW
    clear hd hr hW
    go_enter Try.func72, Try.ntmps72
    go_wp2_with fail
    rw [← HW.out]
    have cS : W.cell? ⟨w.heap.size, 0, none⟩ = some (.slice S sn sc) := T0.r.cell 0
    go_wp2_with fail
    refine (once p A n c 2 _ T0.d (by omega) (by omega)).mono ?_
    rintro e u1 ⟨b, rfl, d1, g1⟩
    have T1 := T0.dice d1 g1
    clear d1 g1 cS T0
    cases b with
    | true =>
      go_wp2_with fail
      refine (below p A n c vars _ T1.d hv0 hv1).mono ?_
      rintro e u2 ⟨x, rfl, x0, x1, d2, g2⟩
      have F := Lib.hid (leaf (T1.dice d2 g2) hLL (-1 - x))
      clear T1 d2 g2
      go_wp2
      go_ret
      exact F.out
    | false =>
      have cS1 : u1.cell? ⟨w.heap.size, 0, none⟩ = some (.slice S sn sc) := T1.r.cell 0
      go_wp2_with fail
      go_loop [9] (fun i => ∃ k : Nat, k ≤ sn ∧ i = .int .i64 ((k : Int) - 1)) (fun i => (intOf i + 1).toNat)
      case atStart => exact ⟨sn, Nat.le_refl _, rfl⟩
      case round =>
        obtain ⟨k, hk, rfl⟩ := hrel
        by_cases hk0 : k = 0
        · subst hk0
          have F := Lib.hid (leaf T1 hLL (-1))
          clear T1
          go_wp2
          go_ret
          exact F.out
        · obtain ⟨k1, rfl⟩ : ∃ k1, k = k1 + 1 := ⟨k - 1, by omega⟩
          obtain ⟨b, off, y, rfl, hb, hy, ey⟩ := T1.s.seg.spot (show k1 < sn by omega)
          by_cases hy0 : y = 0
          · subst hy0
            have F := Lib.hid (leaf T1 hLL (k1 : Int))
            clear T1 ey
            go_wp2
            go_ret
            exact F.out
          · have e2 : (y == 0) = false := by simp [hy0]
            clear T1 ey
            go_wp2
            go_round
            case rel => exact ⟨k1, by omega, congrArg (Value.int .i64) (by omega)⟩
            case measure => first | (simp [intOf]; done) | (simp [intOf]; omega)
  | succ f ih =>
    intro depth w hd hr hf hlo hdep
    have IH := Lib.hid ih
    clear ih
    obtain ⟨M, hM⟩ : ∃ M, 4 ^ f = M := ⟨_, rfl⟩
    have hM1 : 1 ≤ M := by rw [← hM]; exact one_le_four f
    have hM2 : M ≤ 64 := by rw [← hM]; exact Nat.pow_le_pow_right (n := 4) (by omega) (show f ≤ 3 by omega)
    obtain ⟨LL, hLe⟩ : ∃ LL, 4 ^ (f + 1) = LL := ⟨_, rfl⟩
    have hLM : LL = 4 * M := by rw [← hLe, ← hM, Nat.pow_succ, Nat.mul_comm]
    have hLL : 1 ≤ LL := by omega
    rw [hLe]
    rw [hM] at IH
    clear hLe hM
    have HLM := Lib.hid hLM
    clear hLM
    have T0 := DT.start (sc := sc) hd hr
    obtain ⟨W, hW⟩ : ∃ W, W = w.alloc (.cells #[.slice S sn sc] 26) := ⟨_, rfl⟩
    rw [← hW] at T0
    have HW := Lib.hid hW
    clear hd hr hW
    by_cases hz : depth ≤ 1
    · go_enter Try.func72, Try.ntmps72
      go_wp2_with fail
      rw [← HW.out]
      have cS : W.cell? ⟨w.heap.size, 0, none⟩ = some (.slice S sn sc) := T0.r.cell 0
      go_wp2_with fail
      refine (once p A n c 2 _ T0.d (by omega) (by omega)).mono ?_
      rintro e u1 ⟨b, rfl, d1, g1⟩
      have T1 := T0.dice d1 g1
      clear d1 g1 cS T0
      cases b with
      | true =>
        go_wp2_with fail
        refine (below p A n c vars _ T1.d hv0 hv1).mono ?_
        rintro e u2 ⟨x, rfl, x0, x1, d2, g2⟩
        have F := Lib.hid (leaf (T1.dice d2 g2) hLL (-1 - x))
        clear T1 d2 g2
        go_wp2
        go_ret
        exact F.out
      | false =>
        have cS1 : u1.cell? ⟨w.heap.size, 0, none⟩ = some (.slice S sn sc) := T1.r.cell 0
        go_wp2_with fail
        go_loop [9] (fun i => ∃ k : Nat, k ≤ sn ∧ i = .int .i64 ((k : Int) - 1)) (fun i => (intOf i + 1).toNat)
        case atStart => exact ⟨sn, Nat.le_refl _, rfl⟩
        case round =>
          obtain ⟨k, hk, rfl⟩ := hrel
          by_cases hk0 : k = 0
          · subst hk0
            have F := Lib.hid (leaf T1 hLL (-1))
            clear T1
            go_wp2
            go_ret
            exact F.out
          · obtain ⟨k1, rfl⟩ : ∃ k1, k = k1 + 1 := ⟨k - 1, by omega⟩
            obtain ⟨b, off, y, rfl, hb, hy, ey⟩ := T1.s.seg.spot (show k1 < sn by omega)
            by_cases hy0 : y = 0
            · subst hy0
              have F := Lib.hid (leaf T1 hLL (k1 : Int))
              clear T1 ey
              go_wp2
              go_ret
              exact F.out
            · have e2 : (y == 0) = false := by simp [hy0]
              clear T1 ey
              go_wp2
              go_round
              case rel => exact ⟨k1, by omega, congrArg (Value.int .i64) (by omega)⟩
              case measure => first | (simp [intOf]; done) | (simp [intOf]; omega)
    · have hz1 : (1 : Int) < depth := by omega
      go_enter Try.func72, Try.ntmps72
      go_wp2_with fail
      rw [← HW.out]
      refine (once p A n c 4 _ T0.d (by omega) (by omega)).mono ?_
      rintro e u0 ⟨b, rfl, d0, g0⟩
      have T2 := T0.dice d0 g0
      clear d0 g0 T0
      cases b with
      | true =>
        have cS : u0.cell? ⟨w.heap.size, 0, none⟩ = some (.slice S sn sc) := T2.r.cell 0
        go_wp2_with fail
        refine (once p A n c 2 _ T2.d (by omega) (by omega)).mono ?_
        rintro e u1 ⟨b, rfl, d1, g1⟩
        have T1 := T2.dice d1 g1
        clear d1 g1 cS T2
        cases b with
        | true =>
          go_wp2_with fail
          refine (below p A n c vars _ T1.d hv0 hv1).mono ?_
          rintro e u2 ⟨x, rfl, x0, x1, d2, g2⟩
          have F := Lib.hid (leaf (T1.dice d2 g2) hLL (-1 - x))
          clear T1 d2 g2
          go_wp2
          go_ret
          exact F.out
        | false =>
          have cS1 : u1.cell? ⟨w.heap.size, 0, none⟩ = some (.slice S sn sc) := T1.r.cell 0
          go_wp2_with fail
          go_loop [9] (fun i => ∃ k : Nat, k ≤ sn ∧ i = .int .i64 ((k : Int) - 1)) (fun i => (intOf i + 1).toNat)
          case atStart => exact ⟨sn, Nat.le_refl _, rfl⟩
          case round =>
            obtain ⟨k, hk, rfl⟩ := hrel
            by_cases hk0 : k = 0
            · subst hk0
              have F := Lib.hid (leaf T1 hLL (-1))
              clear T1
              go_wp2
              go_ret
              exact F.out
            · obtain ⟨k1, rfl⟩ : ∃ k1, k = k1 + 1 := ⟨k - 1, by omega⟩
              obtain ⟨b, off, y, rfl, hb, hy, ey⟩ := T1.s.seg.spot (show k1 < sn by omega)
              by_cases hy0 : y = 0
              · subst hy0
                have F := Lib.hid (leaf T1 hLL (k1 : Int))
                clear T1 ey
                go_wp2
                go_ret
                exact F.out
              · have e2 : (y == 0) = false := by simp [hy0]
                clear T1 ey
                go_wp2
                go_round
                case rel => exact ⟨k1, by omega, congrArg (Value.int .i64) (by omega)⟩
                case measure => first | (simp [intOf]; done) | (simp [intOf]; omega)
      | false =>
        have cS : u0.cell? ⟨w.heap.size, 0, none⟩ = some (.slice S sn sc) := T2.r.cell 0
        go_wp2_with fail
        refine (below p A n c (sn : Int) _ T2.d (by omega) (by omega)).mono ?_
        rintro e u1 ⟨x, rfl, x0, x1, d1, g1⟩
        obtain ⟨k, rfl⟩ := Int.eq_ofNat_of_zero_le x0
        have T3 := T2.dice d1 g1
        have hks : k < sn := by omega
        have hsl := T3.s.1
        obtain ⟨b, off, y, rfl, hb, hy, ey⟩ := T3.s.seg.spot hks
        have hyb := hs k (by omega)
        rw [ey.out] at hyb
        obtain ⟨q, rfl⟩ := Int.eq_ofNat_of_zero_le hyb.1
        have hq3 : q ≤ 3 := by omega
        have T4 : DT w p A n c (some ⟨b, off, none⟩) sn sc sg (u1.alloc (.cells #[.int .i64 (k : Int)] 2)) := T3.below ((Below.refl _ _).alloc (by have := T3.r.lt; omega) _)
        have O4 : Own (u1.alloc (.cells #[.int .i64 (k : Int)] 2)) (w.heap.size + 1) (.slice (some ⟨u1.heap.size, 0, none⟩) 1 1) [(k : Int)] :=
          Own.of_row (Row.new _ _ _) rfl rfl (Nat.le_refl _) (by omega) (by have := T3.r.lt; omega) (fun j hj => by match j, hj with | 0, _ => rfl)
        have H0 : HeadT w p A n c (some ⟨b, off, none⟩) sn sc sg M (.slice (some ⟨u1.heap.size, 0, none⟩) 1 1) (.int .i64 (q : Int)) (u1.alloc (.cells #[.int .i64 (k : Int)] 2)) :=
          ⟨q, _, _, _, _, rfl, hq3, rfl, O4, Nat.le_refl _, by have := Nat.mul_le_mul_right M hq3; omega, T4⟩
        have HH := Lib.hid H0
        have cS1 : u1.cell? ⟨w.heap.size, 0, none⟩ = some (.slice (some ⟨b, off, none⟩) sn sc) := T3.r.cell 0
        have zN : w.heap.size < u1.heap.size := T3.r.lt
        have zb : b < u1.heap.size := by omega
        have i1 : (k : Int) < (sn : Int) := by omega
        clear H0 T4 O4 T3 T2 d1 g1 cS ey hsl hyb
        go_wp2_with fail
        go_loopw [11, 12] (fun out kk wr => HeadT w p A n c (some ⟨b, off, none⟩) sn sc sg M out kk wr) (fun _ kk _ => (intOf kk).toNat)
        case atStart => exact HH.out
        case round =>
          obtain ⟨q, O, on, oc, xs, rfl, hq3, rfl, ho, ho1, hoM, T⟩ := hrel
          clear HH
          have cS : wr.cell? ⟨w.heap.size, 0, none⟩ = some (.slice (some ⟨b, off, none⟩) sn sc) := T.r.cell 0
          cases q with
          | zero =>
            have F : AnsT w p A n c LL (.returned (.slice O on oc)) wr := ⟨O, on, oc, xs, rfl, Own.lower ho (Nat.le_succ _), ho1, by have := HLM.out; omega, T.d, T.g⟩
            have HF := Lib.hid F
            clear F T ho
            go_wp2
            go_ret
            exact HF.out
          | succ q =>
            have e0 : (0 : Int) < ((q + 1 : Nat) : Int) := by omega
            have hoM' : on + q * M + M ≤ 1 + 3 * M := by have e : (q + 1) * M = q * M + M := Nat.succ_mul q M; omega
            have hon : on ≤ 193 := by have := Nat.zero_le (q * M); omega
            go_wp2_with fail
            refine (IH.out (depth - 1) wr T.d (T.s.more T.g.size) (by omega) (by omega) (by omega)).mono ?_
            rintro e u2 ⟨O2, on2, oc2, ys, rfl, o2, h1, h2, d2, g2⟩
            have T2 := T.dice d2 g2
            have ho2 := Own.far ho g2 (fun k hk => by injection hk; have := T.hp; omega)
            have z2 := T2.r.lt
            clear ho T d2 g2 cS
            go_wp2_with (at_builtin; refine appAll rfl _ _ rfl (w.heap.size + 1) O on oc xs rfl ho2 O2 on2 oc2 u2.heap.size ys rfl (Own.seg o2) (Own.none_cap o2) (by omega) (by omega) (by omega) ?_; intro O3 oc3 u3 ho3 b3)
            have F : HeadT w p A n c (some ⟨b, off, none⟩) sn sc sg M (.slice O3 (on + on2) oc3) (.int .i64 (q : Int)) u3 := ⟨q, O3, on + on2, oc3, _, rfl, by omega, rfl, ho3, by omega, by omega, T2.below b3⟩
            have HF := Lib.hid F
            clear F ho3 b3 T2 ho2 o2
            go_wp2
            go_roundw
            case rel => first | exact HF.out | simpa using HF.out
            case measure => simp [intOf]
end Go.Proofs.Ytobifgobipcmdaa.drawTerm
end

section
/-
  CONTRACT: spec.l1DrawAny draws a term, bent sometimes. Conditions: a drawing cursor ('Dice'). By an AI agent.
-/
namespace Go.Proofs.Ytobifgobipcmdaa.drawAny
open Go.RowKit Go.Proofs.Ytobifgobipcmdaa.base Go.Proofs.Ytobifgobipcmdaa.ints Go.Proofs.Ytobifgobipcmdaa.sig Go.Proofs.Ytobifgobipcmdaa.term Go.Proofs.Ytobifgobipcmdaa.cursor Go.Proofs.Ytobifgobipcmdaa.termOk Go.Proofs.Ytobifgobipcmdaa.marks Go.Proofs.Ytobifgobipcmdaa.app Go.Proofs.Ytobifgobipcmdaa.sym Go.Proofs.Ytobifgobipcmdaa.dice Go.Proofs.Ytobifgobipcmdaa.drawSig Go.Proofs.Ytobifgobipcmdaa.drawTerm
set_option maxRecDepth 100000

/-- a drawn list of at most L numbers -/
def AnsR (w : World) (p : Nat) (A : Option Addr) (n c L : Nat) (e : Ending) (w' : World) : Prop :=
  ∃ O on oc xs, e = .returned (.slice O on oc) ∧ Rd w' p w'.heap.size O on xs ∧ on ≤ oc ∧ oc ≤ 9223372036854775807 ∧ (O = none → oc = 0) ∧ on ≤ L ∧ Dice w' p A n c ∧ w.grownBy w' (some p)

theorem Own.cap {w : World} {base : Nat} {O : Option Addr} {on oc : Nat} {xs : List Int} (h : Own w base (.slice O on oc) xs) : on ≤ oc ∧ oc ≤ 9223372036854775807 := by
  rcases h.2 with ⟨e, _⟩ | ⟨g, cap, cur, e, _, _, h1, h2, _⟩
  · injection e with _ e1 e2; omega
  · injection e with _ e1 e2
    have := Own.len h
    unfold maxLen at h2
    omega
theorem ansR_own {w w' : World} {p : Nat} {A : Option Addr} {n c L : Nat} {O : Option Addr} {on oc base : Nat} {xs : List Int} (h : Own w' base (.slice O on oc) xs) (hp : p < base) (hL : on ≤ L) (d : Dice w' p A n c) (g : w.grownBy w' (some p)) : AnsR w p A n c L (.returned (.slice O on oc)) w' :=
  ⟨O, on, oc, xs, rfl, Rd.of_own h hp, (Own.cap h).1, (Own.cap h).2, Own.none_cap h, hL, d, g⟩
/-- the same, in a block of its own -/
def AnsRN (w : World) (p : Nat) (A : Option Addr) (n c L : Nat) (e : Ending) (w' : World) : Prop :=
  ∃ O on oc xs, e = .returned (.slice O on oc) ∧ Rd w' p w'.heap.size O on xs ∧ on ≤ oc ∧ oc ≤ 9223372036854775807 ∧ (O = none → oc = 0) ∧ on ≤ L ∧ Dice w' p A n c ∧ w.grownBy w' (some p) ∧ ∀ k, blk O = some k → w.heap.size ≤ k
theorem ansRN_own {w w' : World} {p : Nat} {A : Option Addr} {n c L : Nat} {O : Option Addr} {on oc base : Nat} {xs : List Int} (h : Own w' base (.slice O on oc) xs) (hp : p < base) (hb : w.heap.size ≤ base) (hL : on ≤ L) (d : Dice w' p A n c) (g : w.grownBy w' (some p)) : AnsRN w p A n c L (.returned (.slice O on oc)) w' :=
  ⟨O, on, oc, xs, rfl, Rd.of_own h hp, (Own.cap h).1, (Own.cap h).2, Own.none_cap h, hL, d, g, fun k hk => Nat.le_trans hb (Own.ge h k hk)⟩
theorem Own.some_ {w : World} {base : Nat} {O : Option Addr} {on oc : Nat} {xs : List Int} (h : Own w base (.slice O on oc) xs) (h1 : 1 ≤ on) : ∃ g, O = some ⟨g, 0, none⟩ := by
  rcases h.2 with ⟨e, _⟩ | ⟨g, cap, cur, e, _⟩
  · injection e with _ e1 e2; omega
  · injection e with e _ _; exact ⟨g, e⟩
theorem Own.cellAt {w : World} {base g on oc : Nat} {xs : List Int} (h : Own w base (.slice (some ⟨g, 0, none⟩) on oc) xs) {k : Nat} (hk : k < on) : ∃ u, w.cell? ⟨g, k, none⟩ = some u := by
  have hl := Own.len h
  subst hl
  have := World.ownsRow.cellAt h k (by omega)
  exact ⟨_, this.trans (List.getElem?_eq_getElem (by simpa using hk))⟩
theorem Own.frozenAt {w : World} {base g on oc : Nat} {xs : List Int} (h : Own w base (.slice (some ⟨g, 0, none⟩) on oc) xs) (k : Nat) : w.frozen? ⟨g, k, none⟩ = false := by
  have hl := Own.len h
  subst hl
  exact World.ownsRow.frozenAt h k
theorem Own.put {w : World} {base g on oc : Nat} {xs : List Int} (h : Own w base (.slice (some ⟨g, 0, none⟩) on oc) xs) (k : Nat) (y : Int) : Own (w.setCell ⟨g, k, none⟩ (.int .i64 y)) base (.slice (some ⟨g, 0, none⟩) on oc) (xs.set k y) := by
  have hl := Own.len h
  subst hl
  have := World.ownsRow.stored h k (.int .i64 y)
  unfold Own
  rw [List.length_set, List.map_set]
  exact this.1
/-- the rest of a slice -/
theorem Rd.tail {w : World} {p B b off n : Nat} {xs : List Int} (h : Rd w p B (some ⟨b, off, none⟩) n xs) (h1 : 1 ≤ n) : Rd w p B (some ⟨b, off + 1, none⟩) (n - 1) (xs.drop 1) := by
  refine ⟨by have := h.1; simp; omega, fun hn => ?_⟩
  obtain ⟨b', off', e, hb, hne, hc⟩ := h.2 (by omega)
  injection e with e
  injection e with e1 e2
  subst e1 e2
  refine ⟨_, _, rfl, hb, hne, fun j hj => ?_⟩
  rw [Nat.add_assoc, hc (1 + j) (by omega)]
  simp [List.getD, Nat.add_comm]
theorem Rd.none_ {w : World} {p B : Nat} {O : Option Addr} : Rd w p B O 0 [] := ⟨rfl, fun h => absurd h (by omega)⟩

set_option maxHeartbeats 4000000 in
theorem drawAnyN (p : Nat) (A : Option Addr) (n c : Nat) (S : Option Addr) (sn sc : Nat) (sg : List Int) (w : World) (hd : Dice w p A n c) (hr : Rd w p w.heap.size S sn sg) (hsn : sn ≤ 1048576) :
    Calls Try.prog 46 #[.pointer (some ⟨p, 0, none⟩), .agg #[.slice S sn sc]] w (AnsRN w p A n c 65) := by
  have T0 := DT.start (sc := sc) hd hr
  obtain ⟨W, hW⟩ : ∃ W, W = w.alloc (.cells #[.slice S sn sc] 26) := ⟨_, rfl⟩
  rw [← hW] at T0
  have HW := Lib.hid hW
  clear hd hr hW
  have hN := T0.hp
  by_cases hs0 : sn = 0
  · subst hs0
    go_enter Try.func46, Try.ntmps46
    go_wp2_with fail
    rw [← HW.out]
    refine (fromTo p A n c (-2) 2 _ T0.d (by omega) (by omega) (by omega) (by omega)).mono ?_
    rintro e u1 ⟨x, rfl, x0, x1, d1, g1⟩
    obtain ⟨O, on, oc, xs, he, o1, h1, h2, d2, g2⟩ := leaf (L := 1) (T0.dice d1 g1) (Nat.le_refl _) x
    have F : AnsRN w p A n c 65 _ _ := ansRN_own o1 hN (Nat.le_refl _) (by omega) d2 g2
    rw [← he] at F
    have HF := Lib.hid F
    clear F he o1 d2 g2 T0 d1 g1
    go_wp2
    go_ret
    exact HF.out
  · have e0 : ((sn : Int) == 0) = false := by simp; omega
    have L := Lib.hid (specSigOk S sn sc sg W (T0.s.seg.more T0.g.size) hsn)
    cases hok : sigOkB sg with
    | false =>
      have HS := Lib.hid hok
      clear hok
      go_enter Try.func46, Try.ntmps46
      go_wp2_with fail
      rw [← HW.out]
      refine L.out.mono ?_
      rintro e u0 ⟨he, bb⟩
      rw [HS.out] at he
      subst he
      have T1 := T0.below (bb.mono (by have := T0.r.lt; omega))
      clear T0 bb L
      go_wp2_with fail
      refine (fromTo p A n c (-2) 2 _ T1.d (by omega) (by omega) (by omega) (by omega)).mono ?_
      rintro e u1 ⟨x, rfl, x0, x1, d1, g1⟩
      obtain ⟨O, on, oc, xs, he, o1, h1, h2, d2, g2⟩ := leaf (L := 1) (T1.dice d1 g1) (Nat.le_refl _) x
      have F : AnsRN w p A n c 65 _ _ := ansRN_own o1 hN (Nat.le_refl _) (by omega) d2 g2
      rw [← he] at F
      have HF := Lib.hid F
      clear F he o1 d2 g2 T1 d1 g1
      go_wp2
      go_ret
      exact HF.out
    | true =>
      have HS := Lib.hid hok
      have hars := (sig_arities hok).1
      have hl8 := (sig_arities hok).2.2
      have hsl := T0.s.1
      have hs8 : sn ≤ 8 := by omega
      clear hok hsl hl8
      go_enter Try.func46, Try.ntmps46
      go_wp2_with fail
      rw [← HW.out]
      refine L.out.mono ?_
      rintro e u0 ⟨he, bb⟩
      rw [HS.out] at he
      subst he
      have T1 := (T0.below (bb.mono (by have := T0.r.lt; omega))).drew
      have cS : u0.cell? ⟨w.heap.size, 0, none⟩ = some (.slice S sn sc) := T1.r.cell 0
      clear T0 bb L
      go_wp2_with fail
      go_region_held3 (fun w' => w'.cell? ⟨w.heap.size, 0, none⟩ = some (.slice S sn sc))
        (go_keep)
        (first
          | (go_at_call 73; refine (below p A n c 4 _ T1.d (by omega) (by omega)).mono ?_; rintro e u1 ⟨x, rfl, x0, x1, d1, g1⟩; have T2 := T1.dice d1 g1; have cS2 : u1.cell? ⟨w.heap.size, 0, none⟩ = some (.slice S sn sc) := T2.r.cell 0; have hw : IntKind.i64.wrap (1 + x) = 1 + x := by rw [IntKind.wrap_i64]; omega)
          | (go_at_call 72; refine (drawTerm p A n c S sn sc sg 3 hars (by omega) (by omega) (by omega) (by omega) 3 (1 + x) u1 T2.d (T2.s.more T2.g.size) (by omega) (by clear hw; omega) (by clear hw; omega)).mono ?_; rintro e u2 ⟨O, on, oc, xs, rfl, o2, h1, h2, d2, g2⟩; have T3 := T2.dice d2 g2; have cS3 : u2.cell? ⟨w.heap.size, 0, none⟩ = some (.slice S sn sc) := T3.r.cell 0))
      have o3 : Own u2 (w.heap.size + 1) (.slice O on oc) xs := Own.lower o2 (by have := T2.r.lt; omega)
      obtain ⟨gg, rfl⟩ := Own.some_ o3 h1
      have hgg : w.heap.size + 1 ≤ gg := Own.ge o3 gg rfl
      have hL : on ≤ 64 := h2
      clear hw o2 T2 T1 d1 g1 d2 g2 cS cS2 cS3 h2 x0 x1
      have hp1 : p < w.heap.size + 1 := by omega
      go_wp2_with fail
      refine (once p A n c 12 _ T3.d (by omega) (by omega)).mono ?_
      rintro e u3 ⟨b, rfl, d1, g1⟩
      have T4 := T3.dice d1 g1
      have o4 := Own.far o3 g1 (fun k hk => by injection hk; omega)
      clear T3 o3 d1 g1
      cases b with
      | false =>
        have F : AnsRN w p A n c 65 (.returned (.slice (some ⟨gg, 0, none⟩) on oc)) u3 := ansRN_own o4 hp1 (by omega) (by omega) T4.d T4.g
        have HF := Lib.hid F
        clear F T4 o4
        go_wp2
        go_ret
        exact HF.out
      | true =>
        go_wp2_with fail
        refine (below p A n c 4 _ T4.d (by omega) (by omega)).mono ?_
        rintro e u4 ⟨x, rfl, x0, x1, d1, g1⟩
        have T5 := T4.dice d1 g1
        have o5 := Own.far o4 g1 (fun k hk => by injection hk; omega)
        clear T4 o4 d1 g1
        by_cases hx0 : x = 0
        · subst hx0
          go_wp2_with fail
          refine (fromTo p A n c (-2) 3 _ T5.d (by omega) (by omega) (by omega) (by omega)).mono ?_
          rintro e u5 ⟨y, rfl, y0, y1, d1, g1⟩
          have T6 := T5.dice d1 g1
          have o6 := Own.far o5 g1 (fun k hk => by injection hk; omega)
          have z6 := T6.r.lt
          clear T5 o5 d1 g1 x0 x1
          go_wp2_with (at_builtin; refine app1 rfl _ _ rfl (w.heap.size + 1) (some ⟨gg, 0, none⟩) on oc xs rfl (Own.alloc o6 _) u5.heap.size 1 y rfl ((Row.new _ _ _).cell 0) (by omega) (by simp; omega) ?_; intro O' oc' u6 o7 b7)
          have T7 := (T6.below ((Below.refl _ _).alloc (by omega) (.cells #[.int .i64 y] 2))).below b7
          have F : AnsRN w p A n c 65 (.returned (.slice O' (on + 1) oc')) u6 := ansRN_own o7 hp1 (by omega) (by omega) T7.d T7.g
          have HF := Lib.hid F
          clear F T7 T6 o6 o7 b7
          go_wp2
          go_ret
          exact HF.out
        · by_cases hx1 : x = 1
          · subst hx1
            go_wp2_with fail
            refine (below p A n c (on : Int) _ T5.d (by omega) (by omega)).mono ?_
            rintro e u5 ⟨y, rfl, y0, y1, d1, g1⟩
            obtain ⟨k, rfl⟩ := Int.eq_ofNat_of_zero_le y0
            have T6 := T5.dice d1 g1
            have o6 := Own.far o5 g1 (fun k hk => by injection hk; omega)
            clear T5 o5 d1 g1 x0 x1 hx0
            go_wp2_with fail
            refine (fromTo p A n c (-3) 4 _ T6.d (by omega) (by omega) (by omega) (by omega)).mono ?_
            rintro e u6 ⟨z, rfl, z0, z1, d1, g1⟩
            have T7 := T6.dice d1 g1
            have o7 := Own.far o6 g1 (fun k hk => by injection hk; omega)
            have hk : k < on := by omega
            have i1 : (k : Int) < (on : Int) := by omega
            obtain ⟨u, hu⟩ := Own.cellAt o7 hk
            have hf := Own.frozenAt o7 k
            have o8 := Own.put o7 k z
            have T8 := T7.below ((Below.refl (w.heap.size + 1) u6).setCell (p := ⟨gg, k, none⟩) hgg (.int .i64 z))
            have F : AnsRN w p A n c 65 (.returned (.slice (some ⟨gg, 0, none⟩) on oc)) (u6.setCell ⟨gg, k, none⟩ (.int .i64 z)) := ansRN_own o8 hp1 (by omega) (by omega) T8.d T8.g
            have HF := Lib.hid F
            clear F T8 T7 T6 o8 o7 o6 d1 g1
            go_wp2
            go_ret
            exact HF.out
          · by_cases hx2 : x = 2
            · subst hx2
              have hcap := Own.cap o5
              have hrd := Rd.of_own o5 hp1
              by_cases hc1 : oc = 1
              · subst hc1
                have e1 : on = 1 := by omega
                subst e1
                have F : AnsRN w p A n c 65 (.returned (.slice (some ⟨gg, 0, none⟩) 0 0)) u4 := ⟨_, 0, 0, [], rfl, Rd.none_, Nat.le_refl _, by omega, fun e => rfl, by omega, T5.d, T5.g, fun k hk => by (injection hk with e); have e2 : gg = k := e; omega⟩
                have HF := Lib.hid F
                clear F T5 o5 hrd x0 x1 hx0 hx1
                go_wp2
                go_ret
                exact HF.out
              · have F : AnsRN w p A n c 65 (.returned (.slice (some ⟨gg, 0 + 1, none⟩) (on - 1) (oc - 1))) u4 := ⟨_, _, _, _, rfl, Rd.tail hrd h1, by omega, by omega, (fun e => by cases e), by omega, T5.d, T5.g, fun k hk => by (injection hk with e); have e2 : gg = k := e; omega⟩
                have HF := Lib.hid F
                have hc2 : ¬ oc = 1 := hc1
                have i1 : (1 : Int) ≤ (on : Int) := by omega
                have i2 : (1 : Int) ≤ (oc : Int) := by omega
                have i3 : (on : Int) ≤ (oc : Int) := by omega
                have i4 : 1 ≤ on := h1
                have i5 : on ≤ oc := hcap.1
                clear F T5 o5 hrd x0 x1 hx0 hx1 hc1 hcap
                go_wp2
                go_ret
                exact HF.out
            · have e3 : x = 3 := by omega
              subst e3
              clear x0 x1 hx0 hx1 hx2
              go_wp2_with fail
              refine (odd p A n c _ T5.d).mono ?_
              rintro e u5 ⟨y, rfl, d1, g1⟩
              have T6 := T5.dice d1 g1
              have o6 := Own.far o5 g1 (fun k hk => by injection hk; omega)
              have z6 := T6.r.lt
              clear T5 o5 d1 g1
              go_wp2_with (at_builtin; refine app1 rfl _ _ rfl (w.heap.size + 1) (some ⟨gg, 0, none⟩) on oc xs rfl (Own.alloc o6 _) u5.heap.size 1 y rfl ((Row.new _ _ _).cell 0) (by omega) (by simp; omega) ?_; intro O' oc' u6 o7 b7)
              have T7 := (T6.below ((Below.refl _ _).alloc (by omega) (.cells #[.int .i64 y] 2))).below b7
              have F : AnsRN w p A n c 65 (.returned (.slice O' (on + 1) oc')) u6 := ansRN_own o7 hp1 (by omega) (by omega) T7.d T7.g
              have HF := Lib.hid F
              clear F T7 T6 o6 o7 b7
              go_wp2
              go_ret
              exact HF.out

theorem drawAny (p : Nat) (A : Option Addr) (n c : Nat) (S : Option Addr) (sn sc : Nat) (sg : List Int) (w : World) (hd : Dice w p A n c) (hr : Rd w p w.heap.size S sn sg) (hsn : sn ≤ 1048576) :
    Calls Try.prog 46 #[.pointer (some ⟨p, 0, none⟩), .agg #[.slice S sn sc]] w (AnsR w p A n c 65) :=
  (drawAnyN p A n c S sn sc sg w hd hr hsn).mono fun _ _ ⟨O, on, oc, xs, h1, h2, h3, h4, h5, h6, h7, h8, _⟩ => ⟨O, on, oc, xs, h1, h2, h3, h4, h5, h6, h7, h8⟩
end Go.Proofs.Ytobifgobipcmdaa.drawAny
end

section
/-
  CONTRACT: spec.l1New. Conditions: at most 4096 bytes. By an AI agent.
-/
namespace Go.Proofs.Ytobifgobipcmdaa.drawTwo
open Go.RowKit Go.Proofs.Ytobifgobipcmdaa.base Go.Proofs.Ytobifgobipcmdaa.ints Go.Proofs.Ytobifgobipcmdaa.sig Go.Proofs.Ytobifgobipcmdaa.term Go.Proofs.Ytobifgobipcmdaa.cursor Go.Proofs.Ytobifgobipcmdaa.termOk Go.Proofs.Ytobifgobipcmdaa.marks Go.Proofs.Ytobifgobipcmdaa.app Go.Proofs.Ytobifgobipcmdaa.sym Go.Proofs.Ytobifgobipcmdaa.dice Go.Proofs.Ytobifgobipcmdaa.drawSig Go.Proofs.Ytobifgobipcmdaa.drawTerm Go.Proofs.Ytobifgobipcmdaa.drawAny
set_option maxRecDepth 100000

/-- a new cursor -/
def AnsNew (w : World) (A : Option Addr) (n c : Nat) (e : Ending) (w' : World) : Prop := ∃ p, e = .returned (.pointer (some ⟨p, 0, none⟩)) ∧ w.heap.size ≤ p ∧ Dice w' p A n c ∧ Below w.heap.size w w'

set_option maxHeartbeats 1000000 in
theorem new_ (A : Option Addr) (n c : Nat) (w : World) (h : SegB w w.heap.size A n) (hn : n ≤ 4096) :
    Calls Try.prog 44 #[.slice A n c] w (AnsNew w A n c) := by
  go_enter Try.func44, Try.ntmps44
  go_wp2_with fail
  go_loop [3, 4] (fun hh i => ∃ (k : Nat) (h0 : Int), k ≤ n ∧ i = .int .i64 k ∧ hh = .int .i64 h0) (fun _ i => n - (intOf i).toNat)
  case atStart => exact ⟨0, _, Nat.zero_le _, rfl, rfl⟩
  case round =>
    obtain ⟨k, h0, hk, rfl, rfl⟩ := hrel
    by_cases hlt : k < n
    · obtain ⟨b, off, rfl, hb, hc⟩ := h (by omega)
      obtain ⟨y, hy0, hy1, hy⟩ := hc k hlt
      clear hc h
      go_wp2
      go_round
      case rel => exact ⟨k + 1, _, hlt, by go_num, rfl⟩
      case measure => simp [intOf]; omega
    · have F : AnsNew w A n c (.returned (.pointer (some ⟨w.heap.size, 0, none⟩))) (w.alloc (.cells #[.slice A n c, .int .i64 0, .int .i64 h0] 71)) :=
        ⟨_, rfl, Nat.le_refl _, ⟨0, h0, Row.new _ _ _, Nat.zero_le _, h.keep (fun q hq => World.cell?_alloc_lt w _ q hq), hn⟩, (Below.refl _ _).alloc (Nat.le_refl _) _⟩
      have HF := Lib.hid F
      clear F h
      go_wp2
      go_ret
      exact HF.out

end Go.Proofs.Ytobifgobipcmdaa.drawTwo
end

section
/-
  SMALL FACTS for what draws a signature and more: a store into a variable of the caller's leaves the drawn alone. Conditions: none. By an AI agent.
-/
namespace Go.Proofs.Ytobifgobipcmdaa.drawPair
open Go.RowKit Go.Proofs.Ytobifgobipcmdaa.base Go.Proofs.Ytobifgobipcmdaa.ints Go.Proofs.Ytobifgobipcmdaa.sig Go.Proofs.Ytobifgobipcmdaa.term Go.Proofs.Ytobifgobipcmdaa.cursor Go.Proofs.Ytobifgobipcmdaa.termOk Go.Proofs.Ytobifgobipcmdaa.marks Go.Proofs.Ytobifgobipcmdaa.app Go.Proofs.Ytobifgobipcmdaa.sym Go.Proofs.Ytobifgobipcmdaa.dice Go.Proofs.Ytobifgobipcmdaa.drawSig Go.Proofs.Ytobifgobipcmdaa.drawTerm Go.Proofs.Ytobifgobipcmdaa.drawAny Go.Proofs.Ytobifgobipcmdaa.drawTwo
set_option maxRecDepth 100000

/-- a cell that holds a slice is no cell of numbers -/
theorem Rd.other {w : World} {p B N : Nat} {O : Option Addr} {on : Nat} {xs : List Int} {a : Option Addr} {l k : Nat} (h : Rd w p B O on xs) (hN : w.cell? ⟨N, 0, none⟩ = some (.slice a l k)) (u : Value) : Rd (w.setCell ⟨N, 0, none⟩ u) p B O on xs :=
  ⟨h.1, fun hn => by
    obtain ⟨b, off, e, hb, hne, hc⟩ := h.2 hn
    refine ⟨b, off, e, hb, hne, fun j hj => ?_⟩
    rw [World.cell?_setCell_other w _ _ _ (fun e => by rw [e] at hN; rw [hc j hj] at hN; cases hN)]
    exact hc j hj⟩
theorem Dice.other {w : World} {p N : Nat} {A : Option Addr} {n c : Nat} {a : Option Addr} {l k : Nat} (d : Dice w p A n c) (hN : w.cell? ⟨N, 0, none⟩ = some (.slice a l k)) (hp : p ≠ N) (u : Value) : Dice (w.setCell ⟨N, 0, none⟩ u) p A n c := by
  obtain ⟨i, h, d⟩ := d
  refine ⟨i, h, d.row.far (p := ⟨N, 0, none⟩) hp u, d.le, fun hn => ?_, d.hn⟩
  obtain ⟨b, off, e, hb, hc⟩ := d.s hn
  refine ⟨b, off, e, hb, fun j hj => ?_⟩
  obtain ⟨x, x0, x1, hx⟩ := hc j hj
  refine ⟨x, x0, x1, ?_⟩
  rw [World.cell?_setCell_other w _ _ _ (fun e => by rw [e] at hN; rw [hx] at hN; cases hN)]
  exact hx

/-- a drawn signature and a drawn list -/
def AnsPair (w : World) (e : Ending) (w' : World) : Prop :=
  ∃ S sn sc sg O on oc xs, e = .returned (.tuple #[.agg #[.slice S sn sc], .slice O on oc]) ∧ Seg w' w'.heap.size S sn sg ∧ Seg w' w'.heap.size O on xs ∧ sn ≤ 9 ∧ on ≤ 65 ∧ on ≤ oc ∧ oc ≤ 9223372036854775807 ∧ Below w.heap.size w w'

theorem pair_of {w u : World} {p : Nat} {S : Option Addr} {sn sc : Nat} {sg : List Int} {O : Option Addr} {on oc : Nat} {xs : List Int} {B : Nat} {a : Option Addr} {l k : Nat} (hs : Rd u p B S sn sg) (hB : B ≤ u.heap.size) (ho : Rd u p u.heap.size O on xs)
    (h1 : sn ≤ 9) (h2 : on ≤ 65) (h3 : on ≤ oc) (h4 : oc ≤ 9223372036854775807) (hb : Below w.heap.size w u) (hN : u.cell? ⟨w.heap.size, 0, none⟩ = some (.slice a l k)) :
    AnsPair w (.returned (.tuple #[.agg #[.slice S sn sc], .slice O on oc])) (u.setCell ⟨w.heap.size, 0, none⟩ (.slice S sn sc)) :=
  ⟨S, sn, sc, sg, O, on, oc, xs, rfl, (Rd.other (Rd.more hs hB) hN _).seg.more (by simp), (Rd.other ho hN _).seg.more (by simp), h1, h2, h3, h4, hb.setCell (Nat.le_refl _) _⟩

theorem Dice.unN {w : World} {p : Nat} {A : Option Addr} {n c : Nat} (d : Dice w.drew p A n c) : Dice w p A n c := by
  obtain ⟨i, h, d⟩ := d
  exact ⟨i, h, d.row, d.le, d.s, d.hn⟩

end Go.Proofs.Ytobifgobipcmdaa.drawPair
end

section
/-
  CONTRACT: spec.l2DrawOne: a drawn signature and a drawn list, off a cursor. Conditions: a drawing cursor. By an AI agent.
-/
namespace Go.Proofs.Ytobifgobipcmdaa.drawOne
open Go.RowKit Go.Proofs.Ytobifgobipcmdaa.base Go.Proofs.Ytobifgobipcmdaa.ints Go.Proofs.Ytobifgobipcmdaa.sig Go.Proofs.Ytobifgobipcmdaa.term Go.Proofs.Ytobifgobipcmdaa.cursor Go.Proofs.Ytobifgobipcmdaa.termOk Go.Proofs.Ytobifgobipcmdaa.marks Go.Proofs.Ytobifgobipcmdaa.app Go.Proofs.Ytobifgobipcmdaa.sym Go.Proofs.Ytobifgobipcmdaa.dice Go.Proofs.Ytobifgobipcmdaa.drawSig Go.Proofs.Ytobifgobipcmdaa.drawTerm Go.Proofs.Ytobifgobipcmdaa.drawAny Go.Proofs.Ytobifgobipcmdaa.drawPair

/-- a new block is written -/
theorem grown_set {a b : World} {r : Option Nat} (h : a.grownBy b r) {q : Nat} (hq : a.heap.size ≤ q) (i : Nat) (u : Value) : a.grownBy (b.setCell ⟨q, i, none⟩ u) r :=
  ⟨h.os, h.tape, h.output, by simpa [World.setCell] using h.size, fun k hk hn => (Below.heap_setCell _ _ _ _ (by show k ≠ q; omega)).trans (h.block k hk hn)⟩
theorem Rd.drew {w : World} {p B : Nat} {A : Option Addr} {n : Nat} {xs : List Int} (h : Rd w p B A n xs) : Rd w.drew p B A n xs := h

/-- a drawn signature and a drawn list, off a cursor -/
def AnsOne (w : World) (p : Nat) (A : Option Addr) (n c : Nat) (e : Ending) (w' : World) : Prop :=
  ∃ S sn sc sg O on oc xs, e = .returned (.tuple #[.agg #[.slice S sn sc], .slice O on oc]) ∧ Rd w' p w'.heap.size S sn sg ∧ Rd w' p w'.heap.size O on xs ∧ sn ≤ 9 ∧ on ≤ 65 ∧ on ≤ oc ∧ oc ≤ 9223372036854775807 ∧ Dice w' p A n c ∧ w.grownBy w' (some p)

theorem one_of {w u : World} {p : Nat} {A : Option Addr} {n c : Nat} {S : Option Addr} {sn sc : Nat} {sg : List Int} {O : Option Addr} {on oc : Nat} {xs : List Int} {B : Nat} {a : Option Addr} {l k : Nat} (hs : Rd u p B S sn sg) (hB : B ≤ u.heap.size) (ho : Rd u p u.heap.size O on xs)
    (h1 : sn ≤ 9) (h2 : on ≤ 65) (h3 : on ≤ oc) (h4 : oc ≤ 9223372036854775807) (d : Dice u p A n c) (hp : p < w.heap.size) (hg : w.grownBy u (some p)) (hN : u.cell? ⟨w.heap.size, 0, none⟩ = some (.slice a l k)) :
    AnsOne w p A n c (.returned (.tuple #[.agg #[.slice S sn sc], .slice O on oc])) (u.setCell ⟨w.heap.size, 0, none⟩ (.slice S sn sc)) :=
  ⟨S, sn, sc, sg, O, on, oc, xs, rfl, (Rd.other (Rd.more hs hB) hN _).more (by simp), (Rd.other ho hN _).more (by simp), h1, h2, h3, h4, Dice.other d hN (by omega) _, grown_set hg (Nat.le_refl _) _ _⟩

end Go.Proofs.Ytobifgobipcmdaa.drawOne
end

section
/-
  CONTRACTS: spec.l1DrawAt: a drawn signature, a drawn list, a place. Conditions: at most 4096 bytes. By an AI agent.
-/
namespace Go.Proofs.Ytobifgobipcmdaa.drawAt
open Go.RowKit Go.Proofs.Ytobifgobipcmdaa.base Go.Proofs.Ytobifgobipcmdaa.ints Go.Proofs.Ytobifgobipcmdaa.sig Go.Proofs.Ytobifgobipcmdaa.term Go.Proofs.Ytobifgobipcmdaa.cursor Go.Proofs.Ytobifgobipcmdaa.termOk Go.Proofs.Ytobifgobipcmdaa.marks Go.Proofs.Ytobifgobipcmdaa.app Go.Proofs.Ytobifgobipcmdaa.sym Go.Proofs.Ytobifgobipcmdaa.dice Go.Proofs.Ytobifgobipcmdaa.drawSig Go.Proofs.Ytobifgobipcmdaa.drawTerm Go.Proofs.Ytobifgobipcmdaa.drawAny Go.Proofs.Ytobifgobipcmdaa.drawPair Go.Proofs.Ytobifgobipcmdaa.drawOne

def AnsDAt (w : World) (p : Nat) (A : Option Addr) (n c : Nat) (e : Ending) (w' : World) : Prop :=
  ∃ S sn sc sg O on oc xs x, e = .returned (.tuple #[.agg #[.slice S sn sc], .slice O on oc, .int .i64 x]) ∧ Rd w' p w'.heap.size S sn sg ∧ Rd w' p w'.heap.size O on xs ∧ sn ≤ 9 ∧ on ≤ 65 ∧ on ≤ oc ∧ oc ≤ 9223372036854775807 ∧ (O = none → oc = 0) ∧ -1 ≤ x ∧ x ≤ on ∧ Dice w' p A n c ∧ w.grownBy w' (some p)
theorem at_of {w u : World} {p : Nat} {A : Option Addr} {n c : Nat} {S : Option Addr} {sn sc : Nat} {sg : List Int} {O : Option Addr} {on oc : Nat} {xs : List Int} {x : Int} {B B' : Nat} {a : Option Addr} {l k : Nat} (hs : Rd u p B S sn sg) (hB : B ≤ u.heap.size) (ho : Rd u p B' O on xs) (hB' : B' ≤ u.heap.size)
    (h1 : sn ≤ 9) (h2 : on ≤ 65) (h3 : on ≤ oc) (h4 : oc ≤ 9223372036854775807) (h5 : O = none → oc = 0) (h6 : -1 ≤ x) (h7 : x ≤ on) (d : Dice u p A n c) (hp : p < w.heap.size) (hg : w.grownBy u (some p)) (hN : u.cell? ⟨w.heap.size, 0, none⟩ = some (.slice a l k)) :
    AnsDAt w p A n c (.returned (.tuple #[.agg #[.slice S sn sc], .slice O on oc, .int .i64 x])) (u.setCell ⟨w.heap.size, 0, none⟩ (.slice S sn sc)) :=
  ⟨S, sn, sc, sg, O, on, oc, xs, x, rfl, (Rd.other (Rd.more hs hB) hN _).more (by simp), (Rd.other (Rd.more ho hB') hN _).more (by simp), h1, h2, h3, h4, h5, h6, h7, Dice.other d hN (by omega) _, grown_set hg (Nat.le_refl _) _ _⟩

set_option maxHeartbeats 2000000 in
theorem drawAt (p : Nat) (A : Option Addr) (n c : Nat) (w : World) (hd : Dice w p A n c) :
    Calls Try.prog 45 #[.pointer (some ⟨p, 0, none⟩)] w (AnsDAt w p A n c) := by
  have hp := hd.lt
  obtain ⟨W0, hW0⟩ : ∃ W0, W0 = w.alloc (.cells #[.slice none 0 0] 26) := ⟨_, rfl⟩
  have rN : Row W0 w.heap.size 26 #[.slice none 0 0] := by rw [hW0]; exact Row.new _ _ _
  have d0 : Dice W0 p A n c := by rw [hW0]; exact hd.alloc _
  have g0 : w.grownBy W0 (some p) := by rw [hW0]; exact World.grownBy_alloc _ _ _
  have L2 := Lib.hid (drawSigAny p A n c W0 d0)
  have hp1 := d0.lt
  have zp : ¬ p = w.heap.size := by omega
  have HW0 := Lib.hid hW0
  clear hd d0 hW0
  go_enter Try.func45, Try.ntmps45
  go_wp2_with fail
  rw [← HW0.out]
  refine L2.out.mono ?_
  rintro e w2 ⟨S, sn, sc, sg, rfl, o2, hshort, d2, g2⟩
  have hsn : sn ≤ 9 := by rw [Own.len o2]; exact hshort
  have z0 := rN.lt
  have z2 := g2.size
  replace rN := Row.away rN g2 (fun e => by injection e; omega)
  have G2 := grown_trans g0 g2
  have T0 := DT.start (sc := sc) d2 (Rd.of_own o2 hp1)
  obtain ⟨W, hW⟩ : ∃ W, W = w2.alloc (.cells #[.slice S sn sc] 26) := ⟨_, rfl⟩
  replace rN : Row W w.heap.size 26 #[.slice none 0 0] := by rw [hW]; exact rN.alloc _
  rw [← hW] at T0
  have HW := Lib.hid hW
  have cV : W.cell? ⟨w2.heap.size, 0, none⟩ = some (.slice S sn sc) := T0.r.cell 0
  have zNv : w.heap.size < w2.heap.size := by omega
  have zne1 : ¬ w2.heap.size = w.heap.size := by omega
  have zne2 : ¬ w.heap.size = w2.heap.size := by omega
  have cV0 : (w2.alloc (.cells #[.slice S sn sc] 26)).cell? ⟨w2.heap.size, 0, none⟩ = some (.slice S sn sc) := by rw [← hW]; exact cV
  clear o2 hshort d2 g2 g0 hW L2
  go_wp2_with fail
  rw [← HW.out]
  refine (drawAny p A n c S sn sc sg W T0.d (T0.s.more T0.g.size) (by omega)).mono ?_
  rintro e w3 ⟨O, on, oc, xs, rfl, ra, h1, h2, h3, h4, d3, g3⟩
  have T2 := T0.dice d3 g3
  have rN1 := (Row.away rN g3 (fun e => by injection e; omega)).drew
  have ra1 : Rd w3.drew p w3.heap.size O on xs := Rd.drew ra
  have T3 := T2.drew
  clear cV cV0 rN T0 ra d3 g3 T2
  have cV : w3.drew.cell? ⟨w2.heap.size, 0, none⟩ = some (.slice S sn sc) := T3.r.cell 0
  have cN : w3.drew.cell? ⟨w.heap.size, 0, none⟩ = some (.slice none 0 0) := rN1.cell 0
  have fN : w3.drew.frozen? ⟨w.heap.size, 0, none⟩ = false := rN1.free 0
  have L3 := Lib.hid (fromTo p A n c (-1) (on : Int) w3.drew T3.d (by omega) (by omega) (by omega) (by omega))
  go_wp2_with fail
  go_region_held3 (fun w' => w'.cell? ⟨w2.heap.size, 0, none⟩ = some (.slice S sn sc))
    (go_keep)
    (first
      | (go_at_call 71; refine L3.out.mono ?_; rintro e w4 ⟨x, rfl, x0, x1, d4, g4⟩; have T4 := T3.dice d4 g4; have cV4 : w4.cell? ⟨w2.heap.size, 0, none⟩ = some (.slice S sn sc) := T4.r.cell 0; have rN4 := Row.away rN1 g4 (fun e => by injection e; omega); have cN4 : w4.cell? ⟨w.heap.size, 0, none⟩ = some (.slice none 0 0) := rN4.cell 0; have fN4 : w4.frozen? ⟨w.heap.size, 0, none⟩ = false := rN4.free 0; have F := Lib.hid (at_of (sc := sc) (p := p) T4.s T4.g.size (ra1.grown g4 (Nat.le_refl _)) g4.size hsn h4 h1 h2 h3 x0 x1 T4.d hp (grown_trans G2 T4.g) cN4)))
  clear cV4 rN4 T4 d4 g4 rN1 T3 G2 fN4 ra1
  go_wp2
  exact bodyPost_ret (v := .tuple #[.agg #[.slice S sn sc], .slice O on oc, .int .i64 x]) (by simp [results, Try.results45, go_sem, cN4]) rfl F.out
end Go.Proofs.Ytobifgobipcmdaa.drawAt
end

section
/-
  WORDS FOR MEMORY, slices of slices of int64: one that reads as a list of lists ('Segs'), one that is the call's own ('Owns'); what lies outside an interval of blocks stays ('Btw'). Conditions: none; plain lemmas. By an AI agent.
-/
namespace Go.Proofs.Ytobifgobipcmdaa.segs
open Go.RowKit Go.Proofs.Ytobifgobipcmdaa.base Go.Proofs.Ytobifgobipcmdaa.ints Go.Proofs.Ytobifgobipcmdaa.marks Go.Proofs.Ytobifgobipcmdaa.app Go.Proofs.Ytobifgobipcmdaa.sym Go.Proofs.Ytobifgobipcmdaa.appAt
set_option maxRecDepth 100000

/-- what a slice's value keeps to -/
def Cap (A : Option Addr) (n c : Nat) : Prop := n ≤ c ∧ c ≤ 9223372036854775807 ∧ (A = none → c = 0)

/-- The slice value '.slice A n c' holds n slices of int64, which read as xss; all blocks lie below B. -/
def Segs (w : World) (B : Nat) (A : Option Addr) (n : Nat) (xss : List (List Int)) : Prop :=
  xss.length = n ∧ (0 < n → ∃ b off, A = some ⟨b, off, none⟩ ∧ b < B ∧ ∀ j, j < n → ∃ A' n' c', w.cell? ⟨b, off + j, none⟩ = some (.slice A' n' c') ∧ Seg w B A' n' (xss.getD j []) ∧ Cap A' n' c')

section
variable {w w' : World} {B B' n : Nat} {A : Option Addr} {xss : List (List Int)}
theorem Segs.empty : Segs w B A 0 [] := ⟨rfl, fun h => absurd h (by omega)⟩
theorem Segs.spot (h : Segs w B A n xss) {k : Nat} (hk : k < n) : ∃ b off A' n' c', A = some ⟨b, off, none⟩ ∧ b < B ∧ w.cell? ⟨b, off + k, none⟩ = some (.slice A' n' c') ∧ Seg w B A' n' (xss.getD k []) ∧ Cap A' n' c' := by
  obtain ⟨b, off, e, hb, hc⟩ := h.2 (by omega)
  obtain ⟨A', n', c', h1, h2, h3⟩ := hc k hk
  exact ⟨b, off, A', n', c', e, hb, h1, h2, h3⟩
theorem Segs.keep (h : Segs w B A n xss) (hk : ∀ p : Addr, p.block < B → w'.cell? p = w.cell? p) : Segs w' B A n xss :=
  ⟨h.1, fun hn => by
    obtain ⟨b, off, e, hb, hc⟩ := h.2 hn
    refine ⟨b, off, e, hb, fun j hj => ?_⟩
    obtain ⟨A', n', c', h1, h2, h3⟩ := hc j hj
    exact ⟨A', n', c', (hk ⟨b, off + j, none⟩ hb).trans h1, h2.keep hk, h3⟩⟩
theorem Segs.more (h : Segs w B A n xss) (hB : B ≤ B') : Segs w B' A n xss :=
  ⟨h.1, fun hn => by
    obtain ⟨b, off, e, hb, hc⟩ := h.2 hn
    refine ⟨b, off, e, by omega, fun j hj => ?_⟩
    obtain ⟨A', n', c', h1, h2, h3⟩ := hc j hj
    exact ⟨A', n', c', h1, h2.more hB, h3⟩⟩
theorem Segs.below (h : Segs w B A n xss) (hb : Below B w w') : Segs w' B A n xss := h.keep fun _ hp => hb.cell hp
theorem Segs.next (h : Segs w w.heap.size A n xss) (hb : Below w.heap.size w w') : Segs w' w'.heap.size A n xss := (h.below hb).more hb.size
theorem Segs.drew (h : Segs w B A n xss) : Segs w.drew B A n xss := h
theorem Segs.drewN (h : Segs w B A n xss) (k : Nat) : Segs (w.drewN k) B A n xss := h
theorem Segs.alloc (h : Segs w B A n xss) (hB : B ≤ w.heap.size) (o : Obj) : Segs (w.alloc o) B A n xss := h.keep fun p hp => World.cell?_alloc_lt w o p (by omega)

/-- what lies outside the blocks from lo on and below hi stays as it was -/
structure Btw (lo hi : Nat) (w w' : World) : Prop where
  os : w'.os = w.os
  tape : w'.tape = w.tape
  output : w'.output = w.output
  size : w.heap.size ≤ w'.heap.size
  block : ∀ k, k < w.heap.size → (k < lo ∨ hi ≤ k) → w'.heap[k]? = w.heap[k]?
theorem Btw.refl (lo hi : Nat) (w : World) : Btw lo hi w w := ⟨rfl, rfl, rfl, Nat.le_refl _, fun _ _ _ => rfl⟩
theorem Btw.trans {lo hi : Nat} {a b c : World} (h : Btw lo hi a b) (k : Btw lo hi b c) : Btw lo hi a c :=
  ⟨k.os.trans h.os, k.tape.trans h.tape, k.output.trans h.output, Nat.le_trans h.size k.size, fun i hi' ho => (k.block i (Nat.lt_of_lt_of_le hi' h.size) ho).trans (h.block i hi' ho)⟩
theorem Btw.of_grown {lo hi : Nat} {r : Option Nat} (h : w.grownBy w' r) (hr : ∀ k, r = some k → lo ≤ k ∧ k < hi) : Btw lo hi w w' :=
  ⟨h.os, h.tape, h.output, h.size, fun k hk ho => h.block k hk (fun e => by have := hr k e.symm; omega)⟩
theorem Btw.of_below {lo hi : Nat} (h : Below w.heap.size w w') : Btw lo hi w w' := ⟨h.os, h.tape, h.output, h.size, fun k hk _ => h.block k hk⟩
theorem Btw.below {lo hi : Nat} (h : Btw lo hi w w') (hB : B ≤ lo) (hs : B ≤ w.heap.size) : Below B w w' := ⟨h.os, h.tape, h.output, h.size, fun k hk => h.block k (by omega) (.inl (by omega))⟩
theorem Btw.wider {lo hi lo' hi' : Nat} (h : Btw lo hi w w') (h1 : lo' ≤ lo) (h2 : hi ≤ hi') : Btw lo' hi' w w' := ⟨h.os, h.tape, h.output, h.size, fun k hk ho => h.block k hk (by omega)⟩
theorem Below.btw {a : World} {lo hi : Nat} (h : Below B a w) (k : Btw lo hi w w') (hB : B ≤ lo) (hs : B ≤ w.heap.size) : Below B a w' := h.trans (k.below hB hs)
/-- a row outside stays -/
theorem Row.btw {g : Nat} {t : TypeId} {cs : Array Value} {lo hi : Nat} (h : Row w g t cs) (hb : Btw lo hi w w') (hg : g < lo ∨ hi ≤ g) : Row w' g t cs := (hb.block g h.lt hg).trans h

/-- rows of different element types are different blocks -/
theorem Row.ne_ {g g' : Nat} {t t' : TypeId} {cs cs' : Array Value} (h : Row w g t cs) (h' : Row w g' t' cs') (hne : t ≠ t') : g ≠ g' := by
  rintro rfl
  unfold Row at h h'
  rw [h] at h'
  injection h' with h'
  injection h' with _ ht
  exact hne ht
end

/-- a slice of int64 of the call's own in a block from lo on and below hi -/
def Inn (w : World) (lo hi : Nat) (v : Value) (xs : List Int) : Prop := ∃ A c, v = .slice A xs.length c ∧ Own w lo v xs ∧ ∀ k, blk A = some k → k < hi
/-- no block is that of two slices -/
def Apart (n : Nat) (vs : List Value) : Prop := ∀ i j k, i < j → j < n → (vs.getD i undef).ownBlock = some k → (vs.getD j undef).ownBlock ≠ some k

/-- The slice value '.slice A n c' and its n slices of int64 are the call's own, in blocks from lo on and below hi, no two in one; they read as xss. -/
structure Owns (w : World) (lo hi : Nat) (A : Option Addr) (n c : Nat) (xss : List (List Int)) : Prop where
  len : xss.length = n
  row : ∃ vs : List Value, w.ownsRow lo 24 1 (.slice A n c) n vs ∧ (∀ j, j < n → Inn w lo hi (vs.getD j undef) (xss.getD j [])) ∧ Apart n vs
  top : ∀ k, blk A = some k → k < hi

section
variable {w w' : World} {lo hi n c : Nat} {A : Option Addr} {xss : List (List Int)}

theorem own_form {base n c : Nat} {A : Option Addr} {vs : List Value} {t : TypeId} (h : w.ownsRow base t 1 (.slice A n c) n vs) : (A = none ∧ n = 0 ∧ c = 0 ∧ vs = []) ∨
    ∃ g cur, A = some ⟨g, 0, none⟩ ∧ base ≤ g ∧ Row w g t cur ∧ n ≤ c ∧ cur.size = c ∧ c ≤ 9223372036854775807 ∧ vs.length = n ∧ ∀ j, j < n → cur[j]? = some (vs.getD j undef) := by
  have hl : vs.length = n := by have := h.1; omega
  obtain ⟨h1, h2⟩ := h
  rcases h2 with ⟨e, h0⟩ | ⟨g, cap, cur, e, hb, hg, hn, hm, hs, ht⟩
  · have e1 := (Value.slice.inj e)
    obtain ⟨rfl, rfl, rfl⟩ := e1
    exact .inl ⟨rfl, rfl, rfl, List.eq_nil_of_length_eq_zero hl⟩
  · have e1 := (Value.slice.inj e)
    obtain ⟨rfl, -, rfl⟩ := e1
    refine .inr ⟨g, cur, rfl, hb, hg, hn, by omega, by unfold maxLen at hm; omega, hl, fun j hj => ?_⟩
    have h3 : (cur.toList.take (n * 1))[j]? = vs[j]? := by rw [ht]
    rw [List.getElem?_take, if_pos (by omega)] at h3
    rw [← Array.getElem?_toList, h3]
    simp [List.getD, show j < vs.length by omega]

theorem Inn.blk {v : Value} {xs : List Int} (h : Inn w lo hi v xs) : ∀ k, v.ownBlock = some k → lo ≤ k ∧ k < hi ∧ k < w.heap.size := fun k hk => by
  obtain ⟨A, c, rfl, ho, ht⟩ := h
  have h1 := World.ownsRow.lt ho k hk
  rw [blk_own] at hk
  exact ⟨h1.1, ht k hk, h1.2⟩
theorem Inn.kept {v : Value} {xs : List Int} {r : Option Nat} (h : Inn w lo hi v xs) (hg : w.grownBy w' r) (hne : v.ownBlock = none ∨ v.ownBlock ≠ r) : Inn w' lo hi v xs := by
  obtain ⟨A, c, rfl, ho, ht⟩ := h
  exact ⟨A, c, rfl, World.ownsRow.kept ho hg hne, ht⟩
theorem Inn.next {v : Value} {xs : List Int} (h : Inn w lo hi v xs) (hb : Below w.heap.size w w') : Inn w' lo hi v xs := by
  obtain ⟨A, c, rfl, ho, ht⟩ := h
  exact ⟨A, c, rfl, ho.next hb, ht⟩
theorem Inn.cap {v : Value} {xs : List Int} (h : Inn w lo hi v xs) : ∃ A c, v = .slice A xs.length c ∧ Own w lo v xs ∧ Cap A xs.length c := by
  obtain ⟨A, c, rfl, ho, ht⟩ := h
  refine ⟨A, c, rfl, ho, ?_⟩
  rcases own_form (n := xs.length) (vs := xs.map (Value.int .i64)) ho with ⟨rfl, h1, rfl, _⟩ | ⟨g, cur, rfl, _, _, h1, h2, h3, _⟩
  · exact ⟨by omega, by omega, fun _ => rfl⟩
  · exact ⟨h1, h3, fun e => by cases e⟩

theorem Owns.segs (h : Owns w lo hi A n c xss) : Segs w w.heap.size A n xss := by
  obtain ⟨vs, hr, hi', _⟩ := h.row
  refine ⟨h.len, fun hn => ?_⟩
  rcases own_form hr with ⟨_, e, _⟩ | ⟨g, cur, rfl, _, hrow, _, _, _, _, hc⟩
  · omega
  · refine ⟨g, 0, rfl, hrow.lt, fun j hj => ?_⟩
    obtain ⟨A', c', e, ho, hcap⟩ := (hi' j hj).cap
    refine ⟨A', _, c', ?_, Own.seg (by rw [← e]; exact ho), hcap⟩
    rw [Nat.zero_add, hrow.cell j, hc j hj, e]
theorem Owns.rd (h : Owns w lo hi A n c xss) : Segs w w.heap.size A n xss := h.segs
theorem Owns.cap (h : Owns w lo hi A n c xss) : Cap A n c := by
  obtain ⟨vs, hr, _⟩ := h.row
  rcases own_form hr with ⟨rfl, h1, rfl, _⟩ | ⟨g, cur, rfl, _, _, h1, h2, h3, _⟩
  · exact ⟨by omega, by omega, fun _ => rfl⟩
  · exact ⟨h1, h3, fun e => by cases e⟩
theorem Owns.next (h : Owns w lo hi A n c xss) (hb : Below w.heap.size w w') : Owns w' lo hi A n c xss := by
  obtain ⟨h1, ⟨vs, hr, hi', ha⟩, h3⟩ := h
  refine ⟨h1, ⟨vs, ?_, fun j hj => (hi' j hj).next hb, ha⟩, h3⟩
  exact World.ownsRow.kept hr ⟨hb.os, hb.tape, hb.output, hb.size, fun k hk _ => hb.block k hk⟩ (row := none) (by cases (Value.slice A n c).ownBlock <;> simp)
theorem Owns.drewN (h : Owns w lo hi A n c xss) (d : Nat) : Owns (w.drewN d) lo hi A n c xss := h.next ⟨rfl, rfl, rfl, Nat.le_refl _, fun _ _ => rfl⟩
theorem Owns.drew (h : Owns w lo hi A n c xss) : Owns w.drew lo hi A n c xss := h.next ⟨rfl, rfl, rfl, Nat.le_refl _, fun _ _ => rfl⟩
theorem Owns.wider {lo' hi' : Nat} (h : Owns w lo hi A n c xss) (h1 : lo' ≤ lo) (h2 : hi ≤ hi') : Owns w lo' hi' A n c xss := by
  obtain ⟨h3, ⟨vs, hr, hin, ha⟩, h5⟩ := h
  have low : ∀ {t : TypeId} {v : Value} {m : Nat} {us : List Value}, w.ownsRow lo t 1 v m us → w.ownsRow lo' t 1 v m us := fun {t v m us} ho => by
    obtain ⟨q1, q2⟩ := ho
    refine ⟨q1, ?_⟩
    rcases q2 with q2 | ⟨g, cap, cur, hv, hg, r⟩
    · exact .inl q2
    · exact .inr ⟨g, cap, cur, hv, Nat.le_trans h1 hg, r⟩
  refine ⟨h3, ⟨vs, low hr, fun j hj => ?_, ha⟩, fun k hk => Nat.lt_of_lt_of_le (h5 k hk) h2⟩
  obtain ⟨A', c', e, ho, ht⟩ := hin j hj
  exact ⟨A', c', e, low ho, fun k hk => Nat.lt_of_lt_of_le (ht k hk) h2⟩
/-- it stays, where blocks outside are written -/
theorem Owns.btw {lo' hi' : Nat} (h : Owns w lo hi A n c xss) (hb : Btw lo' hi' w w') (ho : hi ≤ lo' ∨ hi' ≤ lo) : Owns w' lo hi A n c xss := by
  obtain ⟨h1, ⟨vs, hr, hin, ha⟩, h3⟩ := h
  have key : ∀ {t : TypeId} {m : Nat} {v : Value} {us : List Value}, w.ownsRow lo t 1 v m us → (∀ k, v.ownBlock = some k → k < hi) → w'.ownsRow lo t 1 v m us := fun {t m v us} hr ht => by
    obtain ⟨q1, q2⟩ := hr
    refine ⟨q1, ?_⟩
    rcases q2 with q2 | ⟨g, cap, cur, hv, hg, hh, r⟩
    · exact .inl q2
    · have h5 := ht g (by rw [hv]; rfl)
      refine .inr ⟨g, cap, cur, hv, hg, ?_, r⟩
      have hlt : g < w.heap.size := (Array.getElem?_eq_some_iff.1 hh).1
      exact (hb.block g hlt (by omega)).trans hh
  refine ⟨h1, ⟨vs, key hr (fun k hk => h3 k (by rw [blk_own] at hk; exact hk)), fun j hj => ?_, ha⟩, h3⟩
  obtain ⟨A', c', e, ho', ht⟩ := hin j hj
  exact ⟨A', c', e, key ho' (fun k hk => ht k (by rw [e, blk_own] at hk; exact hk)), ht⟩
theorem Owns.nil (w : World) (lo hi : Nat) : Owns w lo hi none 0 0 [] :=
  ⟨rfl, ⟨[], World.ownsRow_nil w lo 24 1, fun j hj => absurd hj (Nat.not_lt_zero _), fun i j k _ hj => absurd hj (Nat.not_lt_zero _)⟩, fun k hk => by cases hk⟩

/-- one of its slices is written anew -/
theorem Owns.set {j : Nat} {v : Value} {ys : List Int} (h : Owns w lo hi A n c xss) (hj : j < n) (hg : w.grownBy w' v.ownBlock) (ho : Own w' lo v ys) (hl : ys.length = (xss.getD j []).length)
    (hv : ∀ b, A = some ⟨b, 0, none⟩ → w.cell? ⟨b, j, none⟩ = some v) : Owns w' lo hi A n c (xss.set j ys) := by
  obtain ⟨h1, ⟨vs, hr, hin, ha⟩, h3⟩ := h
  rcases own_form hr with ⟨_, e, _⟩ | ⟨g, cur, rfl, hlo, hrow, hnc, hsz, hmax, hlen, hc⟩
  · omega
  have e1 : v = vs.getD j undef := by
    have h4 := hv g rfl
    rw [hrow.cell j, hc j hj] at h4
    injection h4 with h4
    exact h4.symm
  subst e1
  have hgj : ∀ k, (vs.getD j undef).ownBlock = some k → k ≠ g := fun k hk => by
    obtain ⟨A', c', e, ho', _⟩ := hin j hj
    rw [e] at ho' hk
    rcases own_form (n := (xss.getD j []).length) ho' with ⟨rfl, _⟩ | ⟨g', cur', rfl, _, hrow', _⟩
    · cases hk
    · have e2 : g' = k := by simpa [Value.ownBlock] using hk
      subst e2
      exact (Row.ne_ hrow hrow' (by decide)).symm
  refine ⟨by rw [List.length_set]; exact h1, ⟨vs, World.ownsRow.kept hr hg (.inr (fun e => hgj g e.symm rfl)), fun i hi' => ?_, ha⟩, h3⟩
  by_cases e : j = i
  · subst e
    obtain ⟨A', c', e, _, ht⟩ := hin j hj
    have e3 : (xss.set j ys).getD j [] = ys := by simp [List.getD, show j < xss.length by omega]
    rw [e3]
    exact ⟨A', c', by rw [hl]; exact e, ho, ht⟩
  · have e3 : (xss.set j ys).getD i [] = xss.getD i [] := by simp [List.getD, List.getElem?_set_ne e]
    rw [e3]
    refine (hin i hi').kept hg ?_
    cases hb : (vs.getD i undef).ownBlock with
    | none => exact .inl rfl
    | some k =>
      right
      intro e4
      rcases Nat.lt_or_gt_of_ne e with h5 | h5
      · exact ha j i k h5 hi' e4.symm hb
      · exact ha i j k h5 hj hb e4.symm
end
theorem Inn.ne {w : World} {lo hi g : Nat} {v : Value} {xs : List Int} {cs : Array Value} (h : Inn w lo hi v xs) (hr : Row w g 24 cs) : v.ownBlock ≠ some g := by
  obtain ⟨A, c, rfl, ho, _⟩ := h
  rcases own_form (n := xs.length) ho with ⟨rfl, _⟩ | ⟨g', cur', rfl, _, hrow', _⟩
  · intro e; cases e
  · intro e
    have e2 : g' = g := by simpa [Value.ownBlock] using e
    exact Row.ne_ hr hrow' (by decide) e2.symm
theorem Inn.wider {w : World} {lo hi lo' hi' : Nat} {v : Value} {xs : List Int} (h : Inn w lo hi v xs) (h1 : lo' ≤ lo) (h2 : hi ≤ hi') : Inn w lo' hi' v xs := by
  obtain ⟨A, c, rfl, ho, ht⟩ := h
  exact ⟨A, c, rfl, Own.lower ho h1, fun k hk => Nat.lt_of_lt_of_le (ht k hk) h2⟩
theorem rowsOf {w : World} {base g n c : Nat} {t : TypeId} {cs : Array Value} (hr : Row w g t cs) (hs : cs.size = c) (hn : n ≤ c) (hm : c ≤ 9223372036854775807) (hb : base ≤ g) : w.ownsRow base t 1 (.slice (some ⟨g, 0, none⟩) n c) n (cs.toList.take n) :=
  ⟨by simp; omega, .inr ⟨g, c, cs, rfl, hb, hr, hn, by unfold maxLen; omega, by omega, by simp⟩⟩

end Go.Proofs.Ytobifgobipcmdaa.segs
end

section
/-
  CONTRACTS: spec.DrawPathOf, spec.DrawPutAt: a drawn signature, a drawn list, a place (and a second list). Conditions: at most 4096 bytes. By an AI agent.
-/
namespace Go.Proofs.Ytobifgobipcmdaa.drawPath
open Go.RowKit Go.Proofs.Ytobifgobipcmdaa.base Go.Proofs.Ytobifgobipcmdaa.ints Go.Proofs.Ytobifgobipcmdaa.sig Go.Proofs.Ytobifgobipcmdaa.term Go.Proofs.Ytobifgobipcmdaa.cursor Go.Proofs.Ytobifgobipcmdaa.termOk Go.Proofs.Ytobifgobipcmdaa.marks Go.Proofs.Ytobifgobipcmdaa.app Go.Proofs.Ytobifgobipcmdaa.sym Go.Proofs.Ytobifgobipcmdaa.segs Go.Proofs.Ytobifgobipcmdaa.dice Go.Proofs.Ytobifgobipcmdaa.drawSig Go.Proofs.Ytobifgobipcmdaa.drawTerm Go.Proofs.Ytobifgobipcmdaa.drawAny Go.Proofs.Ytobifgobipcmdaa.drawTwo Go.Proofs.Ytobifgobipcmdaa.drawPair Go.Proofs.Ytobifgobipcmdaa.drawOne Go.Proofs.Ytobifgobipcmdaa.drawAt

def AnsDPath (w : World) (e : Ending) (w' : World) : Prop :=
  ∃ S sn sc sg O on oc xs x, e = .returned (.tuple #[.agg #[.slice S sn sc], .slice O on oc, .int .i64 x]) ∧ Seg w' w'.heap.size S sn sg ∧ Seg w' w'.heap.size O on xs ∧ sn ≤ 9 ∧ on ≤ 65 ∧ Cap O on oc ∧ -1 ≤ x ∧ x ≤ on ∧ Below w.heap.size w w'
theorem path_of {w u : World} {p : Nat} {S : Option Addr} {sn sc : Nat} {sg : List Int} {O : Option Addr} {on oc : Nat} {xs : List Int} {x : Int} {B B' : Nat} {a : Option Addr} {l k : Nat} (hs : Rd u p B S sn sg) (hB : B ≤ u.heap.size) (ho : Rd u p B' O on xs) (hB' : B' ≤ u.heap.size)
    (h1 : sn ≤ 9) (h2 : on ≤ 65) (h3 : on ≤ oc) (h4 : oc ≤ 9223372036854775807) (h5 : O = none → oc = 0) (h6 : -1 ≤ x) (h7 : x ≤ on) (hb : Below w.heap.size w u) (hN : u.cell? ⟨w.heap.size, 0, none⟩ = some (.slice a l k)) :
    AnsDPath w (.returned (.tuple #[.agg #[.slice S sn sc], .slice O on oc, .int .i64 x])) (u.setCell ⟨w.heap.size, 0, none⟩ (.slice S sn sc)) :=
  ⟨S, sn, sc, sg, O, on, oc, xs, x, rfl, (Rd.seg (Rd.other (Rd.more hs hB) hN _)).more (by simp), (Rd.seg (Rd.other (Rd.more ho hB') hN _)).more (by simp), h1, h2, ⟨h3, h4, h5⟩, h6, h7, hb.setCell (Nat.le_refl _) _⟩
def AnsDPut (w : World) (e : Ending) (w' : World) : Prop :=
  ∃ S sn sc sg O on oc xs x U un uc us, e = .returned (.tuple #[.agg #[.slice S sn sc], .slice O on oc, .int .i64 x, .slice U un uc]) ∧ Seg w' w'.heap.size S sn sg ∧ Seg w' w'.heap.size O on xs ∧ Seg w' w'.heap.size U un us ∧ sn ≤ 9 ∧ on ≤ 65 ∧ Cap O on oc ∧ un ≤ 65 ∧ Cap U un uc ∧ -1 ≤ x ∧ x ≤ on ∧ Below w.heap.size w w'
theorem put_of {w u : World} {p : Nat} {S : Option Addr} {sn sc : Nat} {sg : List Int} {O : Option Addr} {on oc : Nat} {xs : List Int} {x : Int} {U : Option Addr} {un uc : Nat} {us : List Int} {B B' : Nat} {a : Option Addr} {l k : Nat} (hs : Rd u p B S sn sg) (hB : B ≤ u.heap.size) (ho : Rd u p B' O on xs) (hB' : B' ≤ u.heap.size) (hu : Rd u p u.heap.size U un us)
    (h1 : sn ≤ 9) (h2 : on ≤ 65) (h3 : Cap O on oc) (h4 : un ≤ 65) (h5 : Cap U un uc) (h6 : -1 ≤ x) (h7 : x ≤ on) (hb : Below w.heap.size w u) (hN : u.cell? ⟨w.heap.size, 0, none⟩ = some (.slice a l k)) :
    AnsDPut w (.returned (.tuple #[.agg #[.slice S sn sc], .slice O on oc, .int .i64 x, .slice U un uc])) (u.setCell ⟨w.heap.size, 0, none⟩ (.slice S sn sc)) :=
  ⟨S, sn, sc, sg, O, on, oc, xs, x, U, un, uc, us, rfl, (Rd.seg (Rd.other (Rd.more hs hB) hN _)).more (by simp), (Rd.seg (Rd.other (Rd.more ho hB') hN _)).more (by simp), (Rd.seg (Rd.other hu hN _)).more (by simp), h1, h2, h3, h4, h5, h6, h7, hb.setCell (Nat.le_refl _) _⟩

set_option maxHeartbeats 2000000 in
theorem drawPathOf (A : Option Addr) (n c : Nat) (w : World) (h : SegB w w.heap.size A n) (hn : n ≤ 4096) :
    Calls Try.prog 23 #[.slice A n c] w (AnsDPath w) := by
  obtain ⟨W0, hW0⟩ : ∃ W0, W0 = w.alloc (.cells #[.slice none 0 0] 26) := ⟨_, rfl⟩
  have rN : Row W0 w.heap.size 26 #[.slice none 0 0] := by rw [hW0]; exact Row.new _ _ _
  have b0 : Below w.heap.size w W0 := by rw [hW0]; exact (Below.refl _ _).alloc (Nat.le_refl _) _
  have h0 : SegB W0 W0.heap.size A n := fun hp => by
    obtain ⟨b, off, e, hb, hc⟩ := h hp
    refine ⟨b, off, e, Nat.lt_of_lt_of_le hb b0.size, fun j hj => ?_⟩
    obtain ⟨x, x0, x1, hx⟩ := hc j hj
    exact ⟨x, x0, x1, (b0.cell (p := ⟨b, off + j, none⟩) hb).trans hx⟩
  have L := Lib.hid (new_ A n c W0 h0 hn)
  have HW0 := Lib.hid hW0
  clear h h0 hW0
  go_enter Try.func23, Try.ntmps23
  go_wp2_with fail
  rw [← HW0.out]
  refine L.out.mono ?_
  rintro e w1 ⟨p, rfl, hp, d1, bb⟩
  have hNp : w.heap.size < p := Nat.lt_of_lt_of_le rN.lt hp
  replace rN := rN.next bb
  have bel := next_trans b0 bb
  have L2 := Lib.hid (drawAt p A n c w1 d1)
  clear d1 bb b0 L
  go_wp2_with fail
  refine L2.out.mono ?_
  rintro e w2 ⟨S, sn, sc, sg, O, on, oc, xs, x, rfl, rs, ro, h1, h2, h3, h4, h5, h6, h7, d2, g2⟩
  replace rN := Row.away rN g2 (fun e => by injection e; omega)
  have bel2 : Below w.heap.size w w2 := bel.grown g2 bel.size (fun k hk => by injection hk; omega)
  have cN : w2.cell? ⟨w.heap.size, 0, none⟩ = some (.slice none 0 0) := rN.cell 0
  have fN : w2.frozen? ⟨w.heap.size, 0, none⟩ = false := rN.free 0
  have F := Lib.hid (path_of (sc := sc) rs (Nat.le_refl _) ro (Nat.le_refl _) h1 h2 h3 h4 h5 h6 h7 bel2 cN)
  clear bel2 bel rs ro d2 g2 rN L2
  go_wp2
  exact bodyPost_ret (v := .tuple #[.agg #[.slice S sn sc], .slice O on oc, .int .i64 x]) (by simp [results, Try.results23, go_sem, cN]) rfl F.out

set_option maxHeartbeats 2000000 in
theorem drawPutAt (A : Option Addr) (n c : Nat) (w : World) (h : SegB w w.heap.size A n) (hn : n ≤ 4096) :
    Calls Try.prog 13 #[.slice A n c] w (AnsDPut w) := by
  obtain ⟨W0, hW0⟩ : ∃ W0, W0 = w.alloc (.cells #[.slice none 0 0] 26) := ⟨_, rfl⟩
  have rN : Row W0 w.heap.size 26 #[.slice none 0 0] := by rw [hW0]; exact Row.new _ _ _
  have b0 : Below w.heap.size w W0 := by rw [hW0]; exact (Below.refl _ _).alloc (Nat.le_refl _) _
  have h0 : SegB W0 W0.heap.size A n := fun hp => by
    obtain ⟨b, off, e, hb, hc⟩ := h hp
    refine ⟨b, off, e, Nat.lt_of_lt_of_le hb b0.size, fun j hj => ?_⟩
    obtain ⟨x, x0, x1, hx⟩ := hc j hj
    exact ⟨x, x0, x1, (b0.cell (p := ⟨b, off + j, none⟩) hb).trans hx⟩
  have L := Lib.hid (new_ A n c W0 h0 hn)
  have HW0 := Lib.hid hW0
  clear h h0 hW0
  go_enter Try.func13, Try.ntmps13
  go_wp2_with fail
  rw [← HW0.out]
  refine L.out.mono ?_
  rintro e w1 ⟨p, rfl, hp, d1, bb⟩
  have hNp : w.heap.size < p := Nat.lt_of_lt_of_le rN.lt hp
  replace rN := rN.next bb
  have bel := next_trans b0 bb
  have L2 := Lib.hid (drawAt p A n c w1 d1)
  have hp1 := d1.lt
  clear d1 bb b0 L
  go_wp2_with fail
  refine L2.out.mono ?_
  rintro e w2 ⟨S, sn, sc, sg, O, on, oc, xs, x, rfl, rs, ro, h1, h2, h3, h4, h5, h6, h7, d2, g2⟩
  replace rN := Row.away rN g2 (fun e => by injection e; omega)
  have bel2 : Below w.heap.size w w2 := bel.grown g2 bel.size (fun k hk => by injection hk; omega)
  have T0 := DT.start (sc := sc) d2 rs
  have HC := Lib.hid (show Cap O on oc from ⟨h3, h4, h5⟩)
  obtain ⟨W, hW⟩ : ∃ W, W = w2.alloc (.cells #[.slice S sn sc] 26) := ⟨_, rfl⟩
  have bW : Below w2.heap.size w2 W := by rw [hW]; exact (Below.refl _ _).alloc (Nat.le_refl _) _
  replace rN : Row W w.heap.size 26 #[.slice none 0 0] := by rw [hW]; exact rN.alloc _
  have bel3 : Below w.heap.size w W := by rw [hW]; exact bel2.alloc bel2.size _
  replace ro : Rd W p w2.heap.size O on xs := Rd.below ro bW (Nat.le_refl _)
  rw [← hW] at T0
  have HW := Lib.hid hW
  have cV : W.cell? ⟨w2.heap.size, 0, none⟩ = some (.slice S sn sc) := T0.r.cell 0
  have cN : W.cell? ⟨w.heap.size, 0, none⟩ = some (.slice none 0 0) := rN.cell 0
  have fN : W.frozen? ⟨w.heap.size, 0, none⟩ = false := rN.free 0
  have zNv : w.heap.size < w2.heap.size := by have := T0.hp; omega
  have zne1 : ¬ w2.heap.size = w.heap.size := by omega
  have zne2 : ¬ w.heap.size = w2.heap.size := by omega
  have T1 := T0.drew
  have rN1 := rN.drew
  have bel4 := bel3.drew
  have ro1 : Rd W.drew p w2.heap.size O on xs := Rd.drew ro
  clear bel bel2 d2 g2 T0 hW L2 bel3 rN ro rs bW h3 h4 h5
  go_wp2_with fail
  rw [← HW.out]
  go_region_held3 (fun w' => w'.cell? ⟨w2.heap.size, 0, none⟩ = some (.slice S sn sc))
    (go_keep)
    (first
      | (go_at_call 46; refine (drawAny p A n c S sn sc sg W.drew T1.d (T1.s.more T1.g.size) (by omega)).mono ?_; rintro e w3 ⟨U, un, uc, us, rfl, ra, k1, k2, k3, k4, d3, g3⟩; have T2 := T1.dice d3 g3; have cV3 : w3.cell? ⟨w2.heap.size, 0, none⟩ = some (.slice S sn sc) := T2.r.cell 0; have rN3 := Row.away rN1 g3 (fun e => by injection e; omega); have cN3 : w3.cell? ⟨w.heap.size, 0, none⟩ = some (.slice none 0 0) := rN3.cell 0; have fN3 : w3.frozen? ⟨w.heap.size, 0, none⟩ = false := rN3.free 0; have F := Lib.hid (put_of (sc := sc) (p := p) T2.s T2.g.size (ro1.grown g3 T1.g.size) T2.g.size ra h1 h2 HC.out k4 ⟨k1, k2, k3⟩ h6 h7 (bel4.grown g3 bel4.size (fun k hk => by injection hk; omega)) cN3)))
  clear cV3 rN3 T2 ra d3 g3 rN1 T1 bel4 fN3 ro1
  go_wp2
  exact bodyPost_ret (v := .tuple #[.agg #[.slice S sn sc], .slice O on oc, .int .i64 x, .slice U un uc]) (by simp [results, Try.results13, go_sem, cN3]) rfl F.out
end Go.Proofs.Ytobifgobipcmdaa.drawPath
end

section
/-
  CONTRACTS on slices of slices of int64 and on substitutions: the laws' helpers szInt64SS, toInt64SS, eqInt64SS, markInt64SS, heldInt64SS and those for Subst. Conditions: the slices read as lists of lists ('Segs'), at most 1048576 slices of at most 1048576 numbers. By an AI agent.
-/
namespace Go.Proofs.Ytobifgobipcmdaa.segsHelp
open Go.RowKit Go.Proofs.Ytobifgobipcmdaa.base Go.Proofs.Ytobifgobipcmdaa.ints Go.Proofs.Ytobifgobipcmdaa.sig Go.Proofs.Ytobifgobipcmdaa.cursor Go.Proofs.Ytobifgobipcmdaa.marks Go.Proofs.Ytobifgobipcmdaa.app Go.Proofs.Ytobifgobipcmdaa.sym Go.Proofs.Ytobifgobipcmdaa.appAt Go.Proofs.Ytobifgobipcmdaa.segs
set_option maxRecDepth 100000

theorem info_list : (Try.prog.info? 24).map (fun i => (i.zero, i.size, i.bytes)) = some (some (.slice none 0 0), 1, 24) := by kernel_rfl

/-- make([][]int64, n) -/
theorem run_make_lists (n : Nat) (hn : n ≤ 1048576) (W : World) : (Instr.makeSlice 78 (.int .i64 (n : Int)) (.int .i64 (n : Int))).run Try.prog W =
    .ok (.slice (some ⟨W.heap.size, 0, none⟩) n n) (W.alloc (.cells (madeCells #[.slice none 0 0] n) 24)) := by
  obtain ⟨i0, hi, hz0, hz1, hz2⟩ := info_parts info_list
  have hr := run_make (P := Try.prog) W 78 24 i0 _ Try.underlying78 hi hz0 .i64 .i64 n n (by omega) (by omega) (by rw [hz2]; omega) (by omega)
  simpa [hz1, Value.cells] using hr

/-! ### toInt64SS -/
/-- the first k slices are copied -/
def HeadTo (w : World) (n : Nat) (xss : List (List Int)) (i : Value) (wr : World) : Prop :=
  ∃ (k : Nat) (cs : Array Value), k ≤ n ∧ i = .int .i64 k ∧ Row wr w.heap.size 24 cs ∧ cs.size = n ∧ (∀ j, j < k → Inn wr (w.heap.size + 1) wr.heap.size (cs.toList.getD j undef) (xss.getD j [])) ∧ Apart k cs.toList ∧ Below w.heap.size w wr
theorem headTo_step {w wr w1 : World} {n k m : Nat} {xss : List (List Int)} {cs cs1 : Array Value} (hk : k < n) (hr : Row wr w.heap.size 24 cs) (hs : cs.size = n)
    (hi : ∀ j, j < k → Inn wr (w.heap.size + 1) wr.heap.size (cs.toList.getD j undef) (xss.getD j [])) (ha : Apart k cs.toList) (hb : Below w.heap.size w wr)
    (hm : (xss.getD k []).length = m) (h2 : m ≤ 9223372036854775807) (r1 : Row w1 wr.heap.size 2 cs1) (s1 : cs1.size = m) (c1 : ∀ j, j < m → cs1[j]? = some (.int .i64 ((xss.getD k []).getD j 0))) (bb : Below wr.heap.size wr w1) :
    HeadTo w n xss (.int .i64 ((k : Int) + 1)) (w1.setCell ⟨w.heap.size, k, none⟩ (.slice (some ⟨wr.heap.size, 0, none⟩) m m)) := by
  obtain ⟨v, hv⟩ : ∃ v, v = Value.slice (some ⟨wr.heap.size, 0, none⟩) m m := ⟨_, rfl⟩
  have hz := hr.lt
  have hr1 := hr.next bb
  have hg : w1.grownBy (w1.setCell ⟨w.heap.size, k, none⟩ v) (some w.heap.size) := grown_put (World.grownBy.refl _ _) _ _
  have hin : Inn w1 wr.heap.size w1.heap.size v (xss.getD k []) := by
    refine ⟨some ⟨wr.heap.size, 0, none⟩, m, by rw [hv, hm], ?_, fun q hq => ?_⟩
    · rw [hv]
      have := Own.of_row (base := wr.heap.size) (n := m) (c := m) (xs := xss.getD k []) r1 hm s1 (Nat.le_refl _) h2 (Nat.le_refl _) c1
      exact this
    · have : wr.heap.size = q := Option.some.inj hq
      have := r1.lt
      omega
  rw [← hv]
  refine ⟨k + 1, cs.setIfInBounds k v, hk, by simp, hr1.put k v, by simp [hs], fun j hj => ?_, fun i j q hij hj e1 e2 => ?_, ((hb.trans (bb.mono hb.size))).setCell (Nat.le_refl _) _⟩
  · by_cases e : j = k
    · subst e
      have e3 : (cs.setIfInBounds j v).toList.getD j undef = v := by simp [List.getD, hs, hk]
      rw [e3]
      have h5 := (hin.kept hg (.inr (Inn.ne hin hr1)))
      exact Inn.wider h5 (by omega) (by simp)
    · have e3 : (cs.setIfInBounds k v).toList.getD j undef = cs.toList.getD j undef := by
        simp [List.getD, Array.getElem?_setIfInBounds, show ¬ k = j by omega]
      rw [e3]
      have h5 := (hi j (by omega)).next bb
      have h6 := h5.kept hg (.inr (Inn.ne h5 hr1))
      exact Inn.wider h6 (Nat.le_refl _) (by simpa using bb.size)
  · have gi : ∀ i, i < k → (cs.setIfInBounds k v).toList.getD i undef = cs.toList.getD i undef := fun i hi => by
      simp [List.getD, Array.getElem?_setIfInBounds, show ¬ k = i by omega]
    by_cases e : j = k
    · subst e
      rw [gi i hij] at e1
      have e3 : (cs.setIfInBounds j v).toList.getD j undef = v := by simp [List.getD, hs, hk]
      rw [e3] at e2
      have h5 := ((hi i hij).blk q e1).2.1
      have h6 := (hin.blk q e2).1
      omega
    · rw [gi i (by omega)] at e1
      rw [gi j (by omega)] at e2
      exact ha i j q hij (by omega) e1 e2

/-- a copy: all of it new -/
def CopySS (w : World) (n : Nat) (xss : List (List Int)) (e : Ending) (w' : World) : Prop :=
  ∃ g, e = .returned (.slice (some ⟨g, 0, none⟩) n n) ∧ Owns w' w.heap.size w'.heap.size (some ⟨g, 0, none⟩) n n xss ∧ w.heap.size < w'.heap.size ∧ Below w.heap.size w w'
theorem copySS_end {w wr : World} {n : Nat} {xss : List (List Int)} {cs : Array Value} (hl : xss.length = n) (hn : n ≤ 1048576) (hr : Row wr w.heap.size 24 cs) (hs : cs.size = n)
    (hi : ∀ j, j < n → Inn wr (w.heap.size + 1) wr.heap.size (cs.toList.getD j undef) (xss.getD j [])) (ha : Apart n cs.toList) (hb : Below w.heap.size w wr) : CopySS w n xss (.returned (.slice (some ⟨w.heap.size, 0, none⟩) n n)) wr := by
  have e : cs.toList.take n = cs.toList := List.take_of_length_le (by simp [hs])
  refine ⟨w.heap.size, rfl, ⟨hl, ⟨cs.toList, by rw [← e]; exact rowsOf hr hs (Nat.le_refl _) (by omega) (Nat.le_refl _), fun j hj => (hi j hj).wider (by omega) (Nat.le_refl _), ha⟩, fun k hk => ?_⟩, hr.lt, hb⟩
  have : w.heap.size = k := Option.some.inj hk
  have := hr.lt
  omega

/-! ### szInt64SS -/
/-- how many values: the slices and their numbers -/
def sumL (xss : List (List Int)) (k : Nat) : Nat := ((xss.take k).map List.length).sum
def tot (xss : List (List Int)) : Nat := xss.length + sumL xss xss.length
theorem sumL_succ {xss : List (List Int)} {k : Nat} (h : k < xss.length) : sumL xss (k + 1) = sumL xss k + (xss.getD k []).length := by
  unfold sumL
  rw [List.take_succ_eq_append_getElem h, List.map_append, List.sum_append]
  simp [List.getD, h]
theorem sumL_mono {xss : List (List Int)} : ∀ {k m : Nat}, k ≤ m → m ≤ xss.length → sumL xss k ≤ sumL xss m
  | k, 0, h, _ => by rw [show k = 0 by omega]; exact Nat.le_refl _
  | k, m + 1, h, hm => by
    by_cases e : k = m + 1
    · rw [e]; exact Nat.le_refl _
    · have := sumL_mono (xss := xss) (show k ≤ m by omega) (by omega)
      rw [sumL_succ (by omega)]
      omega
theorem tot_each {xss : List (List Int)} {L : Nat} (h : tot xss ≤ L) : ∀ j, (xss.getD j []).length ≤ L := fun j => by
  by_cases hj : j < xss.length
  · have h1 := sumL_succ hj
    have h2 := sumL_mono (xss := xss) (show j + 1 ≤ xss.length by omega) (Nat.le_refl _)
    unfold tot at h
    omega
  · rw [show xss.getD j [] = [] by simp [List.getD, hj]]
    simp
theorem tot_len {xss : List (List Int)} {L n : Nat} (hl : xss.length = n) (h : tot xss ≤ L) : n ≤ L := by unfold tot at h; omega

def AnsSz (w : World) (left : Int) (t : Nat) (e : Ending) (w' : World) : Prop := w = w' ∧ e = .returned (.int .i64 (if left - t < 0 then -1 else left - t))
def HeadSz (n : Nat) (xss : List (List Int)) (left : Int) (l i : Value) : Prop := ∃ k : Nat, k ≤ n ∧ i = .int .i64 k ∧ l = .int .i64 (left - n - sumL xss k) ∧ 0 ≤ left - n - sumL xss k
theorem sz_bad {w : World} {xss : List (List Int)} {n k m : Nat} {left : Int} (hl : xss.length = n) (hk : k < n) (hm : (xss.getD k []).length = m) (h : left - n - sumL xss k - m < 0) : AnsSz w left (tot xss) (.returned (.int .i64 (-1))) w := by
  refine ⟨rfl, ?_⟩
  have h1 := sumL_succ (xss := xss) (k := k) (by omega)
  have h2 := sumL_mono (xss := xss) (show k + 1 ≤ xss.length by omega) (Nat.le_refl _)
  rw [if_pos (by unfold tot; omega)]
theorem sz_short {w : World} {xss : List (List Int)} {n : Nat} {left : Int} (hl : xss.length = n) (h : left - n < 0) : AnsSz w left (tot xss) (.returned (.int .i64 (-1))) w := ⟨rfl, by rw [if_pos (by unfold tot; omega)]⟩
theorem sz_good {w : World} {xss : List (List Int)} {n k : Nat} {left : Int} (hl : xss.length = n) (hk : k = n) (h : 0 ≤ left - n - sumL xss k) : AnsSz w left (tot xss) (.returned (.int .i64 (left - n - sumL xss k))) w := by
  subst hk
  refine ⟨rfl, ?_⟩
  have e : (left - tot xss : Int) = left - k - sumL xss k := by unfold tot; rw [hl]; omega
  rw [e, if_neg (by omega)]

/-! ### eqInt64SS -/
end Go.Proofs.Ytobifgobipcmdaa.segsHelp
end

section
/-
  CONTRACTS: slices.Grow of nil, slices.Concat at []int64. Conditions: the slices read as lists ('Segs'), at most 1048576 numbers in all. By an AI agent.
-/
namespace Go.Proofs.Ytobifgobipcmdaa.concat
open Go.RowKit Go.Proofs.Ytobifgobipcmdaa.base Go.Proofs.Ytobifgobipcmdaa.ints Go.Proofs.Ytobifgobipcmdaa.marks Go.Proofs.Ytobifgobipcmdaa.app Go.Proofs.Ytobifgobipcmdaa.sym Go.Proofs.Ytobifgobipcmdaa.segs Go.Proofs.Ytobifgobipcmdaa.segsHelp
set_option maxRecDepth 100000

set_option maxHeartbeats 1000000 in
theorem growNil (s : Nat) (w : World) (hs : s ≤ 2097152) :
    Calls Try.prog 76 #[.slice none 0 0, .int .i64 (s : Int)] w (AnsList w []) := by
  by_cases h0 : s = 0
  · subst h0
    go_enter Try.func76, Try.ntmps76
    go_wp2
    go_ret
    exact ⟨none, 0, 0, rfl, Own.nil _ _, Below.refl _ _⟩
  · obtain ⟨i0, hi, hz0, hz1, hz2⟩ := info_parts info_i64
    obtain ⟨G, hG⟩ : ∃ G, G = grownCap w s 0 2 := ⟨_, rfl⟩
    have hge : s ≤ G := by rw [hG]; exact grownCap_ge w _ _ _
    have hcm : G ≤ maxLen := by rw [hG]; exact grownCap_le_maxLen w _ _ _ (by unfold maxLen; omega)
    obtain ⟨cs, hcs⟩ : ∃ cs, cs = Builtin.zeroCells (Value.int .i64 0).cells s ++ Builtin.zeroCells (Value.int .i64 0).cells (G - s) := ⟨_, rfl⟩
    have hsz : cs.size = G := by
      rw [hcs]
      have e : (Value.int .i64 0).cells.size = 1 := rfl
      simp only [Array.size_append, size_zeroCells, e]
      omega
    have hr : ∀ ty, (Builtin.append_ #[24, 3] ty #[.slice none 0 0, .int .i64 (s : Int)]).run Try.prog w = .ok (.slice (some ⟨w.heap.size, 0, none⟩) s G) (w.drew.alloc (.cells cs 2)) := fun ty => by
      rw [hG, hcs, hG]
      exact Lib.run_append_nil_zeros w 24 3 ty 2 i0 (.int .i64 0) .i64 .i64 Try.underlying24 Try.underlying3 hi hz0 s (by omega) (by rw [hz1]; omega) (by omega) (by rw [hz2]; omega)
    have hrow : Row (w.drew.alloc (.cells cs 2)) w.heap.size 2 cs := Row.new w.drew _ _
    have F : AnsList w [] (.returned (.slice (some ⟨w.heap.size, 0, none⟩) 0 G)) (w.drew.alloc (.cells cs 2)) :=
      ⟨_, _, _, rfl, Own.of_row hrow rfl hsz (Nat.zero_le _) (by unfold maxLen at hcm; omega) (Nat.le_refl _) (fun j hj => absurd hj (Nat.not_lt_zero _)), ((Below.refl _ _).drew).alloc (Nat.le_refl _) _⟩
    have HF := Lib.hid F
    have hG63 : G ≤ 9223372036854775807 := by unfold maxLen at hcm; omega
    clear F hrow hsz hcs hG hcm
    have h1 : (0 : Int) < (s : Int) := by omega
    go_enter Try.func76, Try.ntmps76
    go_wp2_with (at_builtin; refine Lib.wpList_append_run _ rfl _ _ _ _ rfl _ _ rfl rfl _ _ (hr _) ?_)
    go_wp2
    go_ret
    exact HF.out

/-- the numbers of the first k lists -/
def catL (xss : List (List Int)) (k : Nat) : List Int := (xss.take k).flatten
theorem cat_len {xss : List (List Int)} {k : Nat} : (catL xss k).length = sumL xss k := by unfold catL sumL; rw [List.length_flatten]
theorem cat_succ {xss : List (List Int)} {k : Nat} (h : k < xss.length) : catL xss (k + 1) = catL xss k ++ xss.getD k [] := by
  unfold catL
  rw [List.take_succ_eq_append_getElem h, List.flatten_append]
  simp [List.getD, h]

set_option maxHeartbeats 1000000 in
theorem concat (S : Option Addr) (k c : Nat) (xss : List (List Int)) (w : World) (h : Segs w w.heap.size S k xss) (ht : tot xss ≤ 1048576) :
    Calls Try.prog 48 #[.slice S k c] w (AnsList w xss.flatten) := by
  have HL := Lib.hid h.1
  have hk : k ≤ 1048576 := tot_len h.1 ht
  have hs1 : Hid (∀ j, j ≤ k → sumL xss j ≤ 1048576) := Lib.hid (fun j hj => by have := sumL_mono (xss := xss) (k := j) (m := xss.length) (by rw [h.1]; exact hj) (Nat.le_refl _); unfold tot at ht; omega)
  have HS : Hid (∀ j, j < k → sumL xss (j + 1) = sumL xss j + (xss.getD j []).length) := Lib.hid (fun j hj => sumL_succ (by rw [h.1]; exact hj))
  have HC : Hid (∀ j, j < k → catL xss (j + 1) = catL xss j ++ xss.getD j []) := Lib.hid (fun j hj => cat_succ (by rw [h.1]; exact hj))
  have HF := Lib.hid (show catL xss k = xss.flatten by unfold catL; rw [List.take_of_length_le (by rw [h.1]; exact Nat.le_refl _)])
  have HCL := Lib.hid (fun j => cat_len (xss := xss) (k := j))
  have HH := Lib.hid h
  have S0 := Lib.hid (show sumL xss 0 = 0 by simp [sumL])
  have C0 := Lib.hid (show catL xss 0 = [] by simp [catL])
  clear h ht
  go_enter Try.func48, Try.ntmps48
  go_wp2
  go_loopg [3, 11] k (fun g s i wr => w = wr ∧ ∃ j : Nat, i = .int .i64 j ∧ j + g = k ∧ s = .int .i64 (sumL xss j : Nat))
  case atStart => exact ⟨rfl, 0, rfl, by omega, by rw [S0.out]; rfl⟩
  case round =>
    obtain ⟨rfl, j, rfl, hj, rfl⟩ := hrel
    have HJ := Lib.hid hj
    clear hj
    by_cases hjk : j < k
    · obtain ⟨b, off, A', n', c', rfl, hb, hc, hsg, hcap⟩ := HH.out.spot hjk
      have hl := hsg.1
      have hb1 := hs1.out j (by omega)
      have hb2 := hs1.out (j + 1) (by omega)
      have hsu := HS.out j hjk
      obtain ⟨s, hs⟩ : ∃ s, sumL xss j = s := ⟨_, rfl⟩
      have HSS := Lib.hid (show sumL xss (j + 1) = s + n' by rw [hsu, hs, hl])
      have hb3 : s + n' ≤ 1048576 := by rw [← HSS.out]; exact hb2
      rw [hs]
      clear hsg hcap hl hb1 hb2 hsu hs
      go_wp2
      go_roundg (gk - 1)
      case measure => have := HJ.out; omega
      case rel => exact ⟨rfl, j + 1, by simp, by have := HJ.out; omega, by rw [HSS.out]; simp⟩
    · have hjk2 : j = k := by have := HJ.out; omega
      obtain ⟨s, hs⟩ : ∃ s, sumL xss j = s := ⟨_, rfl⟩
      have hs2 : s ≤ 2097152 := by rw [← hs]; have := hs1.out j (by omega); omega
      rw [hs]
      have LG := Lib.hid (growNil s w hs2)
      clear hs hs2 hjk2
      go_wp2_with fail
      refine LG.out.mono ?_
      rintro e w1 ⟨O, on, oc, rfl, o1, b1⟩
      have on0 : on = 0 := Own.len o1
      subst on0
      have P0 : Own w1 w.heap.size (.slice O 0 oc) (catL xss 0) := by rw [C0.out]; exact o1
      have HP := Lib.hid (And.intro P0 b1)
      clear P0 o1 b1 LG
      go_wp2
      go_loopg [6, 27] k (fun g s i wr => ∃ (j : Nat) (O : Option Addr) (on oc : Nat), i = .int .i64 j ∧ j + g = k ∧ s = .slice O on oc ∧ Own wr w.heap.size (.slice O on oc) (catL xss j) ∧ Below w.heap.size w wr)
      case atStart => exact ⟨0, O, 0, oc, rfl, by omega, rfl, HP.out.1, HP.out.2⟩
      case round =>
        obtain ⟨j, O, on, oc, rfl, hj, rfl, ho, hb⟩ := hrel
        clear HP
        have HJ := Lib.hid hj
        clear hj
        by_cases hjk : j < k
        · have hsegs := (HH.out.below hb)
          obtain ⟨b, off, A', n', c', rfl, hbb, hc, hsg, hcap⟩ := hsegs.spot hjk
          have hon : on ≤ 1048576 := by rw [Own.len ho, HCL.out j]; exact hs1.out j (by omega)
          have hn' : n' ≤ 1048576 := by have h1 := hsg.1; have h2 := hs1.out (j + 1) (by omega); rw [HS.out j hjk, h1] at h2; omega
          have HCAP := Lib.hid hcap.2.2
          have hsz := hb.size
          clear hsegs hcap
          go_wp2_with (at_builtin; refine appAll rfl _ _ rfl w.heap.size O on oc (catL xss j) rfl ho A' n' c' w.heap.size (xss.getD j []) rfl hsg HCAP.out (by omega) (by omega) hsz ?_; intro O' oc' w3 ho3 b3)
          have S := Lib.hid (show Own w3 w.heap.size (.slice O' (on + n') oc') (catL xss (j + 1)) ∧ Below w.heap.size w w3 from ⟨by rw [HC.out j hjk]; exact ho3, hb.trans b3⟩)
          clear ho ho3 hb b3 hsg hc
          go_wp2
          go_roundg (gk - 1)
          case measure => have := HJ.out; omega
          case rel => exact ⟨j + 1, O', on + n', oc', by simp, by have := HJ.out; omega, rfl, S.out⟩
        · have hjk2 : j = k := by have := HJ.out; omega
          have F : AnsList w xss.flatten (.returned (.slice O on oc)) wr := ⟨O, on, oc, rfl, by rw [← HF.out, ← hjk2]; exact ho, hb⟩
          have HFF := Lib.hid F
          clear F ho hb hjk2
          go_wp2
          go_ret
          exact HFF.out
end Go.Proofs.Ytobifgobipcmdaa.concat
end

section
/-
  PLAIN MATHEMATICS for laws.FnPut: a term with a replaced subterm is a term, the subterm is found at its place, and what lies apart from it is found by the same path. Conditions: none. By an AI agent.
-/
namespace Go.Proofs.Ytobifgobipcmdaa.putMath
open Go.Proofs.Ytobifgobipcmdaa.sig Go.Proofs.Ytobifgobipcmdaa.term Go.Proofs.Ytobifgobipcmdaa.termOk Go.Proofs.Ytobifgobipcmdaa.termFacts Go.Proofs.Ytobifgobipcmdaa.endAt Go.Proofs.Ytobifgobipcmdaa.sub Go.Proofs.Ytobifgobipcmdaa.args Go.Proofs.Ytobifgobipcmdaa.depth Go.Proofs.Ytobifgobipcmdaa.termMath Go.Proofs.Ytobifgobipcmdaa.posMath

/-- the numbers from place a on, i of them, replaced by u -/
def putL (t : List Int) (a i : Nat) (u : List Int) : List Int := t.take a ++ (u ++ t.drop (a + i))
theorem scan_u {sg u r : List Int} (hu : scan sg 1 u = some u.length) : scan sg 1 (u ++ r) = some u.length := scan_append hu
theorem scan_put {sg u : List Int} (hu : scan sg 1 u = some u.length) : ∀ {a q j i : Nat} {l : List Int}, scan sg q l = some j → a < j → scan sg 1 (l.drop a) = some i → i ≤ j - a ∧ scan sg q (putL l a i u) = some (j - i + u.length) := by
  intro a
  induction a with
  | zero =>
    intro q j i l h ha hi
    cases q with
    | zero => rw [scan_zero] at h; injection h; omega
    | succ q =>
      obtain ⟨i', _, s1, s2⟩ := scan_split (p := 1) (q := q) (by rw [Nat.add_comm]; exact h)
      rw [List.drop_zero] at hi
      rw [hi] at s1
      injection s1 with s1
      subst s1
      have hx := scan_cat hu s2
      refine ⟨by omega, ?_⟩
      unfold putL
      rw [List.take_zero, List.nil_append, Nat.zero_add, Nat.add_comm q 1, hx]
      congr 1
      omega
  | succ a ih =>
    intro q j i l h ha hi
    cases q with
    | zero => rw [scan_zero] at h; injection h; omega
    | succ q =>
      cases l with
      | nil => rw [scan_nil] at h; cases h
      | cons x l =>
        by_cases hx : ar sg x < 0
        · rw [scan_bad hx] at h; cases h
        · rw [scan_step hx] at h
          obtain ⟨j', hj', rfl⟩ := Option.map_eq_some_iff.1 h
          rw [List.drop_succ_cons] at hi
          obtain ⟨e1, e2⟩ := ih hj' (by omega) hi
          refine ⟨by omega, ?_⟩
          have e3 : putL (x :: l) (a + 1) i u = x :: putL l a i u := by
            unfold putL
            rw [List.take_succ_cons, show a + 1 + i = (a + i) + 1 by omega, List.drop_succ_cons]
            rfl
          rw [e3, scan_step hx, e2]
          simp only [Option.map_some]
          congr 1
          omega
/-- where a place goes to -/
def mv (a i n r : Nat) : Nat := if r ≤ a then r else r - i + n

section
variable {sg t u : List Int} {a : Nat}
theorem put_len (hok : termOkB sg t = true) (ha : a < t.length) : (putL t a (len1 sg t a) u).length = t.length - len1 sg t a + u.length := by
  have := term_at hok ha
  unfold putL
  simp only [List.length_append, List.length_take, List.length_drop]
  omega
theorem put_term (hok : termOkB sg t = true) (hu : termOkB sg u = true) (ha : a < t.length) (h60 : (putL t a (len1 sg t a) u).length ≤ 60) : termOkB sg (putL t a (len1 sg t a) u) = true := by
  obtain ⟨h1, h2, h3⟩ := term_parts hok
  refine term_mk h1 h60 ?_
  have := (scan_put (term_parts hu).2.2 h3 ha (term_at hok ha).1).2
  rw [this, put_len hok ha]
theorem drop_at (ha : a ≤ t.length) (i : Nat) : (putL t a i u).drop a = u ++ t.drop (a + i) := by
  unfold putL
  rw [List.drop_append_of_le_length (by simp; omega), List.drop_of_length_le (by simp; omega), List.nil_append]
theorem put_sub (hu : termOkB sg u = true) (ha : a ≤ t.length) (i : Nat) : len1 sg (putL t a i u) a = u.length ∧ subL sg (putL t a i u) a = u := by
  have h : scan sg 1 ((putL t a i u).drop a) = some u.length := by rw [drop_at ha]; exact scan_append (term_parts hu).2.2
  have e := len1_eq h
  refine ⟨e, ?_⟩
  unfold subL
  rw [e, drop_at ha, List.take_left']
  rfl
theorem put_back (hok : termOkB sg t = true) (ha : a < t.length) : putL (putL t a (len1 sg t a) u) a u.length (subL sg t a) = t := by
  have h := term_at hok ha
  have e1 : (putL t a (len1 sg t a) u).take a = t.take a := by
    unfold putL
    rw [List.take_append_of_le_length (by simp; omega), List.take_take, Nat.min_self]
  have e2 : (putL t a (len1 sg t a) u).drop (a + u.length) = t.drop (a + len1 sg t a) := by
    rw [← List.drop_drop, drop_at (by omega), List.drop_left']
    rfl
  unfold putL at e1 e2 ⊢
  rw [e1, e2]
  unfold subL
  rw [← List.drop_drop, List.take_append_drop, List.take_append_drop]

theorem drop_low {p : Nat} (hp : p ≤ a) (ha : a ≤ t.length) (i : Nat) : (putL t a i u).drop p = putL (t.drop p) (a - p) i u := by
  unfold putL
  rw [List.drop_append_of_le_length (by simp; omega), List.drop_take, List.drop_drop, show p + (a - p + i) = a + i by omega]
theorem drop_high {p : Nat} (hp : a + len1 sg t a ≤ p) (hok : termOkB sg t = true) (ha : a < t.length) : (putL t a (len1 sg t a) u).drop (p - len1 sg t a + u.length) = t.drop p := by
  rw [show p - len1 sg t a + u.length = a + (u.length + (p - (a + len1 sg t a))) by omega, ← List.drop_drop, drop_at (by omega), ← List.drop_drop, List.drop_left' rfl, List.drop_drop]
  congr 1
  omega
/-- not strictly inside -/
def Out (sg t : List Int) (a r : Nat) : Prop := r ≤ a ∨ a + len1 sg t a ≤ r
theorem put_row (hok : termOkB sg t = true) (hu : termOkB sg u = true) (ha : a < t.length) {p j : Nat} (hp : Out sg t a p) (hs : scan sg 1 (t.drop p) = some j) :
    scan sg 1 ((putL t a (len1 sg t a) u).drop (mv a (len1 sg t a) u.length p)) = some (mv a (len1 sg t a) u.length (p + j) - mv a (len1 sg t a) u.length p) ∧ mv a (len1 sg t a) u.length p ≤ mv a (len1 sg t a) u.length (p + j) ∧ Out sg t a (p + j) := by
  have hA := term_at hok ha
  have hU := (term_parts hu).2.2
  have hj := scan_pos (q := 0) hs
  unfold Out at hp ⊢
  unfold mv
  rcases hp with hp | hp
  · rcases Nat.lt_or_ge p a with hlt | hge
    · rw [if_pos hp]
      by_cases hin : p + j ≤ a
      · rw [if_pos hin, drop_low hp (by omega)]
        refine ⟨?_, by omega, .inl hin⟩
        rw [show p + j - p = j by omega]
        refine scan_same hs ?_
        unfold putL
        rw [List.take_append_of_le_length (by simp; have := scan_le hs; simp at this; omega), List.take_take, Nat.min_eq_left (by omega)]
      · rw [if_neg hin, drop_low hp (by omega)]
        have hd : scan sg 1 ((t.drop p).drop (a - p)) = some (len1 sg t a) := by rw [List.drop_drop, show p + (a - p) = a by omega]; exact hA.1
        obtain ⟨e1, e2⟩ := scan_put hU hs (show a - p < j by omega) hd
        refine ⟨?_, by omega, .inr (by omega)⟩
        rw [e2]
        congr 1
        omega
    · obtain rfl : p = a := by omega
      rw [hA.1] at hs
      injection hs with hs
      subst hs
      rw [if_pos (Nat.le_refl _), if_neg (by omega), drop_at (by omega)]
      refine ⟨?_, by omega, .inr (Nat.le_refl _)⟩
      rw [scan_append hU]
      congr 1
      omega
  · rw [if_neg (by omega), if_neg (by omega), drop_high hp hok ha]
    refine ⟨?_, by omega, .inr (by omega)⟩
    rw [hs]
    congr 1
    omega
theorem put_args (hok : termOkB sg t = true) (hu : termOkB sg u = true) (ha : a < t.length) : ∀ {k q p i : Nat}, Out sg t a p → scan sg q (t.drop p) = some i → k ≤ q →
    argP sg (putL t a (len1 sg t a) u) k (mv a (len1 sg t a) u.length p) = mv a (len1 sg t a) u.length (argP sg t k p) ∧ Out sg t a (argP sg t k p) := by
  intro k
  induction k with
  | zero => intro q p i hp _ _; exact ⟨rfl, hp⟩
  | succ k ih =>
    intro q p i hp hs hk
    obtain ⟨q, rfl⟩ : ∃ q', q = q' + 1 := ⟨q - 1, by omega⟩
    obtain ⟨j, e1, e2, e3, e4⟩ := scan_first hs
    obtain ⟨r1, r2, r3⟩ := put_row (u := u) hok hu ha hp e1
    have hj := len1_eq e1
    have hl := len1_eq r1
    obtain ⟨g1, g2⟩ := ih r3 e4 (by omega)
    have ea : argP sg t (k + 1) p = argP sg t k (p + j) := by show argP sg t k (p + len1 sg t p) = _; rw [hj]
    rw [ea]
    refine ⟨?_, g2⟩
    rw [← g1]
    show argP sg _ k (mv a (len1 sg t a) u.length p + len1 sg _ (mv a (len1 sg t a) u.length p)) = _
    rw [hl]
    congr 1
    omega
theorem put_head (hok : termOkB sg t = true) (ha : a < t.length) {r : Nat} (hr : r < a ∨ a + len1 sg t a ≤ r) : (putL t a (len1 sg t a) u).getD (mv a (len1 sg t a) u.length r) 0 = t.getD r 0 := by
  have hA := term_at hok ha
  unfold mv
  rcases hr with hr | hr
  · rw [if_pos (by omega)]
    unfold putL
    simp only [List.getD_eq_getElem?_getD]
    rw [List.getElem?_append_left (by simp; omega), List.getElem?_take, if_pos hr]
  · rw [if_neg (by omega)]
    have h0 := congrArg (fun l => l[0]?) (drop_high (u := u) hr hok ha)
    simp only [List.getElem?_drop, Nat.add_zero] at h0
    simp only [List.getD_eq_getElem?_getD, h0]
/-- the same path leads on to where a place apart has gone -/
theorem put_walk (hok : termOkB sg t = true) (hu : termOkB sg u = true) (ha : a < t.length) {p : Nat} (hp : p < a ∨ a + len1 sg t a ≤ p) (hpt : p < t.length) {r : Nat} {ab pa : List Int} (hw : Trail sg t p r ab pa) :
    Out sg t a r → walkI sg (putL t a (len1 sg t a) u) (mv a (len1 sg t a) u.length r) pa = (mv a (len1 sg t a) u.length p : Int) := by
  induction hw with
  | here => intro _; rfl
  | @down r k ab pa h1 h2 h3 h4 h5 h6 hw ih =>
    intro hr
    have hA := term_at hok ha
    unfold Out at hr
    have hr' : r < a ∨ a + len1 sg t a ≤ r := by
      rcases hr with hr | hr
      · by_cases e : r = a
        · subst e; exfalso; omega
        · exact .inl (by omega)
      · exact .inr hr
    have hh := put_head (u := u) hok ha hr'
    have hm : mv a (len1 sg t a) u.length (r + 1) = mv a (len1 sg t a) u.length r + 1 := by
      unfold mv
      rcases hr' with h | h
      · rw [if_pos (by omega), if_pos (by omega)]
      · rw [if_neg (by omega), if_neg (by omega)]; omega
    obtain ⟨_, i, e, hs⟩ := head_scan hok (show r < t.length by omega)
    obtain ⟨g1, g2⟩ := put_args (u := u) hok hu ha (p := r + 1) (by unfold Out; omega) hs (Nat.le_of_lt h2)
    rw [walk_step (by unfold arN at h2 ⊢; rw [hh]; exact h2), ← hm, g1]
    exact ih g2
theorem sub_drop {X : List Int} {q p : Nat} (e : X.drop q = t.drop p) : subL sg X q = subL sg t p := by
  unfold subL len1
  rw [e]
/-- what lies apart is unchanged -/
theorem put_apart (hok : termOkB sg t = true) (hu : termOkB sg u = true) (ha : a < t.length) {p : Nat} (hpt : p < t.length) (hp : p + len1 sg t p ≤ a ∨ a + len1 sg t a ≤ p) :
    subL sg (putL t a (len1 sg t a) u) (mv a (len1 sg t a) u.length p) = subL sg t p ∧ mv a (len1 sg t a) u.length p < (putL t a (len1 sg t a) u).length := by
  have hA := term_at hok ha
  have hP := term_at hok hpt
  have hU := term_len hu
  unfold mv
  rw [put_len hok ha]
  rcases hp with hp | hp
  · rw [if_pos (by omega)]
    refine ⟨?_, by omega⟩
    have et : ((putL t a (len1 sg t a) u).drop p).take (len1 sg t p) = (t.drop p).take (len1 sg t p) := by
      rw [drop_low (by omega) (by omega)]
      unfold putL
      rw [List.take_append_of_le_length (by simp; omega), List.take_take, Nat.min_eq_left (by omega)]
    have hs := scan_same hP.1 et.symm
    unfold subL
    rw [len1_eq hs, et]
  · rw [if_neg (by omega)]
    refine ⟨?_, by omega⟩
    exact sub_drop (drop_high (u := u) hp hok ha)
end
end Go.Proofs.Ytobifgobipcmdaa.putMath
end

section
/-
  CONTRACTS: spec.l3Put, spec.PutAt, impl.PutAt. Conditions: the slices read as lists ('Seg'), at most 1048576 numbers; the place is an int64; a nil slice has no capacity. By an AI agent.
-/
namespace Go.Proofs.Ytobifgobipcmdaa.put
open Go.RowKit Go.Proofs.Ytobifgobipcmdaa.segsHelp Go.Proofs.Ytobifgobipcmdaa.base Go.Proofs.Ytobifgobipcmdaa.ints Go.Proofs.Ytobifgobipcmdaa.sig Go.Proofs.Ytobifgobipcmdaa.term Go.Proofs.Ytobifgobipcmdaa.arity Go.Proofs.Ytobifgobipcmdaa.endOf Go.Proofs.Ytobifgobipcmdaa.cursor Go.Proofs.Ytobifgobipcmdaa.termOk Go.Proofs.Ytobifgobipcmdaa.endAt Go.Proofs.Ytobifgobipcmdaa.inside Go.Proofs.Ytobifgobipcmdaa.marks Go.Proofs.Ytobifgobipcmdaa.app Go.Proofs.Ytobifgobipcmdaa.sym Go.Proofs.Ytobifgobipcmdaa.sub Go.Proofs.Ytobifgobipcmdaa.segs Go.Proofs.Ytobifgobipcmdaa.posMath Go.Proofs.Ytobifgobipcmdaa.putMath Go.Proofs.Ytobifgobipcmdaa.concat
set_option maxRecDepth 100000

theorem Seg.front {w : World} {B b off m a : Nat} {t : List Int} (h : Seg w B (some ⟨b, off, none⟩) m t) (ha : a ≤ m) : Seg w B (some ⟨b, off, none⟩) a (t.take a) := by
  have := Seg.cut (a := 0) (j := a) h (by omega)
  simpa using this
theorem Seg.back {w : World} {B b off m e : Nat} {t : List Int} (h : Seg w B (some ⟨b, off, none⟩) m t) (he : e ≤ m) : Seg w B (some ⟨b, off + e, none⟩) (m - e) (t.drop e) := by
  have := Seg.cut (a := e) (j := m - e) h (by omega)
  rwa [List.take_of_length_le (by simp [h.1])] at this
theorem Seg.none_any {w : World} {B : Nat} {A : Option Addr} {t : List Int} (h : t = []) : Seg w B A 0 t := ⟨by rw [h]; rfl, fun h => absurd h (Nat.lt_irrefl _)⟩

def putI (sg t u : List Int) (a : Nat) : List Int := putL t a (len1 sg t a) u
def AnsPut (w : World) (ys : List Int) (b : Bool) (e : Ending) (w' : World) : Prop := ∃ A n c, e = .returned (.tuple #[.slice A n c, .bool b]) ∧ Own w' w.heap.size (.slice A n c) ys ∧ Below w.heap.size w w'
def fitB (sg t u : List Int) (a : Nat) : Bool := decide ((putI sg t u a).length ≤ 60)
def fitL (sg t u : List Int) (a : Nat) : List Int := if fitB sg t u a = true then putI sg t u a else []

set_option maxHeartbeats 1000000 in
theorem l3Put (A A' U : Option Addr) (n c m c' un uc : Nat) (sg t u : List Int) (a : Nat) (w : World) (h : Seg w w.heap.size A n sg) (h' : Seg w w.heap.size A' m t) (hu : Seg w w.heap.size U un u) (hcu : U = none → uc = 0) (hn : n ≤ 1048576) (hm : m ≤ 1048576) (hun : un ≤ 60) (hc' : m ≤ c') (hc2 : c' ≤ 9223372036854775807)
    (hok : termOkB sg t = true) (hat : a < t.length) :
    Calls Try.prog 51 #[.agg #[.slice A n c], .slice A' m c', .int .i64 (a : Int), .slice U un uc] w (AnsPut w (fitL sg t u a) (fitB sg t u a)) := by
  have ham : a < m := by rw [h'.1] at hat; exact hat
  obtain ⟨b, off, x, rfl, -, -, -⟩ := h'.spot ham
  obtain ⟨W, hW⟩ : ∃ W, W = w.alloc (.cells #[.slice A n c] 26) := ⟨_, rfl⟩
  have f : Fr w W A n c sg (some ⟨b, off, none⟩) m t := by rw [hW]; exact Fr.start h h'
  have hU : Seg W w.heap.size U un u := hu.below f.b
  have HW := Lib.hid hW
  obtain ⟨j, hj⟩ : ∃ j, len1 sg t a = j := ⟨_, rfl⟩
  obtain ⟨t1, t2, t3⟩ := term_at hok hat
  have hars := (sig_arities (termOk_parts hok).1).1
  rw [hj] at t1 t2 t3
  rw [h'.1] at t3
  have h60 : m ≤ 60 := by have := (termOk_parts hok).2.1; rw [h'.1] at this; exact this
  have HE := Lib.hid (endI_some t1)
  have HTL := Lib.hid hat
  have HPI := Lib.hid (show putI sg t u a = t.take a ++ u ++ t.drop (a + j) by unfold putI putL; rw [hj, List.append_assoc])
  have hpl : (putI sg t u a).length = a + un + (m - (a + j)) := by rw [HPI.out]; simp [h'.1, hu.1]; omega
  have HPL := Lib.hid hpl
  have LC := Lib.hid (copyInts (some ⟨b, off, none⟩) a c' (t.take a) W ((Seg.front f.t1 (by omega))) (fun e => by cases e) (by omega))
  have HCU := Lib.hid hcu
  have i0 : (0 : Int) ≤ (a : Int) := by omega
  have i1 : (a : Int) ≤ (c' : Int) := by omega
  have i2 : (a : Int) + (j : Int) ≤ (c' : Int) := by omega
  have i3 : (a : Int) + (j : Int) ≤ (m : Int) := by omega
  clear hW h h' hu hj t1 hok hat hcu hpl
  go_enter Try.func51, Try.ntmps51
  go_wp2_with fail
  rw [← HW.out]
  refine LC.out.mono ?_
  rintro e w1 ⟨O1, n1, c1, rfl, o1, bb⟩
  have hta : (t.take a).length = a := by rw [List.length_take]; have := HTL.out; omega
  obtain rfl : n1 = a := by rw [Own.len o1, hta]
  replace hU := hU.below (bb.mono (Nat.le_of_lt f.size))
  replace o1 := Own.lower (base' := w.heap.size + 1) o1 f.size
  replace f := f.next bb
  have z1 : w.heap.size + 1 ≤ w1.heap.size := f.size
  clear bb hta LC
  go_wp2_with (at_builtin; refine appAll rfl _ _ rfl (w.heap.size + 1) O1 n1 c1 _ rfl o1 U un uc w.heap.size u rfl hU HCU.out (by omega) (by omega) z1 ?_; intro O2 c2 w2 o2 b2; have f2 := f.over b2; have cA2 : w2.cell? ⟨w.heap.size, 0, none⟩ = some (.slice A n c) := f2.cell)
  clear o1 b2 f hU z1 cA2
  replace f := f2
  clear f2
  have cA := f.cell
  obtain ⟨k, hk⟩ : ∃ k, n1 + j = k := ⟨_, rfl⟩
  rw [hk] at HPI HPL t3
  have HEK := Lib.hid (show endI sg t n1 = (k : Int) by rw [HE.out, ← hk]; omega)
  have hn1k : n1 ≤ k := by omega
  clear HE hk i2 i3 t2
  refine (specEnd A _ n c m c' sg t (n1 : Int) _ f.s1 f.t1 hn hm hars i0 (by omega)).mono ?_
  rintro e w3 ⟨he, bb⟩
  rw [Int.toNat_natCast, HEK.out] at he
  subst he
  replace f := f.next bb
  replace o2 := Own.next o2 bb
  clear bb cA
  have i2 : (k : Int) ≤ (c' : Int) := by omega
  have i4 : (k : Int) ≤ (m : Int) := by omega
  have z1 : w.heap.size + 1 ≤ w3.heap.size := f.size
  by_cases hce : c' = k
  · subst hce
    have hmk : m - c' = 0 := by omega
    have HSG := Lib.hid (show Seg w3 w.heap.size (some ⟨b, off, none⟩) 0 [] from Seg.none_any rfl)
    have HPI2 := Lib.hid (show putI sg t u n1 = t.take n1 ++ u ++ [] by rw [HPI.out, List.drop_eq_nil_of_le (by rw [f.t1.1]; omega)])
    have HPL2 := Lib.hid (show (putI sg t u n1).length = n1 + un by rw [HPL.out, hmk]; rfl)
    clear hmk HPL HPI
    by_cases h6 : n1 + un ≤ 60
    · have h7 : ¬ (60 : Int) < (n1 : Int) + (un : Int) := by omega
      go_wp2_with (at_builtin; refine appAll rfl _ _ rfl (w.heap.size + 1) O2 (n1 + un) c2 _ rfl o2 (some ⟨b, off, none⟩) 0 0 w.heap.size [] rfl HSG.out (fun e => by cases e) (by omega) (by omega) z1 ?_; intro O4 c4 w4 o4 b4)
      replace f := f.over b4
      have F : AnsPut w (fitL sg t u n1) (fitB sg t u n1) (.returned (.tuple #[.slice O4 (n1 + un) c4, .bool true])) w4 := ⟨O4, _, c4, by rw [show fitB sg t u n1 = true by unfold fitB; rw [HPL2.out]; exact decide_eq_true h6], by unfold fitL; rw [if_pos (by unfold fitB; rw [HPL2.out]; exact decide_eq_true h6), HPI2.out]; exact Own.lower o4 (Nat.le_succ _), f.b⟩
      have HF := Lib.hid F
      clear F o4 f
      go_ret2
      exact HF.out
    · have h7 : (60 : Int) < (n1 : Int) + (un : Int) := by omega
      go_wp2_with (at_builtin; refine appAll rfl _ _ rfl (w.heap.size + 1) O2 (n1 + un) c2 _ rfl o2 (some ⟨b, off, none⟩) 0 0 w.heap.size [] rfl HSG.out (fun e => by cases e) (by omega) (by omega) z1 ?_; intro O4 c4 w4 o4 b4)
      replace f := f.over b4
      have F : AnsPut w (fitL sg t u n1) (fitB sg t u n1) (.returned (.tuple #[.slice (some ⟨w4.heap.size, 0, none⟩) 0 0, .bool false])) (w4.alloc (.cells #[] 2)) := ⟨_, 0, 0, by rw [show fitB sg t u n1 = false by unfold fitB; rw [HPL2.out]; exact decide_eq_false h6], by unfold fitL; rw [if_neg (by unfold fitB; rw [HPL2.out, decide_eq_false h6]; simp)]; exact own_empty w4 w.heap.size (Nat.le_of_lt f.size), (f.alloc _).b⟩
      have HF := Lib.hid F
      clear F o4 f
      go_ret2
      exact HF.out
  · have HSG := Lib.hid (Seg.back f.s' (e := k) t3)
    obtain ⟨r, hr⟩ : ∃ r, m - k = r := ⟨_, rfl⟩
    rw [hr] at HPL HSG
    have hr60 : r ≤ 60 := by omega
    by_cases h6 : n1 + un + r ≤ 60
    · have h7 : ¬ (60 : Int) < (n1 : Int) + (un : Int) + (r : Int) := by omega
      go_wp2_with (at_builtin; refine appAll rfl _ _ rfl (w.heap.size + 1) O2 (n1 + un) c2 _ rfl o2 (some ⟨b, off + k, none⟩) r (c' - k) w.heap.size (t.drop k) rfl HSG.out (fun e => by cases e) (by omega) (by omega) z1 ?_; intro O4 c4 w4 o4 b4)
      replace f := f.over b4
      have F : AnsPut w (fitL sg t u n1) (fitB sg t u n1) (.returned (.tuple #[.slice O4 (n1 + un + r) c4, .bool true])) w4 := ⟨O4, _, c4, by rw [show fitB sg t u n1 = true by unfold fitB; rw [HPL.out]; exact decide_eq_true h6], by unfold fitL; rw [if_pos (by unfold fitB; rw [HPL.out]; exact decide_eq_true h6), HPI.out]; exact Own.lower o4 (Nat.le_succ _), f.b⟩
      have HF := Lib.hid F
      clear F o4 f
      go_ret2
      exact HF.out
    · have h7 : (60 : Int) < (n1 : Int) + (un : Int) + (r : Int) := by omega
      go_wp2_with (at_builtin; refine appAll rfl _ _ rfl (w.heap.size + 1) O2 (n1 + un) c2 _ rfl o2 (some ⟨b, off + k, none⟩) r (c' - k) w.heap.size (t.drop k) rfl HSG.out (fun e => by cases e) (by omega) (by omega) z1 ?_; intro O4 c4 w4 o4 b4)
      replace f := f.over b4
      have F : AnsPut w (fitL sg t u n1) (fitB sg t u n1) (.returned (.tuple #[.slice (some ⟨w4.heap.size, 0, none⟩) 0 0, .bool false])) (w4.alloc (.cells #[] 2)) := ⟨_, 0, 0, by rw [show fitB sg t u n1 = false by unfold fitB; rw [HPL.out]; exact decide_eq_false h6], by unfold fitL; rw [if_neg (by unfold fitB; rw [HPL.out, decide_eq_false h6]; simp)]; exact own_empty w4 w.heap.size (Nat.le_of_lt f.size), (f.alloc _).b⟩
      have HF := Lib.hid F
      clear F o4 f
      go_ret2
      exact HF.out
def putB (sg t u : List Int) (x : Int) : Bool := (thereB sg t x && termOkB sg u) && fitB sg t u x.toNat
def putR (sg t u : List Int) (x : Int) : List Int := if putB sg t u x = true then putI sg t u x.toNat else []
theorem put_no {sg t u : List Int} {x : Int} (h : thereB sg t x = false ∨ termOkB sg u = false) : putB sg t u x = false ∧ putR sg t u x = [] := by
  have e : putB sg t u x = false := by
    unfold putB
    rcases h with h | h <;> rw [h] <;> simp
  exact ⟨e, by unfold putR; rw [if_neg (by rw [e]; simp)]⟩
theorem put_yes {sg t u : List Int} {a : Nat} (h1 : thereB sg t (a : Int) = true) (h2 : termOkB sg u = true) : putB sg t u (a : Int) = fitB sg t u a ∧ putR sg t u (a : Int) = fitL sg t u a := by
  have e : putB sg t u (a : Int) = fitB sg t u a := by unfold putB; rw [h1, h2, Int.toNat_natCast]; rfl
  exact ⟨e, by unfold putR fitL; rw [e, Int.toNat_natCast]⟩
theorem putR_len {sg t u : List Int} {x : Int} : (putR sg t u x).length ≤ 60 := by
  unfold putR
  split
  · rename_i h
    unfold putB fitB at h
    simp only [Bool.and_eq_true, decide_eq_true_eq] at h
    exact h.2
  · simp
theorem ansPut_no {w w' : World} {sg t u : List Int} {x : Int} {A : Option Addr} {c : Nat} (h : thereB sg t x = false ∨ termOkB sg u = false) (ho : Own w' w.heap.size (.slice A 0 c) []) (hb : Below w.heap.size w w') : AnsPut w (putR sg t u x) (putB sg t u x) (.returned (.tuple #[.slice A 0 c, .bool false])) w' := by
  obtain ⟨e1, e2⟩ := put_no h
  exact ⟨A, 0, c, by rw [e1], by rw [e2]; exact ho, hb⟩

set_option maxHeartbeats 1000000 in
theorem specPutAt (A A' U : Option Addr) (n c m c' un uc : Nat) (sg t : List Int) (x : Int) (u : List Int) (w : World) (h : Seg w w.heap.size A n sg) (h' : Seg w w.heap.size A' m t) (hu : Seg w w.heap.size U un u) (hn : n ≤ 1048576) (hm : m ≤ 1048576) (hun : un ≤ 1048576)
    (hcu : U = none → uc = 0) (hc' : m ≤ c') (hc2 : c' ≤ 9223372036854775807) :
    Calls Try.prog 15 #[.agg #[.slice A n c], .slice A' m c', .int .i64 x, .slice U un uc] w (AnsPut w (putR sg t u x) (putB sg t u x)) := by
  obtain ⟨W, hW⟩ : ∃ W, W = w.alloc (.cells #[.slice A n c] 26) := ⟨_, rfl⟩
  have f : Fr w W A n c sg A' m t := by rw [hW]; exact Fr.start h h'
  have hU : Seg W W.heap.size U un u := (hu.below f.b).more (Nat.le_of_lt f.size)
  have HW := Lib.hid hW
  have L := Lib.hid (right A A' n c m c' sg t x W f.s1 f.t1 hn hm)
  clear hW h h' hu
  cases hx : thereB sg t x with
  | false =>
    have HX := Lib.hid hx
    clear hx
    go_enter Try.func15, Try.ntmps15
    go_wp2_with fail
    rw [← HW.out]
    refine L.out.mono ?_
    rintro e w1 ⟨he, bb⟩
    rw [HX.out] at he
    subst he
    have F := Lib.hid (ansPut_no (w := w) (u := u) (.inl HX.out) (own_empty w1 w.heap.size (f.next bb).b.size) ((f.next bb).alloc _).b)
    clear f L bb hU
    go_wp2
    go_ret2
    exact F.out
  | true =>
    have HX := Lib.hid hx
    obtain ⟨hok, i0, i1⟩ := there_parts hx
    obtain ⟨a, rfl⟩ := Int.eq_ofNat_of_zero_le i0
    have HOK := Lib.hid hok
    have HAL := Lib.hid (show a < t.length by omega)
    clear hx hok i0 i1
    cases hku : termOkB sg u with
    | false =>
      have HU := Lib.hid hku
      clear hku
      go_enter Try.func15, Try.ntmps15
      go_wp2_with fail
      rw [← HW.out]
      refine L.out.mono ?_
      rintro e w1 ⟨he, bb⟩
      rw [HX.out] at he
      subst he
      replace f := f.next bb
      replace hU := hU.next bb
      have cA := f.cell
      clear bb L
      go_wp2_with fail
      refine (specTermOk A U n c un uc sg u _ f.s1 hU hn hun).mono ?_
      rintro e w2 ⟨he, bb⟩
      rw [HU.out] at he
      subst he
      have F := Lib.hid (ansPut_no (w := w) (t := t) (x := (a : Int)) (.inr HU.out) (own_empty w2 w.heap.size (f.next bb).b.size) ((f.next bb).alloc _).b)
      clear f bb hU cA
      go_wp2
      go_ret2
      exact F.out
    | true =>
      have HU := Lib.hid hku
      have hu60 : un ≤ 60 := by have h1 := (termOk_parts hku).2.1; rw [hU.1] at h1; exact h1
      have HP := Lib.hid (put_yes HX.out hku)
      clear hku
      go_enter Try.func15, Try.ntmps15
      go_wp2_with fail
      rw [← HW.out]
      refine L.out.mono ?_
      rintro e w1 ⟨he, bb⟩
      rw [HX.out] at he
      subst he
      replace f := f.next bb
      replace hU := hU.next bb
      have cA := f.cell
      clear bb L
      go_wp2_with fail
      refine (specTermOk A U n c un uc sg u _ f.s1 hU hn hun).mono ?_
      rintro e w2 ⟨he, bb⟩
      rw [HU.out] at he
      subst he
      replace f := f.next bb
      replace hU := hU.next bb
      clear bb cA
      have cA := f.cell
      go_wp2_with fail
      refine (l3Put A A' U n c m c' un uc sg t u a _ f.s1 f.t1 hU hcu hn hm hu60 hc' hc2 HOK.out HAL.out).mono ?_
      rintro e w3 ⟨A2, n2, c2, rfl, o2, bb⟩
      have F : AnsPut w (putR sg t u (a : Int)) (putB sg t u (a : Int)) (.returned (.tuple #[.slice A2 n2 c2, .bool (fitB sg t u a)])) w3 := ⟨A2, n2, c2, by rw [HP.out.1], by rw [HP.out.2]; exact Own.lower o2 (Nat.le_of_lt f.size), (f.next bb).b⟩
      replace F := Lib.hid F
      clear f bb hU cA o2 HP
      generalize fitB sg t u a = b at *
      go_wp2
      go_ret2
      exact F.out

set_option maxHeartbeats 400000 in
theorem tooLong (A : Option Addr) (n c : Nat) (w : World) (hn : n ≤ 9223372036854775807) :
    Calls Try.prog 49 #[.slice A n c] w fun e w' => w = w' ∧ e = .returned (.bool (decide (60 < n))) := by
  have E : decide ((60 : Int) < (n : Int)) = decide (60 < n) := decide_eq_decide.2 (by omega)
  rw [← E]
  have HE := Lib.hid E
  clear E
  generalize hz : decide ((60 : Int) < (n : Int)) = z
  have HZ := Lib.hid hz
  clear hz
  go_enter Try.func49, Try.ntmps49
  go_wp2
  go_ret
  exact ⟨rfl, by rw [← HZ.out]; rfl⟩
theorem segs3 {w : World} {t : TypeId} {A1 A2 A3 : Option Addr} {n1 c1 n2 c2 n3 c3 : Nat} {x1 x2 x3 : List Int} (h1 : Seg w w.heap.size A1 n1 x1) (h2 : Seg w w.heap.size A2 n2 x2) (h3 : Seg w w.heap.size A3 n3 x3) (k1 : Cap A1 n1 c1) (k2 : Cap A2 n2 c2) (k3 : Cap A3 n3 c3) :
    Segs (w.alloc (.cells #[.slice A1 n1 c1, .slice A2 n2 c2, .slice A3 n3 c3] t)) (w.alloc (.cells #[.slice A1 n1 c1, .slice A2 n2 c2, .slice A3 n3 c3] t)).heap.size (some ⟨w.heap.size, 0, none⟩) 3 [x1, x2, x3] := by
  have r := Row.new w t #[.slice A1 n1 c1, .slice A2 n2 c2, .slice A3 n3 c3]
  have b : Below w.heap.size w (w.alloc (.cells #[.slice A1 n1 c1, .slice A2 n2 c2, .slice A3 n3 c3] t)) := (Below.refl _ _).alloc (Nat.le_refl _) _
  refine ⟨rfl, fun _ => ⟨w.heap.size, 0, rfl, r.lt, fun j hj => ?_⟩⟩
  rw [Nat.zero_add, r.cell j]
  rcases (show j = 0 ∨ j = 1 ∨ j = 2 by omega) with rfl | rfl | rfl
  · exact ⟨A1, n1, c1, rfl, h1.next b, k1⟩
  · exact ⟨A2, n2, c2, rfl, h2.next b, k2⟩
  · exact ⟨A3, n3, c3, rfl, h3.next b, k3⟩
set_option maxHeartbeats 1000000 in
theorem implPutAt (A A' U : Option Addr) (n c m c' un uc : Nat) (sg t : List Int) (x : Int) (u : List Int) (w : World) (h : Seg w w.heap.size A n sg) (h' : Seg w w.heap.size A' m t) (hu : Seg w w.heap.size U un u) (hn : n ≤ 1048576) (hm : m ≤ 1048576) (hun : un ≤ 1048576) (hx1 : -9223372036854775808 ≤ x) (hx2 : x ≤ 9223372036854775807)
    (hcu : Cap U un uc) (hc' : m ≤ c') (hc2 : c' ≤ 9223372036854775807) :
    Calls Try.prog 14 #[.agg #[.slice A n c], .slice A' m c', .int .i64 x, .slice U un uc] w (AnsPut w (putR sg t u x) (putB sg t u x)) := by
  obtain ⟨W, hW⟩ : ∃ W, W = w.alloc (.cells #[.slice A n c] 26) := ⟨_, rfl⟩
  have f : Fr w W A n c sg A' m t := by rw [hW]; exact Fr.start h h'
  have hU : Seg W W.heap.size U un u := (hu.below f.b).more (Nat.le_of_lt f.size)
  have HW := Lib.hid hW
  have HLM := Lib.hid h'.1
  have L := Lib.hid (implEndOf A A' n c m c' sg t x W f.s1 f.t1 hn hm hx1 hx2)
  clear hW h h' hu
  cases hx : thereB sg t x with
  | false =>
    have HX := Lib.hid hx
    have HE := Lib.hid (show endOfI sg t x = -1 by unfold endOfI; rw [if_neg (by rw [hx]; simp)])
    clear hx
    go_enter Try.func14, Try.ntmps14
    go_wp2_with fail
    rw [← HW.out]
    refine L.out.mono ?_
    rintro e w1 ⟨he, bb⟩
    rw [HE.out] at he
    subst he
    have F := Lib.hid (ansPut_no (w := w) (u := u) (.inl HX.out) (Own.nil w1 w.heap.size) (f.next bb).b)
    clear f L bb hU
    go_wp2
    go_ret2
    exact F.out
  | true =>
    have HX := Lib.hid hx
    obtain ⟨hok, i0, i1⟩ := there_parts hx
    obtain ⟨a, rfl⟩ := Int.eq_ofNat_of_zero_le i0
    have hal : a < t.length := by omega
    obtain ⟨k, hk⟩ : ∃ k, a + len1 sg t a = k := ⟨_, rfl⟩
    have HE := Lib.hid (show endOfI sg t (a : Int) = (k : Int) by unfold endOfI; rw [if_pos hx, Int.toNat_natCast, end_at hok hal, hk])
    have HK := Lib.hid hk
    have hkm : k ≤ m := by have h3 := (term_at hok hal).2.2; rw [HLM.out] at h3; omega
    have hak : a < k := by have h3 := (term_at hok hal).2.1; omega
    have h60 : m ≤ 60 := by have h3 := (termOk_parts hok).2.1; rw [HLM.out] at h3; exact h3
    have hneg : ¬ (k : Int) < 0 := by omega
    clear hx hok i0 i1 hk
    cases hku : termOkB sg u with
    | false =>
      have HU := Lib.hid hku
      clear hku
      go_enter Try.func14, Try.ntmps14
      go_wp2_with fail
      rw [← HW.out]
      refine L.out.mono ?_
      rintro e w1 ⟨he, bb⟩
      rw [HE.out] at he
      subst he
      replace f := f.next bb
      replace hU := hU.next bb
      have cA := f.cell
      clear bb L
      go_wp2_with fail
      refine (implTermOk A U n c un uc sg u _ f.s1 hU hn hun).mono ?_
      rintro e w2 ⟨he, bb⟩
      rw [HU.out] at he
      subst he
      have F := Lib.hid (ansPut_no (w := w) (t := t) (x := (a : Int)) (.inr HU.out) (Own.nil w2 w.heap.size) (f.next bb).b)
      clear f bb hU cA
      go_wp2
      go_ret2
      exact F.out
    | true =>
      have HU := Lib.hid hku
      have hu60 : un ≤ 60 := by have h1 := (termOk_parts hku).2.1; rw [hU.1] at h1; exact h1
      have HP := Lib.hid (put_yes HX.out hku)
      have HUL := Lib.hid hU.1
      have HPI := Lib.hid (show [t.take a, u, t.drop k].flatten = putI sg t u a by unfold putI putL; rw [HK.out]; simp)
      have HPL := Lib.hid (show (putI sg t u a).length = a + un + (m - k) by rw [← HPI.out]; simp [HUL.out, HLM.out]; omega)
      have HT := Lib.hid (show tot [t.take a, u, t.drop k] ≤ 1048576 by unfold tot sumL; simp [HUL.out, HLM.out]; omega)
      clear hku
      go_enter Try.func14, Try.ntmps14
      go_wp2_with fail
      rw [← HW.out]
      refine L.out.mono ?_
      rintro e w1 ⟨he, bb⟩
      rw [HE.out] at he
      subst he
      replace f := f.next bb
      replace hU := hU.next bb
      have cA := f.cell
      clear bb L
      go_wp2_with fail
      refine (implTermOk A U n c un uc sg u _ f.s1 hU hn hun).mono ?_
      rintro e w2 ⟨he, bb⟩
      rw [HU.out] at he
      subst he
      replace f := f.next bb
      replace hU := hU.next bb
      clear bb cA
      obtain ⟨b, off, y, rfl, -, -, -⟩ := f.t1.spot (show a < m by omega)
      have i0 : (0 : Int) ≤ (a : Int) := by omega
      have i1 : (a : Int) ≤ (c' : Int) := by omega
      have i2 : (k : Int) ≤ (c' : Int) := by omega
      have i3 : (k : Int) ≤ (m : Int) := by omega
      have i4 : (0 : Int) ≤ (k : Int) := by omega
      have SF := Seg.front f.t1 (show a ≤ m by omega)
      by_cases hce : c' = k
      · subst hce
        have hmk : m - c' = 0 := by omega
        have S3 := Lib.hid (segs3 (t := 24) (A3 := some ⟨b, off, none⟩) (c3 := 0) SF hU (Seg.none_any (show t.drop c' = [] from List.drop_eq_nil_of_le (by rw [f.t1.1]; omega))) ⟨show a ≤ c' by omega, hc2, fun e => by cases e⟩ hcu ⟨Nat.le_refl _, by omega, fun _ => rfl⟩).drew
        rw [hmk] at HPL
        clear SF hmk
        go_wp2_with fail
        go_region_held3 (fun _ => True)
          (trivial)
          (first
            | (go_at_call 48; refine (concat _ _ _ _ _ S3.out HT.out).mono ?_; rintro e w4 ⟨O4, n4, c4, rfl, o4, b4⟩))
        have hn4 : n4 = a + un + 0 := by rw [Own.len o4, HPI.out]; exact HPL.out
        have bf := (((Below.refl w2.heap.size w2).alloc (Nat.le_refl _) (.cells #[.slice (some ⟨b, off, none⟩) a c', .slice U un uc, .slice (some ⟨b, off, none⟩) 0 0] 24)).drew).trans (b4.mono (by simp))
        have hsz := f.size
        replace f := f.next bf
        replace o4 := Own.lower (base' := w.heap.size) o4 (by simp; omega)
        obtain ⟨z, hz⟩ : ∃ z, fitB sg t u a = z := ⟨_, rfl⟩
        have F : AnsPut w (putR sg t u (a : Int)) (putB sg t u (a : Int)) (.returned (.tuple #[if z = true then .slice O4 n4 c4 else .slice none 0 0, .bool z])) w4 := by
          refine ⟨if z = true then O4 else none, if z = true then n4 else 0, if z = true then c4 else 0, ?_, ?_, f.b⟩
          · rw [HP.out.1, hz]; cases z <;> rfl
          · rw [HP.out.2]
            unfold fitL
            rw [hz]
            cases z with
            | false => exact Own.nil _ _
            | true => rw [HPI.out] at o4; exact o4
        have HF := Lib.hid F
        have HTL := Lib.hid (show decide (60 < n4) = !z by
          rw [← hz]
          unfold fitB
          rw [HPL.out, hn4]
          by_cases e : a + un + 0 ≤ 60
          · rw [decide_eq_true e, decide_eq_false (by omega)]; rfl
          · rw [decide_eq_false e, decide_eq_true (by omega)]; rfl)
        have h463 : n4 ≤ 9223372036854775807 := by omega
        clear F o4 b4 f hz hn4 bf S3 hU
        go_wp2_with fail
        refine (tooLong O4 n4 c4 w4 h463).mono ?_
        rintro e w5 ⟨rfl, rfl⟩
        rw [HTL.out]
        cases z with
        | false =>
          go_wp2
          go_ret2
          exact HF.out
        | true =>
          go_wp2
          go_ret2
          exact HF.out
      · obtain ⟨r, hr⟩ : ∃ r, m - k = r := ⟨_, rfl⟩
        have SB := Seg.back f.t1 hkm
        rw [hr] at SB HPL
        have hr60 : r ≤ 60 := by omega
        have S3 := Lib.hid (segs3 (t := 24) SF hU SB ⟨show a ≤ c' by omega, hc2, fun e => by cases e⟩ hcu ⟨show r ≤ c' - k by omega, by omega, fun e => by cases e⟩).drew
        clear SF SB
        go_wp2_with fail
        go_region_held3 (fun _ => True)
          (trivial)
          (first
            | (go_at_call 48; refine (concat _ _ _ _ _ S3.out HT.out).mono ?_; rintro e w4 ⟨O4, n4, c4, rfl, o4, b4⟩))
        have hn4 : n4 = a + un + r := by rw [Own.len o4, HPI.out]; exact HPL.out
        have bf := (((Below.refl w2.heap.size w2).alloc (Nat.le_refl _) (.cells #[.slice (some ⟨b, off, none⟩) a c', .slice U un uc, .slice (some ⟨b, off + k, none⟩) r (c' - k)] 24)).drew).trans (b4.mono (by simp))
        have hsz := f.size
        replace f := f.next bf
        replace o4 := Own.lower (base' := w.heap.size) o4 (by simp; omega)
        obtain ⟨z, hz⟩ : ∃ z, fitB sg t u a = z := ⟨_, rfl⟩
        have F : AnsPut w (putR sg t u (a : Int)) (putB sg t u (a : Int)) (.returned (.tuple #[if z = true then .slice O4 n4 c4 else .slice none 0 0, .bool z])) w4 := by
          refine ⟨if z = true then O4 else none, if z = true then n4 else 0, if z = true then c4 else 0, ?_, ?_, f.b⟩
          · rw [HP.out.1, hz]; cases z <;> rfl
          · rw [HP.out.2]
            unfold fitL
            rw [hz]
            cases z with
            | false => exact Own.nil _ _
            | true => rw [HPI.out] at o4; exact o4
        have HF := Lib.hid F
        have HTL := Lib.hid (show decide (60 < n4) = !z by
          rw [← hz]
          unfold fitB
          rw [HPL.out, hn4]
          by_cases e : a + un + r ≤ 60
          · rw [decide_eq_true e, decide_eq_false (by omega)]; rfl
          · rw [decide_eq_false e, decide_eq_true (by omega)]; rfl)
        have h463 : n4 ≤ 9223372036854775807 := by omega
        clear F o4 b4 f hz hn4 bf S3 hU
        go_wp2_with fail
        refine (tooLong O4 n4 c4 w4 h463).mono ?_
        rintro e w5 ⟨rfl, rfl⟩
        rw [HTL.out]
        cases z with
        | false =>
          go_wp2
          go_ret2
          exact HF.out
        | true =>
          go_wp2
          go_ret2
          exact HF.out
theorem specPutX (A A' U : Option Addr) (n c m c' un uc : Nat) (sg t : List Int) (x : Int) (u : List Int) (w : World) (h : Seg w w.heap.size A n sg) (h' : Seg w w.heap.size A' m t) (hu : Seg w w.heap.size U un u) (hn : n ≤ 1048576) (hm : m ≤ 1048576) (hun : un ≤ 1048576) (_ : -9223372036854775808 ≤ x) (_ : x ≤ 9223372036854775807)
    (hcu : Cap U un uc) (hc' : m ≤ c') (hc2 : c' ≤ 9223372036854775807) :
    Calls Try.prog 15 #[.agg #[.slice A n c], .slice A' m c', .int .i64 x, .slice U un uc] w (AnsPut w (putR sg t u x) (putB sg t u x)) := specPutAt A A' U n c m c' un uc sg t x u w h h' hu hn hm hun hcu.2.2 hc' hc2
theorem putR_len' {sg t u : List Int} {x : Int} : (putR sg t u x).length ≤ 1048576 := by have := putR_len (sg := sg) (t := t) (u := u) (x := x); omega
end Go.Proofs.Ytobifgobipcmdaa.put
end
