/-
  CONTRACTS: spec.l1DrawSig, spec.l1DrawSigAny: a drawn signature. Conditions: a drawing cursor ('Dice'). By an AI agent.
-/
import Derived.Test.YtdeegjeopkcomaaDice
import Derived.Test.YtdeegjeopkcomaaList
import Derived.Test.YtdeegjeopkcomaaTermOk
import Derived.Deep.AppendLies
import Derived.Deep.RegionLaw
namespace Go.Proofs.Ytdeegjeopkcomaa.drawSig
open Go.RowKit Go.Proofs.Ytdeegjeopkcomaa.base Go.Proofs.Ytdeegjeopkcomaa.ints Go.Proofs.Ytdeegjeopkcomaa.sig Go.Proofs.Ytdeegjeopkcomaa.cursor Go.Proofs.Ytdeegjeopkcomaa.marks Go.Proofs.Ytdeegjeopkcomaa.app Go.Proofs.Ytdeegjeopkcomaa.sym Go.Proofs.Ytdeegjeopkcomaa.dice
set_option maxRecDepth 100000

/-- one number appended, at a step of a region that draws -/
theorem stepApp1 {w : World} {ops : Array Oper} {o : Oper} {a : Act} {K : Act → World → Prop} {Q : Exit → Act → World → Prop} {E : Prop} (hgd : o.guard = none) (s x : Operand)
    (ho : o.op = .call { callee := .builtin .append, args := #[s, x], argTypes := #[24, 24] })
    (base : Nat) (A : Option Addr) (n c : Nat) (xs : List Int) (hs : a.eval s = .slice A n c) (hown : Own w base (.slice A n c) xs)
    (g c2 : Nat) (y : Int) (hx : a.eval x = .slice (some ⟨g, 0, none⟩) 1 c2) (hy : w.cell? ⟨g, 0, none⟩ = some (.int .i64 y)) (hn : n ≤ 2097152) (hbase : base ≤ w.heap.size)
    (h : ∀ g' c' w', Own w' base (.slice (some ⟨g', 0, none⟩) (n + 1) c') (xs ++ [y]) → w.grownBy w' (blk A) → (blk A = some g' ∨ g' = w.heap.size) → g' < w'.heap.size → K (a.put o.dst (.slice (some ⟨g', 0, none⟩) (n + 1) c')) w') :
    if Region.wanted o (yielded ops a.tmps) = true then Oper.wp Try.prog o a w K Q else E := by
  obtain ⟨i0, hi, hz0, hz1, hz2⟩ := info_parts info_i64
  have hl : xs.length = n := by
    obtain ⟨A', c', e⟩ := hown.slice
    injection e with _ e _
    exact e.symm
  have hob : (Value.slice A n c).ownBlock = blk A := by cases A <;> rfl
  refine step_append_lies w hgd s x 24 ho base 2 i0 (.int .i64 0) 1 8 Try.underlying24 hi hz0 hz1 hz2 rfl (by decide) (.slice A n c) n (xs.map (Value.int .i64)) hs (by rw [← hl]; rw [← hl] at hown; exact hown)
    ⟨g, 0, none⟩ 1 c2 [.int .i64 y] hx rfl (fun j u hj => ?_) (fun u hu => ?_) (by omega) (by unfold maxLen; omega) (by omega) hbase w.heap.size rfl ?_
  · match j, hj with
    | 0, hj => simp at hj; subst hj; simpa [Addr.add] using hy
  · simp at hu; subst hu; rfl
  · intro g' c' w' hown' hg hat hlt
    have e : xs.map (Value.int .i64) ++ [.int .i64 y] = (xs ++ [y]).map (Value.int .i64) := by simp
    rw [e] at hown'
    rw [hob] at hg hat
    refine h g' c' w' ?_ hg hat hlt
    have hl2 : (xs ++ [y]).length = n + 1 := by simp [hl]
    unfold Own
    rw [hl2]
    exact hown'

/-- a drawn signature -/
def AnsSigD (w : World) (p : Nat) (A : Option Addr) (n c : Nat) (P : List Int → Prop) (e : Ending) (w' : World) : Prop :=
  ∃ O on oc xs, e = .returned (.agg #[.slice O on oc]) ∧ Own w' w.heap.size (.slice O on oc) xs ∧ P xs ∧ Dice w' p A n c ∧ w.grownBy w' (some p)
/-- a good one -/
def Good (xs : List Int) : Prop := 1 ≤ xs.length ∧ xs.length ≤ 4 ∧ ∀ j, j < xs.length → 0 ≤ xs.getD j 0 ∧ xs.getD j 0 ≤ 2

theorem good_snoc {xs : List Int} {x : Int} (h1 : 1 ≤ xs.length) (h2 : xs.length ≤ 3) (h : ∀ j, j < xs.length → 0 ≤ xs.getD j 0 ∧ xs.getD j 0 ≤ 2) (h0 : 0 ≤ x) (hx : x ≤ 2) : Good (xs ++ [x]) := by
  refine ⟨by simp, by simp; omega, fun j hj => ?_⟩
  by_cases e : j < xs.length
  · have := h j e
    simpa [List.getD, e, List.getElem?_append_left e] using this
  · have e2 : j = xs.length := by simp at hj; omega
    subst e2
    simp [List.getD]
    omega

/-- the state of a signature that is being drawn: result cell in block N, the variable in block v -/
structure SigSt (w : World) (p : Nat) (A : Option Addr) (n c : Nat) (v : Nat) (wr : World) (O : Option Addr) (on oc : Nat) (xs : List Int) : Prop where
  own : Own wr w.heap.size (.slice O on oc) xs
  rV : Row wr v 26 #[.slice O on oc]
  rN : Row wr w.heap.size 26 #[.slice none 0 0]
  nV : blk O ≠ some v
  nN : blk O ≠ some w.heap.size
  hv : w.heap.size < v
  d : Dice wr p A n c
  g : w.grownBy wr (some p)
  hp : p < w.heap.size

theorem row_grown {w w' : World} {g : Nat} {t : TypeId} {cs : Array Value} {r : Option Nat} (h : Row w g t cs) (hg : w.grownBy w' r) (hr : r ≠ some g) : Row w' g t cs := Row.away h hg hr
theorem Own.away {w w' : World} {base : Nat} {O : Option Addr} {on oc : Nat} {xs : List Int} {r : Option Nat} (h : Own w base (.slice O on oc) xs) (hg : w.grownBy w' r) (hr : ∀ k, r = some k → k < base) : Own w' base (.slice O on oc) xs := Own.far h hg hr

section
variable {w : World} {p : Nat} {A : Option Addr} {n c v : Nat} {wr : World} {O : Option Addr} {on oc : Nat} {xs : List Int}
/-- behind a draw from the dice -/
theorem SigSt.dice {w' : World} (s : SigSt w p A n c v wr O on oc xs) (d : Dice w' p A n c) (hg : wr.grownBy w' (some p)) : SigSt w p A n c v w' O on oc xs :=
  ⟨Own.far s.own hg (fun k hk => by injection hk; have := s.hp; omega), Row.away s.rV hg (fun e => by injection e; have := s.hp; have := s.hv; omega), Row.away s.rN hg (fun e => by injection e; have := s.hp; omega), s.nV, s.nN, s.hv, d, grown_trans s.g hg, s.hp⟩
theorem SigSt.alloc (s : SigSt w p A n c v wr O on oc xs) (o : Obj) : SigSt w p A n c v (wr.alloc o) O on oc xs :=
  ⟨Own.alloc s.own o, s.rV.alloc o, s.rN.alloc o, s.nV, s.nN, s.hv, s.d.alloc o, grown_trans s.g (World.grownBy_alloc wr o _), s.hp⟩
theorem SigSt.drew (s : SigSt w p A n c v wr O on oc xs) : SigSt w p A n c v wr.drew O on oc xs :=
  ⟨Own.drew s.own, s.rV.drew, s.rN.drew, s.nV, s.nN, s.hv, s.d.drewN 1, grown_drewN s.g 1, s.hp⟩
/-- a new slice stored into the variable -/
theorem SigSt.put {w' : World} {O' : Option Addr} {on' oc' : Nat} {ys : List Int} (s : SigSt w p A n c v wr O on oc xs) (ho : Own w' w.heap.size (.slice O' on' oc') ys) (hg : wr.grownBy w' (blk O)) (hat : blk O' = blk O ∨ blk O' = some wr.heap.size) (hO : ∀ k, blk O = some k → w.heap.size ≤ k) :
    SigSt w p A n c v (w'.setCell ⟨v, 0, none⟩ (.slice O' on' oc')) O' on' oc' ys := by
  have hpk : ∀ k, blk O = some k → p + 1 ≤ k := fun k hk => by have := hO k hk; have := s.hp; omega
  have zw := s.rV.lt
  have zn := s.rN.lt
  have nV' : blk O' ≠ some v := by
    rcases hat with h | h
    · rw [h]; exact s.nV
    · rw [h]; intro e; injection e; omega
  have nN' : blk O' ≠ some w.heap.size := by
    rcases hat with h | h
    · rw [h]; exact s.nN
    · rw [h]; intro e; injection e; omega
  have r1 := Row.away s.rV hg s.nV
  have r2 := Row.away s.rN hg s.nN
  have b1 : Below (p + 1) wr w' := (Below.refl _ _).grown hg (by have := s.hp; omega) hpk
  have b0 : Below w.heap.size wr w' := (Below.refl _ _).grown hg (by have := s.g.size; omega) hO
  refine ⟨?_, r1.put 0 _, r2.far (p := ⟨v, 0, none⟩) (by have := s.hv; simp; omega) _, nV', nN', s.hv, ?_, ?_, s.hp⟩
  · have hk : w'.grownBy (w'.setCell ⟨v, 0, none⟩ (.slice O' on' oc')) (some v) := grown_put (World.grownBy.refl _ _) 0 _
    refine World.ownsRow.kept ho hk ?_
    cases O' with
    | none => exact .inl rfl
    | some a => exact .inr (fun e => nV' (by simpa [Value.ownBlock, blk] using e))
  · have d1 := s.d.keep b1
    obtain ⟨i, h, d1⟩ := d1
    have hvp : p < v := by have := s.hp; have := s.hv; omega
    exact ⟨i, h, d1.row.far (p := ⟨v, 0, none⟩) (by simp; omega) _, d1.le, d1.s.keep fun q hq => World.cell?_setCell_other w' _ q _ (fun e => by subst e; have hq : v < p := hq; omega), d1.hn⟩
  · refine ⟨b0.os.trans s.g.os, b0.tape.trans s.g.tape, b0.output.trans s.g.output, by have := s.g.size; have := b0.size; simp only [World.size_setCell]; omega, fun k hk hne => ?_⟩
    rw [Below.heap_setCell _ _ _ _ (by have := s.hv; intro e; have e : k = v := e; omega), b0.block k hk]
    exact s.g.block k hk hne
/-- the result -/
theorem SigSt.result {P : List Int → Prop} (s : SigSt w p A n c v wr O on oc xs) (hP : P xs) (hO : blk O ≠ some w.heap.size) : AnsSigD w p A n c P (.returned (.agg #[.slice O on oc])) (wr.setCell ⟨w.heap.size, 0, none⟩ (.slice O on oc)) := by
  refine ⟨O, on, oc, xs, rfl, ?_, hP, ?_, ?_⟩
  · have hk : wr.grownBy (wr.setCell ⟨w.heap.size, 0, none⟩ (.slice O on oc)) (some w.heap.size) := grown_put (World.grownBy.refl _ _) 0 _
    refine World.ownsRow.kept s.own hk ?_
    cases O with
    | none => exact .inl rfl
    | some a => exact .inr (fun e => hO (by simpa [Value.ownBlock, blk] using e))
  · obtain ⟨i, h, d1⟩ := s.d
    have hp := s.hp
    exact ⟨i, h, d1.row.far (p := ⟨w.heap.size, 0, none⟩) (by simp; omega) _, d1.le, d1.s.keep fun q hq => World.cell?_setCell_other wr _ q _ (fun e => by subst e; have hq : w.heap.size < p := hq; omega), d1.hn⟩
  · refine ⟨s.g.os, s.g.tape, s.g.output, by simpa using s.g.size, fun k hk hne => ?_⟩
    rw [Below.heap_setCell _ _ _ _ (by intro e; have e : k = w.heap.size := e; omega)]
    exact s.g.block k hk hne
end

def HeadSigD (w : World) (p : Nat) (A : Option Addr) (n c v : Nat) (i : Value) (wr : World) : Prop :=
  ∃ (k : Nat) (O : Option Addr) (on oc : Nat) (xs : List Int), i = .int .i64 k ∧ SigSt w p A n c v wr O on oc xs ∧ 1 ≤ xs.length ∧ xs.length + k ≤ 4 ∧ ∀ j, j < xs.length → 0 ≤ xs.getD j 0 ∧ xs.getD j 0 ≤ 2

set_option maxHeartbeats 4000000 in
theorem drawSig (p : Nat) (A : Option Addr) (n c : Nat) (w : World) (hd : Dice w p A n c) :
    Calls Try.prog 99 #[.pointer (some ⟨p, 0, none⟩)] w (AnsSigD w p A n c Good) := by
  have hp := hd.lt
  obtain ⟨W, hW⟩ : ∃ W, W = ((w.alloc (.cells #[.slice none 0 0] 26)).alloc (.cells #[.int .i64 2, .int .i64 1, .int .i64 0] 2)).alloc (.cells #[.slice (some ⟨w.heap.size + 1, 0, none⟩) 3 3] 26) := ⟨_, rfl⟩
  have S0 : SigSt w p A n c (w.heap.size + 1 + 1) W (some ⟨w.heap.size + 1, 0, none⟩) 3 3 [2, 1, 0] := by
    rw [hW]
    have r1 : Row (((w.alloc (.cells #[.slice none 0 0] 26)).alloc (.cells #[.int .i64 2, .int .i64 1, .int .i64 0] 2)).alloc (.cells #[.slice (some ⟨w.heap.size + 1, 0, none⟩) 3 3] 26)) (w.heap.size + 1) 2 #[.int .i64 2, .int .i64 1, .int .i64 0] := by
      have := (Row.new (w.alloc (.cells #[.slice none 0 0] 26)) 2 #[.int .i64 2, .int .i64 1, .int .i64 0]).alloc (.cells #[.slice (some ⟨w.heap.size + 1, 0, none⟩) 3 3] 26)
      simpa using this
    refine ⟨Own.of_row r1 rfl rfl (Nat.le_refl _) (by omega) (by omega) (fun j hj => ?_), ?_, ((Row.new _ _ _).alloc _).alloc _, by simp [blk], by simp [blk], by omega, ((hd.alloc _).alloc _).alloc _, grown_trans (grown_trans (World.grownBy_alloc _ _ _) (World.grownBy_alloc _ _ _)) (World.grownBy_alloc _ _ _), hp⟩
    · match j, hj with
      | 0, _ => rfl
      | 1, _ => rfl
      | 2, _ => rfl
    · have := Row.new ((w.alloc (.cells #[.slice none 0 0] 26)).alloc (.cells #[.int .i64 2, .int .i64 1, .int .i64 0] 2)) 26 #[.slice (some ⟨w.heap.size + 1, 0, none⟩) 3 3]
      simpa using this
  have HW := Lib.hid hW
  clear hW
  have L := Lib.hid (once p A n c 4 W S0.d (by omega) (by omega))
  clear hd
  go_enter Try.func99, Try.ntmps99
  go_wp2_with fail
  rw [← HW.out]
  refine L.out.mono ?_
  rintro e w1 ⟨b, rfl, d1, g1⟩
  have S1 := S0.dice d1 g1
  have cV : w1.cell? ⟨w.heap.size + 1 + 1, 0, none⟩ = some (.slice (some ⟨w.heap.size + 1, 0, none⟩) 3 3) := S1.rV.cell 0
  have cN : w1.cell? ⟨w.heap.size, 0, none⟩ = some (.slice none 0 0) := S1.rN.cell 0
  have fV : w1.frozen? ⟨w.heap.size + 1 + 1, 0, none⟩ = false := S1.rV.free 0
  have fN : w1.frozen? ⟨w.heap.size, 0, none⟩ = false := S1.rN.free 0
  clear d1 g1 S0 L
  cases b with
  | false =>
    have F := Lib.hid (S1.result (P := Good) ⟨by decide, by decide, fun j hj => by match j, hj with | 0, _ => decide | 1, _ => decide | 2, _ => decide⟩ S1.nN)
    clear S1
    go_wp2
    exact bodyPost_ret (v := .agg #[.slice (some ⟨w.heap.size + 1, 0, none⟩) 3 3]) (by simp [results, Try.results99, go_sem, cN]) rfl F.out
  | true =>
    have zV : w.heap.size + 1 + 1 < w1.heap.size := S1.rV.lt
    obtain ⟨W2, hW2⟩ : ∃ W2, W2 = (w1.setCell ⟨w.heap.size + 1 + 1, 0, none⟩ (.slice (some ⟨w1.heap.size, 0, none⟩) 1 1)).alloc (.cells #[.int .i64 0] 2) := ⟨_, rfl⟩
    have S2 : SigSt w p A n c (w.heap.size + 1 + 1) W2 (some ⟨w1.heap.size, 0, none⟩) 1 1 [0] := by
      rw [hW2, ← World.setCell_alloc_past (hn := zV)]
      exact S1.put (Own.of_row (Row.new _ _ _) rfl rfl (Nat.le_refl _) (by omega) (by omega) (fun j hj => by match j, hj with | 0, _ => rfl)) (World.grownBy_alloc _ _ _) (.inr rfl) (fun k hk => by have hk : w.heap.size + 1 = k := Option.some.inj hk; omega)
    have HW2 := Lib.hid hW2
    have L2 := Lib.hid (below p A n c 4 W2 S2.d (by omega) (by omega))
    clear hW2 S1
    go_wp2_with fail
    rw [← HW2.out]
    refine L2.out.mono ?_
    rintro e w3 ⟨x, rfl, x0, x1, d3, g3⟩
    obtain ⟨k0, rfl⟩ := Int.eq_ofNat_of_zero_le x0
    have S3 := S2.dice d3 g3
    have H0 : HeadSigD w p A n c (w.heap.size + 1 + 1) (.int .i64 (k0 : Int)) w3 := ⟨k0, _, _, _, _, rfl, S3, by decide, by simp; omega, fun j hj => by match j, hj with | 0, _ => decide⟩
    have HH := Lib.hid H0
    clear H0 S3 S2 d3 g3 L2 cV cN fV fN
    go_wp2_with fail
    go_loopw [4] (fun i wr => HeadSigD w p A n c (w.heap.size + 1 + 1) i wr) (fun i _ => (intOf i).toNat)
    case atStart => exact HH.out
    case round =>
      obtain ⟨k, O, on, oc, xs, rfl, S, hx1, hx2, hxs⟩ := hrel
      clear HH
      have cV : wr.cell? ⟨w.heap.size + 1 + 1, 0, none⟩ = some (.slice O on oc) := S.rV.cell 0
      have cN : wr.cell? ⟨w.heap.size, 0, none⟩ = some (.slice none 0 0) := S.rN.cell 0
      have fV : wr.frozen? ⟨w.heap.size + 1 + 1, 0, none⟩ = false := S.rV.free 0
      have fN : wr.frozen? ⟨w.heap.size, 0, none⟩ = false := S.rN.free 0
      have zV : w.heap.size + 1 + 1 < wr.heap.size := S.rV.lt
      by_cases hk : k = 0
      · subst hk
        have F := Lib.hid (S.result (P := Good) ⟨hx1, by omega, hxs⟩ S.nN)
        clear S
        go_wp2
        exact bodyPost_ret (v := .agg #[.slice O on oc]) (by simp [results, Try.results99, go_sem, cN]) rfl F.out
      · have k1 : (0 : Int) < (k : Int) := by omega
        have S' := S.drew
        clear S
        go_wp2_with fail
        go_region_law (first
          | (refine stepApp1 rfl _ _ rfl w.heap.size O on oc xs (by simp [Act.eval, Act.put]) (Own.alloc S5.own _) w5.heap.size 1 x (by simp [Act.eval, Act.put]) ((Row.new _ _ _).cell 0) (by omega) (by simp; omega) ?_; intro O' oc' w6 ho6 hg6 hat6 hlt6; have r6 := Row.away (S5.alloc _).rV hg6 S5.nV; have cV6 : w6.cell? ⟨w.heap.size + 1 + 1, 0, none⟩ = some (.slice O on oc) := r6.cell 0; have fV6 : w6.frozen? ⟨w.heap.size + 1 + 1, 0, none⟩ = false := r6.free 0)
          | (go_simp; go_at_call 78; refine (below p A n c 3 _ S'.d (by omega) (by omega)).mono ?_; rintro e w5 ⟨x, rfl, x0, x1, d5, g5⟩; have S5 := S'.dice d5 g5; have cV5 : w5.cell? ⟨w.heap.size + 1 + 1, 0, none⟩ = some (.slice O on oc) := S5.rV.cell 0; have zV5 : w.heap.size + 1 + 1 < w5.heap.size := S5.rV.lt; have hon : on ≤ 4 := by have := Own.len S5.own; omega))
        all_goals
          have S6 := SigSt.put (S5.alloc (.cells #[.int .i64 x] 2)) ho6 hg6 (hat6.elim (fun h => .inl h.symm) (fun h => .inr (by rw [h]; rfl))) (Own.ge S5.own)
          have G := good_snoc hx1 (by omega) hxs x0 (by omega)
          have F : HeadSigD w p A n c (w.heap.size + 1 + 1) (.int .i64 ((k : Int) - 1)) (w6.setCell ⟨w.heap.size + 1 + 1, 0, none⟩ (.slice (some ⟨O', 0, none⟩) (on + 1) oc')) :=
            ⟨k - 1, _, _, _, _, congrArg (Value.int .i64) (by omega), S6, G.1, by simp; omega, G.2.2⟩
          have HF := Lib.hid F
          clear F G S6 S5 S' ho6 hg6 hat6 hlt6 r6 cV6 fV6 d5 g5 cV5
          go_wp2
          go_roundw
          case rel => exact HF.out
          case measure => simp [intOf]; omega

/-- a short one -/
def Short (xs : List Int) : Prop := xs.length ≤ 9

theorem Own.blk_lt {w : World} {base : Nat} {O : Option Addr} {on oc : Nat} {xs : List Int} (h : Own w base (.slice O on oc) xs) : ∀ k, blk O = some k → k < w.heap.size := fun k hk => by
  refine (World.ownsRow.lt h k ?_).2
  cases O with
  | none => cases hk
  | some a => exact hk

set_option maxHeartbeats 4000000 in
theorem drawSigAny (p : Nat) (A : Option Addr) (n c : Nat) (w : World) (hd : Dice w p A n c) :
    Calls Try.prog 60 #[.pointer (some ⟨p, 0, none⟩)] w (AnsSigD w p A n c Short) := by
  have hp := hd.lt
  obtain ⟨W, hW⟩ : ∃ W, W = w.alloc (.cells #[.slice none 0 0] 26) := ⟨_, rfl⟩
  have rN : Row W w.heap.size 26 #[.slice none 0 0] := by rw [hW]; exact Row.new _ _ _
  have g0 : w.grownBy W (some p) := by rw [hW]; exact World.grownBy_alloc _ _ _
  have d0 : Dice W p A n c := by rw [hW]; exact hd.alloc _
  have zW : W.heap.size = w.heap.size + 1 := by rw [hW]; simp
  have HW := Lib.hid hW
  have L := Lib.hid (drawSig p A n c W d0)
  clear hW hd d0
  go_enter Try.func60, Try.ntmps60
  go_wp2_with fail
  rw [← HW.out]
  refine L.out.mono ?_
  rintro e w2 ⟨O, on, oc, xs, rfl, ho, hgood, d2, g2⟩
  rw [zW] at ho
  have rN2 : Row w2 w.heap.size 26 #[.slice none 0 0] := Row.away rN g2 (fun e => by injection e; omega)
  have zN := rN2.lt
  have hxs := hgood.2.1
  have hx1 := hgood.1
  obtain ⟨W3, hW3⟩ : ∃ W3, W3 = w2.alloc (.cells #[.slice O on oc] 26) := ⟨_, rfl⟩
  have S3 : SigSt w p A n c w2.heap.size W3 O on oc xs := by
    rw [hW3]
    refine ⟨Own.alloc (Own.lower ho (Nat.le_succ _)) _, Row.new _ _ _, rN2.alloc _, fun e => ?_, fun e => ?_, zN, d2.alloc _, grown_trans (grown_trans g0 g2) (World.grownBy_alloc _ _ _), hp⟩
    · have := Own.blk_lt ho _ e; omega
    · have := Own.ge ho _ e; omega
  have HW3 := Lib.hid hW3
  have L3 := Lib.hid (once p A n c 15 W3 S3.d (by omega) (by omega))
  obtain ⟨v, hv⟩ : ∃ v, w2.heap.size = v := ⟨_, rfl⟩
  have HV := Lib.hid hv
  clear ho hgood d2 g2 rN rN2 g0 L hW3 hv
  go_wp2_with fail
  rw [← HW3.out]
  refine L3.out.mono ?_
  rintro e w4 ⟨b, rfl, d4, g4⟩
  have S4 := S3.dice d4 g4
  rw [HV.out] at S4 ⊢
  have cV : w4.cell? ⟨v, 0, none⟩ = some (.slice O on oc) := S4.rV.cell 0
  have cN : w4.cell? ⟨w.heap.size, 0, none⟩ = some (.slice none 0 0) := S4.rN.cell 0
  have fN : w4.frozen? ⟨w.heap.size, 0, none⟩ = false := S4.rN.free 0
  have zV : v < w4.heap.size := S4.rV.lt
  have zNv := S4.hv
  clear d4 g4 S3 L3
  cases b with
  | false =>
    have F := Lib.hid (S4.result (P := Short) (by unfold Short; omega) S4.nN)
    clear S4
    go_wp2
    exact bodyPost_ret (v := .agg #[.slice O on oc]) (by simp [results, Try.results60, go_sem, cN]) rfl F.out
  | true =>
    have L4 := Lib.hid (below p A n c 3 w4 S4.d (by omega) (by omega))
    go_wp2_with fail
    refine L4.out.mono ?_
    rintro e w5 ⟨x, rfl, x0, x1, d5, g5⟩
    have S5 := S4.dice d5 g5
    replace cV : w5.cell? ⟨v, 0, none⟩ = some (.slice O on oc) := S5.rV.cell 0
    replace cN : w5.cell? ⟨w.heap.size, 0, none⟩ = some (.slice none 0 0) := S5.rN.cell 0
    replace fN : w5.frozen? ⟨w.heap.size, 0, none⟩ = false := S5.rN.free 0
    have fV : w5.frozen? ⟨v, 0, none⟩ = false := S5.rV.free 0
    replace zV : v < w5.heap.size := S5.rV.lt
    clear d5 g5 S4 L4
    by_cases hx0 : x = 0
    · subst hx0
      have S6 := S5.drew
      clear S5 x0 x1
      go_wp2_with fail
      go_region_law (first
        | (refine stepApp1 rfl _ _ rfl w.heap.size O on oc xs (by simp [Act.eval, Act.put]) (Own.alloc S7.own _) w7.heap.size 1 y (by simp [Act.eval, Act.put]) ((Row.new _ _ _).cell 0) (by omega) (by simp; omega) ?_; intro O' oc' w8 ho8 hg8 hat8 hlt8; have r8 := Row.away (S7.alloc _).rV hg8 S7.nV; have cV8 : w8.cell? ⟨v, 0, none⟩ = some (.slice O on oc) := r8.cell 0; have fV8 : w8.frozen? ⟨v, 0, none⟩ = false := r8.free 0)
        | (go_simp; go_at_call 100; refine (fromTo p A n c (-1) 4 _ S6.d (by omega) (by omega) (by omega) (by omega)).mono ?_; rintro e w7 ⟨y, rfl, y0, y1, d7, g7⟩; have S7 := S6.dice d7 g7; have cV7 : w7.cell? ⟨v, 0, none⟩ = some (.slice O on oc) := S7.rV.cell 0; have zV7 : v < w7.heap.size := S7.rV.lt; have hon : on ≤ 4 := by have := Own.len S7.own; omega))
      all_goals
        have S8 := SigSt.put (S7.alloc (.cells #[.int .i64 y] 2)) ho8 hg8 (hat8.elim (fun h => .inl h.symm) (fun h => .inr (by rw [h]; rfl))) (Own.ge S7.own)
        have F := Lib.hid (S8.result (P := Short) (by unfold Short; simp; omega) S8.nN)
        have cN8 : (w8.setCell ⟨v, 0, none⟩ (.slice (some ⟨O', 0, none⟩) (on + 1) oc')).cell? ⟨w.heap.size, 0, none⟩ = some (.slice none 0 0) := S8.rN.cell 0
        have fN8 : (w8.setCell ⟨v, 0, none⟩ (.slice (some ⟨O', 0, none⟩) (on + 1) oc')).frozen? ⟨w.heap.size, 0, none⟩ = false := S8.rN.free 0
        clear S8 S7 S6 ho8 hg8 hat8 hlt8 r8 d7 g7 cV7
        go_wp2
        exact bodyPost_ret (v := .agg #[.slice (some ⟨O', 0, none⟩) (on + 1) oc']) (by simp [results, Try.results60, go_sem, cN8]) rfl F.out
    · by_cases hx1' : x = 1
      · subst hx1'
        have S6 : SigSt w p A n c v ((w5.alloc (.cells #[] 2)).setCell ⟨v, 0, none⟩ (.slice (some ⟨w5.heap.size, 0, none⟩) 0 0)) (some ⟨w5.heap.size, 0, none⟩) 0 0 [] :=
          S5.put (own_empty w5 w.heap.size (by omega)) (World.grownBy_alloc _ _ _) (.inr rfl) (Own.ge S5.own)
        have F := S6.result (P := Short) (by unfold Short; simp) S6.nN
        rw [World.setCell_alloc_past (hn := zV), World.setCell_alloc_past (hn := by simp; omega)] at F
        have HF := Lib.hid F
        have zz : w.heap.size < w5.heap.size := by omega
        have znv : ¬ w.heap.size = v := by omega
        have zvn : ¬ v = w.heap.size := by omega
        clear F S6 S5 x0 x1 hx0
        go_wp2
        exact bodyPost_ret (v := .agg #[.slice (some ⟨w5.heap.size, 0, none⟩) 0 0]) (by simp [results, Try.results60, go_sem, cN, zz, znv, zvn]) rfl HF.out
      · have e2 : x = 2 := by omega
        subst e2
        have L6 := Lib.hid (below p A n c 2 w5 S5.d (by omega) (by omega))
        clear x0 x1 hx0 hx1'
        go_wp2_with fail
        refine L6.out.mono ?_
        rintro e w7 ⟨y, rfl, y0, y1, d7, g7⟩
        have S7 := S5.dice d7 g7
        replace cV : w7.cell? ⟨v, 0, none⟩ = some (.slice O on oc) := S7.rV.cell 0
        replace cN : w7.cell? ⟨w.heap.size, 0, none⟩ = some (.slice none 0 0) := S7.rN.cell 0
        replace fN : w7.frozen? ⟨w.heap.size, 0, none⟩ = false := S7.rN.free 0
        replace fV : w7.frozen? ⟨v, 0, none⟩ = false := S7.rV.free 0
        replace zV : v < w7.heap.size := S7.rV.lt
        obtain ⟨k, rfl⟩ := Int.eq_ofNat_of_zero_le y0
        have hmk : ∀ W : World, (Instr.makeSlice 24 (.int .i64 (8 + (k : Int))) (.int .i64 (8 + (k : Int)))).run Try.prog W = .ok (.slice (some ⟨W.heap.size, 0, none⟩) (8 + k) (8 + k)) (W.alloc (.cells (madeCells #[.int .i64 0] (8 + k)) 2)) := fun W => by
          have := run_make_i64 (8 + k) (by omega) W
          rwa [show ((8 + k : Nat) : Int) = 8 + (k : Int) by simp] at this
        have hcells : ∀ j, j < 8 + k → (madeCells #[Value.int .i64 0] (8 + k))[j]? = some (.int .i64 ((List.replicate (8 + k) (0 : Int)).getD j 0)) := fun j hj => by
          simp [madeCells, List.getD, hj, Nat.mod_one]
        have S8 : SigSt w p A n c v ((w7.alloc (.cells (madeCells #[.int .i64 0] (8 + k)) 2)).setCell ⟨v, 0, none⟩ (.slice (some ⟨w7.heap.size, 0, none⟩) (8 + k) (8 + k))) (some ⟨w7.heap.size, 0, none⟩) (8 + k) (8 + k) (List.replicate (8 + k) 0) :=
          S7.put (Own.of_row (Row.new _ _ _) (by simp) (size_madeCells _ _) (Nat.le_refl _) (by omega) (by omega) hcells) (World.grownBy_alloc _ _ _) (.inr rfl) (Own.ge S7.own)
        have F := S8.result (P := Short) (by unfold Short; simp; omega) S8.nN
        rw [World.setCell_alloc_past (hn := zV), World.setCell_alloc_past (hn := by simp; omega)] at F
        have HF := Lib.hid F
        have zz : w.heap.size < w7.heap.size := by omega
        have znv : ¬ w.heap.size = v := by omega
        have zvn : ¬ v = w.heap.size := by omega
        clear F S8 S7 S5 d7 g7 hcells L6
        go_wp2
        exact bodyPost_ret (v := .agg #[.slice (some ⟨w7.heap.size, 0, none⟩) (8 + k) (8 + k)]) (by simp [results, Try.results60, go_sem, cN, zz, znv, zvn]) rfl HF.out
end Go.Proofs.Ytdeegjeopkcomaa.drawSig
