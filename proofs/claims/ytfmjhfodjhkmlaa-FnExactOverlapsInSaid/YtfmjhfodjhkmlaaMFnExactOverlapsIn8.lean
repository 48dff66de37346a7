/-
  MERGED: my texts Iter, RangeGive, RangePre, RangeVal, OvIter, OvTurn, OvsImpl, OvX, WOverlapsIn, one behind the other, as they are. By an AI agent.
-/
import Derived.Test.YtfmjhfodjhkmlaaMFnExactOverlapsIn7
import Derived.RangeFuncNested
import Derived.RangeFuncBound
import Derived.RangeFuncCalls
import Derived.RangeFuncLeaves
import Derived.Shelf.Abstract
import Derived.Shelf.RegionOpen
import Derived.WalkKit
import Derived.OwnWalkIn
import Derived.TacticsInMore
import Derived.LoopNIn
import Derived.LoopIn
import Derived.Shelf.AbstractIn
import Derived.Deep.RegionHeld3
namespace Go.Proofs.Ytfmjhfodjhkmlaa
section
namespace iter
open Go.RowKit Go.Shelf base ints sig term termOk endAt endOf marks app sym sub segs segsHelp matchMath matchSpec whole extended termFacts shape kindsR ruleMath ruleSpec stepMath walkMath stepSpec stepImpl
set_option maxRecDepth 100000
attribute [local go_sem] Oper.semAt_some
def rowL (sg : List Int) (rs : List Rl) (t : List Int) (x k : Nat) : List (Nat × Nat) := (List.range k).filterMap fun r => if redB sg (rs.getD r ([], [])) t x = true then some (x, r) else none
def comeL (sg : List Int) (rs : List Rl) (t : List Int) (x : Nat) : List (Nat × Nat) := (List.range x).flatMap fun a => rowL sg rs t a rs.length
def redL (sg : List Int) (rs : List Rl) (t : List Int) : List (Nat × Nat) := comeL sg rs t t.length
section
variable {sg : List Int} {rs : List Rl} {t : List Int}
theorem row_yes {x k : Nat} (h : redB sg (rs.getD k ([], [])) t x = true) : rowL sg rs t x (k + 1) = rowL sg rs t x k ++ [(x, k)] := by unfold rowL; rw [List.range_succ, List.filterMap_append]; simp only [List.filterMap_cons, List.filterMap_nil, h, if_true]
theorem row_no {x k : Nat} (h : redB sg (rs.getD k ([], [])) t x = false) : rowL sg rs t x (k + 1) = rowL sg rs t x k := by unfold rowL; rw [List.range_succ, List.filterMap_append]; simp only [List.filterMap_cons, List.filterMap_nil, h, Bool.false_eq_true, if_false, List.append_nil]
theorem come_succ (x : Nat) : comeL sg rs t (x + 1) = comeL sg rs t x ++ rowL sg rs t x rs.length := by unfold comeL; rw [List.range_succ, List.flatMap_append]; simp
theorem come_pre {x y : Nat} (h : x ≤ y) : comeL sg rs t x <+: comeL sg rs t y := by
 induction y with
 | zero =>
  obtain rfl : x = 0 := by omega
  exact List.prefix_rfl
 | succ y ih =>
  by_cases e : x = y + 1
  ·subst e; exact List.prefix_rfl
  ·exact (ih (by omega)).trans (by rw [come_succ]; exact List.prefix_append _ _)
theorem row_pre {x k q : Nat} (h : k ≤ q) : rowL sg rs t x k <+: rowL sg rs t x q := by
 induction q with
 | zero =>
  obtain rfl : k = 0 := by omega
  exact List.prefix_rfl
 | succ q ih =>
  by_cases e : k = q + 1
  ·subst e; exact List.prefix_rfl
  ·refine (ih (by omega)).trans ?_
   cases hb : redB sg (rs.getD q ([], [])) t x with
   | false => rw [row_no hb]; exact List.prefix_rfl
   | true => rw [row_yes hb]; exact List.prefix_append _ _
theorem part_pre {x k : Nat} (hx : x < t.length) (hk : k ≤ rs.length) : comeL sg rs t x ++ rowL sg rs t x k <+: redL sg rs t := by
 refine List.IsPrefix.trans ?_ (come_pre (show x + 1 ≤ t.length by omega))
 rw [come_succ]
 exact (List.prefix_append_right_inj _).2 (row_pre hk)
end
section
variable {P : Program} {n : Nat} {ops : Array Oper} {rest : List Oper} {o : Oper} {a : Act} {w : World} {Q : Exit → Act → World → Prop}
end
def Kr (n₀ B2 B3 : Nat) (A B : World) : Prop := Below n₀ A B ∧ B.heap[B2]? = A.heap[B2]? ∧ B.heap[B3]? = A.heap[B3]?
theorem Kr.refl (n₀ B2 B3 : Nat) (A : World) : Kr n₀ B2 B3 A A := ⟨Below.refl _ _, rfl, rfl⟩
theorem Kr.trans {n₀ B2 B3 : Nat} {A B C : World} (h : Kr n₀ B2 B3 A B) (k : Kr n₀ B2 B3 B C) : Kr n₀ B2 B3 A C := ⟨h.1.trans k.1, k.2.1.trans h.2.1, k.2.2.trans h.2.2⟩
theorem Kr.of_below {n₀ B2 B3 : Nat} {A B : World} (h : Below A.heap.size A B) (h1 : n₀ ≤ A.heap.size) (h2 : B2 < A.heap.size) (h3 : B3 < A.heap.size) : Kr n₀ B2 B3 A B := ⟨h.mono h1, h.block _ h2, h.block _ h3⟩
theorem Kr.row2 {n₀ B2 B3 : Nat} {A B : World} {t : TypeId} {cs : Array Value} (h : Kr n₀ B2 B3 A B) (r : Row A B2 t cs) : Row B B2 t cs := h.2.1.trans r
theorem Kr.row3 {n₀ B2 B3 : Nat} {A B : World} {t : TypeId} {cs : Array Value} (h : Kr n₀ B2 B3 A B) (r : Row A B3 t cs) : Row B B3 t cs := h.2.2.trans r
end iter
end
section
namespace rangeGive
open Go.RowKit base segs shape
def Kps (n₀ m q : Nat) (A B : World) : Prop := Below n₀ A B ∧ KeepsFrom m A B ∧ ∀ k, m ≤ k → k < q → B.heap[k]? = A.heap[k]?
theorem Kps.trans {n₀ m q : Nat} {A B C : World} (h : Kps n₀ m q A B) (k : Kps n₀ m q B C) : Kps n₀ m q A C := ⟨h.1.trans k.1, h.2.1.trans k.2.1, fun i h1 h2 => (k.2.2 i h1 h2).trans (h.2.2 i h1 h2)⟩
end rangeGive
end
section
namespace iter
open Go.RowKit base rangeGive
end iter
end
section
namespace iter
open Go.RowKit base rangeGive
def SeqVal {α : Type} (n : Nat) (P : Program) (g : Nat) (lb : Array Value) (Val : α → World → Value → Prop) (Kp : World → World → Prop) (xs : List α) (w : World) : Prop :=
 ∀ (l : Nat) (J Jx : List α → World → Prop) (W : World), Below w.heap.size w W → AbidesFrom W.heap.size J → AbidesFrom W.heap.size Jx →
  (∀ pre x W1 v, J pre W1 → Val x W1 v → pre ++ [x] <+: xs → YieldAt Fence.wide (n - 1) P l #[v] W1 fun e W' => (e = .returned (.bool true) ∧ J (pre ++ [x]) W' ∧ Kp W1 W') ∨ (e = .returned (.bool false) ∧ Jx (pre ++ [x]) W')) →
  J [] W → CallsIn Fence.wide n P g (#[.func (.yield l) #[] #[]] ++ lb) W fun e W' => (∃ v, e = .returned v) ∧ ((∃ ys, ys = xs ∧ J ys W') ∨ (∃ pre, (pre ≠ [] ∧ pre <+: xs) ∧ Jx pre W'))
theorem rangeVal {α : Type} {n : Nat} {P : Program} {g : Operand} {p : Tmp} {assign body : Code} {Q : Exit → Act → World → Prop} {a : Act} {w w0 : World} {gf : Nat} {lb : Array Value} (hg : a.eval g = .func (.func gf) #[] lb)
  (eg : ∀ args w, (callFunc gf args).run P w = .ok (.enter gf args) w) {Val : α → World → Value → Prop} {Kp : World → World → Prop} {xs : List α} (hseq : SeqVal (n - 1) P gf lb Val Kp xs w0) (hb0 : Below w0.heap.size w0 w)
  (hKt : ∀ {A B C : World}, Kp A B → Kp B C → Kp A C) (hKb : ∀ (W : World) (o o' : Obj), W.heap[w.heap.size + 1]? = some o → Kp W (W.putObj (w.heap.size + 1) o'))
  (hVb : ∀ (x : α) (W : World) (v : Value) (o : Loop) (o' : Obj), W.heap[w.heap.size + 1]? = some (.loop o) → Val x W v → Val x (W.putObj (w.heap.size + 1) o') v)
  (I : List α → World → Prop) (hI : OwnFrom w.heap.size I) (h0 : I [] w) (a₁ : Value → Act)
  (hassign : ∀ (l : Nat) (x : α) (v : Value) (W : World) (K : Act → World → Prop), Val x W v → K (a₁ v) W → assign.wpIn (Fence.wide.inRound l) (n - 1 - 1) P (Exit.then K (fun _ _ _ => False)) { tmps := a.tmps.setIfInBounds p v, defers := [] } W)
  (hbody : ∀ (l : Nat) (pre : List α) (x : α) (v : Value) (W : World), I pre W → w.heap.size + 2 ≤ W.heap.size → Val x W v → pre ++ [x] <+: xs → body.wpIn (Fence.wide.inRound l) (n - 1 - 1) P (fun e _ W' => e = .normal ∧ KeepsFrom w.heap.size W W' ∧ Kp W W' ∧ I (pre ++ [x]) W') (a₁ v) W)
  (hdone : ∀ (D : Nat) (W : World), w.heap.size ≤ D → I xs W → W.heap[D]? = some (.deferred (some [])) → Q .normal { a with defers := { target := .collected D, args := #[] } :: a.defers } W) :
  (Code.rangeFunc g #[p] assign body).wpIn Fence.wide n P Q a w := by
 refine wpIn_rangeFunc ?_
 intro fn hfn
 obtain ⟨rec, hrec⟩ : ∃ rec : LoopState → Option Code → Loop, rec = fun st pe => { state := st, pending := pe, fn, tmps := a.tmps, params := #[p], assign, body, defers := w.heap.size } := ⟨_, rfl⟩
 obtain ⟨W1, hW1⟩ : ∃ W1, (w.alloc (.deferred (some []))).alloc (.loop (rec .ready none)) = W1 := ⟨_, rfl⟩
 have hsz : W1.heap.size = w.heap.size + 2 := by rw [← hW1]; simp
 have rl : W1.heap[w.heap.size + 1]? = some (.loop (rec .ready none)) := by
  rw [← hW1]
  have := heap_alloc_new (w.alloc (.deferred (some []))) (.loop (rec .ready none))
  rwa [World.size_alloc] at this
 have rd : W1.heap[w.heap.size]? = some (.deferred (some [])) := by
  rw [← hW1]
  exact (Below.heap_alloc _ _ _ (by simp)).trans (heap_alloc_new w _)
 refine ⟨w.heap.size + 1, [{ target := .collected w.heap.size, args := #[] }], W1, { target := .fn (.func gf) lb, args := #[.func (.yield (w.heap.size + 1)) #[] #[]] }, W1, gf, #[.func (.yield (w.heap.size + 1)) #[] #[]] ++ lb, W1, ?_, ?_, fun _ _ => trivial, ?_, (fun h => by cases h), ?_⟩
 ·rw [← hW1, hrec]; exact run_enterLoop_outer _ _ _ _ _
 ·simp only [resolve, hg]
  simp [go_sem]
 ·simp [invoke, go_sem, eg]
 have key := hseq (w.heap.size + 1) (fun pre W => (I pre W ∧ W.heap[w.heap.size + 1]? = some (.loop (rec .ready none))) ∧ W.heap[w.heap.size]? = some (.deferred (some []))) (fun _ _ => False) W1
  (hb0.trans ((by rw [← hW1]; exact (((Below.refl _ w).alloc (Nat.le_refl _) _).alloc (by simp) _ : Below w.heap.size w _) : Below w.heap.size w W1).mono hb0.size))
  (fun s A B row hs hg' hr => ⟨⟨hI s A B row hs.1.1 hg' (fun r e => by obtain ⟨h1, o, ho, hw⟩ := hr r e; exact ⟨by omega, o, ho, Obj.not_cells_of_walk hw⟩), (hg'.block _ (Array.getElem?_eq_some_iff.1 hs.1.2).1 (fun e => by have := (hr _ e.symm).1; omega)).trans hs.1.2⟩, (hg'.block _ (Array.getElem?_eq_some_iff.1 hs.2).1 (fun e => by have := (hr _ e.symm).1; omega)).trans hs.2⟩)
  (fun _ _ _ _ hs _ _ => hs.elim)
  ?_ ⟨⟨by rw [← hW1]; exact hI.alloc _ (hI.alloc _ h0), rl⟩, rd⟩
 ·refine key.mono ?_
  rintro e W2 ⟨⟨v, rfl⟩, (⟨ys, rfl, ⟨hi, hl⟩, hd⟩ | ⟨_, _, hF⟩)⟩
  ·refine ⟨none, _, by have := run_endLoop (P := P) hl (by rw [hrec]; simp); rw [hrec] at this; exact this, hdone _ _ (Nat.le_refl _) (hI.putObj _ hi (by omega) hl rfl) ((World.putObj_heap_other (by omega)).trans hd)⟩
  ·exact hF.elim
 ·rintro pre x W v ⟨⟨hi, hl⟩, hd⟩ hv hpre
  have hy : (Instr.yield (w.heap.size + 1) #[v]).run P W = .ok (.round (w.heap.size + 1) fn (a.tmps.setIfInBounds p v) assign body) W := by
   have := run_yield (P := P) (args := #[v]) hl (by rw [hrec]; rfl)
   rw [hrec] at this
   rw [this]
   simp
  refine ⟨fn, _, assign, body, hy, roundIn_of_wpIn hfn (hassign _ x v W _ hv ?_)⟩
  have hlt := (Array.getElem?_eq_some_iff.1 hl).1
  refine ⟨_, run_beginRound hl (by rw [hrec]), ?_⟩
  obtain ⟨o2, ho2⟩ : ∃ o2, o2 = Obj.loop { rec .ready none with state := .busy } := ⟨_, rfl⟩
  rw [← ho2]
  have hl2 : (W.putObj (w.heap.size + 1) o2).heap[w.heap.size + 1]? = some o2 := World.putObj_heap_same hlt
  have hd2 : (W.putObj (w.heap.size + 1) o2).heap[w.heap.size]? = some (.deferred (some [])) := (World.putObj_heap_other (by omega)).trans hd
  refine wpIn_mono (hbody _ pre x v _ (hI.putObj _ hi (by omega) hl rfl) (by rw [World.putObj_size]; omega) (hVb x W v _ o2 hl hv) hpre) ?_
  rintro e a3 W3 ⟨rfl, hk3, hkp3, hi3⟩
  have hl3 := hk3.same _ _ (by omega) hl2 (by rw [ho2]; rfl)
  have hd3 := hk3.same _ _ (Nat.le_refl _) hd2 rfl
  rw [ho2] at hl3
  have hr := run_endRound (P := P) none hl3
  refine ⟨_, _, hr, .inl ⟨rfl, ⟨⟨hI.putObj _ hi3 (by omega) hl3 rfl, ?_⟩, (World.putObj_heap_other (by omega)).trans hd3⟩, hKt (hKt (hKb _ _ _ hl) hkp3) (hKb _ _ _ hl3)⟩⟩
  rw [World.putObj_heap_same (Array.getElem?_eq_some_iff.1 hl3).1, hrec]
  rfl
end iter
end
section
open Go.Lib (hid)
namespace iter
open Go.RowKit Go.Shelf base ints sig term termOk endOf marks app sym varsOf segs termFacts shape kindsR drawX ruleMath ruleSpec peakMath trySpec ovImpl ovAt ovsMath
set_option maxRecDepth 100000
theorem Made.lower {w : World} {lo lo' : Nat} {A : Option Addr} {n c : Nat} {v : Value} {sg : List Int} {rs : List Rl} {o a u p : Nat} (h : Made w lo A n c v sg rs o a u p) (hl : lo' ≤ lo) : Made w lo' A n c v sg rs o a u p := ⟨Nat.le_trans hl h.ge, h.ex⟩
def ValO (n₀ : Nat) (A : Option Addr) (n c : Nat) (v : Value) (sg : List Int) (rs : List Rl) (t : Nat × Nat × Nat) (W : World) (x : Value) : Prop := ∃ p, x = .pointer (some ⟨p, 0, none⟩) ∧ Made W n₀ A n c v sg rs t.1 t.2.1 t.2.2 p
set_option maxHeartbeats 4000000 in
theorem overlaps_val (n : Nat) (hn : 1 ≤ n) (B2 B3 n₀ : Nat) (A V : Option Addr) (m0 cs q cv : Nat) (d : Dat sSystem) (wB : Nat → Nat → Bool) (gf : Nat) (lb : Array Value) (w : World) (hn₀ : n₀ ≤ w.heap.size) (r2 : Row w B2 64 #[.slice A m0 cs, .slice V q cv]) (r3 : Row w B3 67 #[.func (.func gf) #[] lb])
  (h : Rd w n₀ sSystem [.slice A m0 cs, .slice V q cv] d) (hz : sz sSystem d ≤ 1048576) (hok : ∀ k, k < d.2.length → ruleOkB d.1 (d.2.getD k ([], [])) = true) (eg : ∀ args w, (callFunc gf args).run Try.prog w = .ok (.enter gf args) w)
  (hw : ∀ (W : World) (o u : Nat), Below n₀ w W → Calls Try.prog gf (#[.int .i64 (o : Int), .int .i64 (u : Int)] ++ lb) W (AnsB W (wB o u))) :
  SeqVal n Try.prog 59 #[.pointer (some ⟨B2, 0, none⟩), .pointer (some ⟨B3, 0, none⟩)] (ValO n₀ A m0 cs (.slice V q cv) d.1 d.2) (Kr n₀ B2 B3) (ovs d.1 d.2 wB) w := fun l J Jx W hW hJ hJx hY h0 => by
 have hWn := hW.mono hn₀
 have hsW : n₀ ≤ W.heap.size := Nat.le_trans hn₀ hW.size
 have LW := hid (fun (w1 : World) (bb : Below n₀ W w1) (o u : Nat) => hw w1 o u (hWn.trans bb))
 replace r2 := r2.next hW
 replace r3 := r3.next hW
 replace h := h.below hWn
 have LO := hid (fun (w1 : World) (bb : Below n₀ W w1) (o a u : Nat) => overlapAt A V m0 cs q cv d (o : Int) (a : Int) (u : Int) w1 ((h.below bb).more (Nat.le_trans hsW bb.size)) hz hok)
 obtain ⟨A1, n1, c1, A2, n2, c2, ea, ev, hA, kA, kV, hlen, hn1, hn2, hr, hsg, hrs⟩ := rd_sys h hz
 injection ea with e1 e2 e3
 subst e1 e2 e3
 injection ev with e1 e2 e3
 subst e1 e2 e3
 have RUL := hid (fun (o : Nat) (ho : o < q) => (show ∃ b off LA ln lc, V = some ⟨b, off, none⟩ ∧ b < n₀ ∧ W.cell? ⟨b, off + o * 2, none⟩ = some (.slice LA ln lc) ∧ (lh d.2 o).length = ln ∧ ln ≤ 1048576 from by
  obtain ⟨b, off, l, r, x, e, hb, hx, cL, cR, rd⟩ := rd_at hr (Below.refl _ _) hlen ho
  obtain ⟨LA, ln, lc, RA, rn, rc, rfl, rfl, sL, kL, -, -, hln, -⟩ := rd_rule rd (by have := hrs o ho; rw [hx.out] at this; exact this)
  exact ⟨b, off, LA, ln, lc, e, hb, cL, by unfold lh; rw [hx.out]; exact sL.1, hln⟩))
 have HQ := hid hlen
 have HJ := hid hJ
 have HR2 := hid r2
 have HR3 := hid r3
 have k21 : W.cell? ⟨B2, 1, none⟩ = some (.slice V q cv) := r2.cell 1
 obtain ⟨met, hmet⟩ : ∃ met : Nat → Nat → Nat → Bool, met = fun (o a u : Nat) => metB d.1 d.2 (o : Int) (a : Int) (u : Int) := ⟨_, rfl⟩
 have HMET := hid (show ∀ o a u, met o a u = metB d.1 d.2 (o : Int) (a : Int) (u : Int) from fun o a u => by rw [hmet])
 obtain ⟨len, hle⟩ : ∃ len : Nat → Nat, len = fun o => (lh d.2 o).length := ⟨_, rfl⟩
 have HLEN := hid (show ∀ o, len o = (lh d.2 o).length from fun o => by rw [hle])
 have eovs : ovs d.1 d.2 wB = allV met wB len q q := by unfold ovs; rw [hmet, hle, hlen]
 rw [eovs] at hY ⊢
 have HY := hid hY
 have i0 : (0 : Int) ≤ (q : Int) := by omega
 clear h hz hok hW hWn hn₀ r2 r3 hr hrs hsg hA kA kV hlen hmet hle eovs hY hw hJ
 refine callsIn_of_wp Try.func59 rfl trivial ?_ rfl
 simp only [Try.ntmps59, List.size_toArray, List.length_cons, List.length_nil, Nat.reduceAdd, Nat.reduceSub, Array.replicate_succ, Array.replicate_zero, List.push_toArray, List.append_toArray, List.nil_append, List.cons_append]
 gi_wp2
 gi_loopw [12] (fun i wr => ∃ o : Nat, o ≤ q ∧ i = .int .i64 o ∧ J (allV met wB len q o) wr ∧ Kr n₀ B2 B3 W wr) (fun i _ => q - (intOf i).toNat)
 case atStart => exact ⟨0, Nat.zero_le _, rfl, h0, Kr.refl _ _ _ _⟩
 case round =>
  obtain ⟨o, hoq, rfl, hJo, hBo⟩ := hrel
  by_cases hlt : o < q
  ·have K21 : wr.cell? ⟨B2, 1, none⟩ = some (.slice V q cv) := (hBo.row2 HR2.out).cell 1
   obtain ⟨b, off, LA, ln, lc, rfl, hb, cL, eln, hln⟩ := RUL.out o hlt
   have cLo : wr.cell? ⟨b, off + o * 2, none⟩ = some (.slice LA ln lc) := (hBo.1.cell (p := ⟨b, off + o * 2, none⟩) hb).trans cL
   have ELN := hid (show len o = ln by rw [HLEN.out]; exact eln)
   have j0 : (0 : Int) ≤ (o : Int) := by omega
   have j1 : (o : Int) < (q : Int) := by omega
   clear cL eln
   gi_wp2
   gi_loopw [22] (fun i wq => ∃ a : Nat, a ≤ ln ∧ i = .int .i64 a ∧ J (allV met wB len q o ++ colV met wB q o a) wq ∧ Kr n₀ B2 B3 W wq) (fun i _ => ln - (intOf i).toNat)
   case atStart => exact ⟨0, Nat.zero_le _, rfl, by simpa [colV] using hJo, hBo⟩
   case round =>
    obtain ⟨a, haq, rfl, hJa, hBa⟩ := hrel
    by_cases hla : a < ln
    ·have K21 : wr.cell? ⟨B2, 1, none⟩ = some (.slice (some ⟨b, off, none⟩) q cv) := (hBa.row2 HR2.out).cell 1
     have a0 : (0 : Int) ≤ (a : Int) := by omega
     have a1 : (a : Int) < (ln : Int) := by omega
     gi_wp2
     gi_loopw [28] (fun i wq => ∃ u : Nat, u ≤ q ∧ i = .int .i64 u ∧ J (allV met wB len q o ++ (colV met wB q o a ++ rowV met wB o a u)) wq ∧ Kr n₀ B2 B3 W wq) (fun i _ => q - (intOf i).toNat)
     case atStart => exact ⟨0, Nat.zero_le _, rfl, by simpa [rowV] using hJa, hBa⟩
     case round =>
      obtain ⟨u, huq, rfl, hJu, hBu⟩ := hrel
      by_cases hlu : u < q
      ·have K20 : wr.cell? ⟨B2, 0, none⟩ = some (.slice A m0 cs) := (hBu.row2 HR2.out).cell 0
       have K21 : wr.cell? ⟨B2, 1, none⟩ = some (.slice (some ⟨b, off, none⟩) q cv) := (hBu.row2 HR2.out).cell 1
       have K30 : wr.cell? ⟨B3, 0, none⟩ = some (.func (.func gf) #[] lb) := (hBu.row3 HR3.out).cell 0
       have u0 : (0 : Int) ≤ (u : Int) := by omega
       have u1 : (u : Int) < (q : Int) := by omega
       have LW1 := hid (LW.out wr hBu.1 o u)
       obtain ⟨bw, hbw⟩ : ∃ bw, wB o u = bw := ⟨_, rfl⟩
       rw [hbw] at LW1
       have HBW := hid hbw
       have HJU := hid hJu
       have HBU := hid hBu
       clear hJu hBu hbw
       gi_wp2_with (refine ⟨trivial, ?_⟩; gi_at_fn gf; refine (callsIn_wide.2 LW1.out).mono ?_; rintro e w3 ⟨rfl, bb⟩; refine (?_ : Hid _).out)
       have hJ3 := HJ.out _ wr w3 none HJU.out (cursor.grown_below bb none) (fun r e => by cases e)
       have hB3 : Kr n₀ B2 B3 W w3 := HBU.out.trans (Kr.of_below bb (Nat.le_trans hsW HBU.out.1.size) (HBU.out.row2 HR2.out).lt (HBU.out.row3 HR3.out).lt)
       clear bb LW1 K20 K21 K30
       cases bw with
       | false =>
        have F := hid (show J (allV met wB len q o ++ (colV met wB q o a ++ rowV met wB o a (u + 1))) w3 ∧ Kr n₀ B2 B3 W w3 from ⟨by rw [ovsMath.row_no (by rw [HBW.out]; rfl)]; exact hJ3, hB3⟩)
        clear hJ3 hB3
        refine hid ?_
        gi_wp2
        go_roundw
        case rel => exact ⟨u + 1, by omega, by simp, F.out.1, F.out.2⟩
        case measure => simp [intOf]; omega
       | true =>
        have K20 : w3.cell? ⟨B2, 0, none⟩ = some (.slice A m0 cs) := (hB3.row2 HR2.out).cell 0
        have K21 : w3.cell? ⟨B2, 1, none⟩ = some (.slice (some ⟨b, off, none⟩) q cv) := (hB3.row2 HR2.out).cell 1
        have HJ3 := hid hJ3
        have HB3 := hid hB3
        have LOA := LO.out w3 hB3.1 o a u
        clear hJ3 hB3
        obtain ⟨bm, hbm⟩ : ∃ bm, metB d.1 d.2 (o : Int) (a : Int) (u : Int) = bm := ⟨_, rfl⟩
        have HBM := hid hbm
        have hz3 := Nat.le_trans hsW HB3.out.1.size
        cases bm with
        | false =>
         have LO1 := hid (LOA.mono (fun (e : Ending) (w' : World) (hh : AnsOv w3 A m0 cs (.slice (some ⟨b, off, none⟩) q cv) d.1 d.2 (o : Int) (a : Int) (u : Int) e w') => (show e = .returned (.tuple #[.pointer none, .bool false]) ∧ Below w3.heap.size w3 w' from by
          rcases hh.2 with ⟨_, e⟩ | ⟨e, _⟩
          ·exact ⟨e, hh.1⟩
          ·rw [hbm] at e; cases e)))
         clear LOA hbm
         refine hid ?_
         gi_wp2_with (refine ⟨trivial, ?_⟩; gi_at_call 43; refine (callsIn_wide.2 LO1.out).mono ?_; rintro e w4 ⟨rfl, b4⟩; refine (?_ : Hid _).out)
         have hJ4 := HJ.out _ w3 w4 none HJ3.out (cursor.grown_below b4 none) (fun r e => by cases e)
         have hB4 : Kr n₀ B2 B3 W w4 := HB3.out.trans (Kr.of_below b4 hz3 (HB3.out.row2 HR2.out).lt (HB3.out.row3 HR3.out).lt)
         clear b4 LO1 K20 K21
         have F := hid (show J (allV met wB len q o ++ (colV met wB q o a ++ rowV met wB o a (u + 1))) w4 ∧ Kr n₀ B2 B3 W w4 from ⟨by rw [ovsMath.row_no (by rw [HBW.out, HMET.out, HBM.out]; rfl)]; exact hJ4, hB4⟩)
         clear hJ4 hB4
         refine hid ?_
         gi_wp2
         refine ⟨fun _ h => (by cases h), ?_⟩
         gi_wp2
         go_roundw
         case rel => exact ⟨u + 1, by omega, by simp, F.out.1, F.out.2⟩
         case measure => simp [intOf]; omega
        | true =>
         have LO1 := hid (LOA.mono (fun (e : Ending) (w' : World) (hh : AnsOv w3 A m0 cs (.slice (some ⟨b, off, none⟩) q cv) d.1 d.2 (o : Int) (a : Int) (u : Int) e w') => (show ∃ p, e = .returned (.tuple #[.pointer (some ⟨p, 0, none⟩), .bool true]) ∧ Below w3.heap.size w3 w' ∧ Made w' w3.heap.size A m0 cs (.slice (some ⟨b, off, none⟩) q cv) d.1 d.2 o a u p from by
          rcases hh.2 with ⟨e, _⟩ | ⟨_, p, e, hM⟩
          ·rw [hbm] at e; cases e
          ·exact ⟨p, e, hh.1, hM⟩)))
         clear LOA hbm
         refine hid ?_
         gi_wp2_with (refine ⟨trivial, ?_⟩; gi_at_call 43; refine (callsIn_wide.2 LO1.out).mono ?_; rintro e w4 ⟨p, rfl, b4, hM⟩; refine (?_ : Hid _).out)
         have hJ4 := HJ.out _ w3 w4 none HJ3.out (cursor.grown_below b4 none) (fun r e => by cases e)
         have hB4 : Kr n₀ B2 B3 W w4 := HB3.out.trans (Kr.of_below b4 hz3 (HB3.out.row2 HR2.out).lt (HB3.out.row3 HR3.out).lt)
         clear b4 LO1 K20 K21
         have hyes := ovsMath.row_yes (met := met) (wB := wB) (o := o) (a := a) (u := u) HBW.out (by rw [HMET.out]; exact HBM.out)
         have hfull : allV met wB len q o ++ (colV met wB q o a ++ rowV met wB o a (u + 1)) <+: allV met wB len q q := ovsMath.part_pre hlt (by rw [ELN.out]; exact hla) (by omega)
         rw [hyes, ← List.append_assoc, ← List.append_assoc] at hfull
         have hJ5 := hJ4
         rw [← List.append_assoc] at hJ5
         obtain ⟨fn, tmps, assign, body, hy, hR⟩ := HY.out _ (o, a, u) w4 _ hJ5 ⟨p, rfl, Made.lower hM hz3⟩ hfull
         have HYES := hid hyes
         have HF := hid hfull
         clear hJ4 hJ5 hyes hfull hM
         refine hid ?_
         gi_wp2
         refine hR.mono ?_
         rintro e W3 (⟨rfl, hJ4, hk4⟩ | ⟨rfl, hJx4⟩)
         ·have F := hid (show J (allV met wB len q o ++ (colV met wB q o a ++ rowV met wB o a (u + 1))) W3 ∧ Kr n₀ B2 B3 W W3 from ⟨by rw [HYES.out, ← List.append_assoc, ← List.append_assoc]; exact hJ4, hB4.trans hk4⟩)
          clear hJ4 hk4 hB4
          gi_wp2
          go_roundw
          case rel => exact ⟨u + 1, by omega, by simp, F.out.1, F.out.2⟩
          case measure => simp [intOf]; omega
         ·gi_wp2
          refine bodyPost_ret (results_none rfl _ _ _) rfl ?_
          exact ⟨⟨_, rfl⟩, .inr ⟨_, ⟨by simp, HF.out⟩, hJx4⟩⟩
      ·obtain rfl : u = q := by omega
       gi_wp2
       go_roundw
       case rel => exact ⟨a + 1, by omega, by simp, by rw [col_succ]; exact hJu, hBu⟩
       case measure => simp [intOf]; omega
    ·obtain rfl : a = ln := by omega
     gi_wp2
     go_roundw
     case rel => exact ⟨o + 1, by omega, by simp, by rw [all_succ, ELN.out]; exact hJa, hBa⟩
     case measure => simp [intOf]; omega
  ·obtain rfl : o = q := by omega
   gi_wp2
   go_end0
   exact ⟨⟨_, rfl⟩, .inl ⟨_, rfl, hJo⟩⟩
end iter
end
section
namespace iter
open Go.RowKit Go.Shelf base ints sig term marks app appAt segs shape ruleMath drawX bnd ovImpl ovAt
set_option maxRecDepth 100000
theorem cell_turn {w : World} {L b i : Nat} {o o' : Obj} {v : Value} (hl : w.heap[L]? = some o) (hc : o.isCells = false) (h : w.cell? ⟨b, i, none⟩ = some v) : (w.putObj L o').cell? ⟨b, i, none⟩ = some v := by
 by_cases e : b = L
 ·subst e
  exfalso
  unfold World.cell? at h
  simp only [hl] at h
  cases o <;> simp_all [Obj.isCells]
 ·unfold World.cell? at h ⊢
  simp only [World.putObj_heap_other e]
  exact h
theorem row_loop {w : World} {L k : Nat} {o o' : Obj} {t : TypeId} {cs : Array Value} (hl : w.heap[L]? = some o) (hc : o.isCells = false) (h : Row w k t cs) : Row (w.putObj L o') k t cs := by
 by_cases e : k = L
 ·subst e
  exfalso
  unfold Row at h
  rw [hl] at h
  injection h with h
  rw [h] at hc
  cases hc
 ·exact (World.putObj_heap_other e).trans h
theorem rdq_turn {w : World} {Q : Nat → Prop} {A : Option Addr} {n c : Nat} {u : List Int} {L : Nat} {o o' : Obj} (hl : w.heap[L]? = some o) (hc : o.isCells = false) (h : RdQ w Q sI [.slice A n c] u) : RdQ (w.putObj L o') Q sI [.slice A n c] u := by
 obtain ⟨h1, h2, h3⟩ := rdq_nums h
 refine rdq_seg h1 h2 fun hn => ?_
 obtain ⟨b, off, e, hq, hcell⟩ := h3 hn
 exact ⟨b, off, e, hq, fun j hj => cell_turn hl hc (hcell j hj)⟩
theorem ov_turn {w : World} {Q : Nat → Prop} {p lb : Nat} {A : Option Addr} {n c : Nat} {v : Value} {o a u : Int} {X : Option Addr} {xn xc lc : Nat} {sg nums : List Int} {lk : List Nat} {L : Nat} {ob ob' : Obj} (hl : w.heap[L]? = some ob) (hc : ob.isCells = false) (h : Ov w Q p lb A n c v o a u X xn xc lc sg nums lk) : Ov (w.putObj L ob') Q p lb A n c v o a u X xn xc lc sg nums lk := by
 obtain ⟨cur, h1, h2, h3⟩ := h.lk
 exact ⟨row_loop hl hc h.row, rdq_turn hl hc h.sg, rdq_turn hl hc h.nm, ⟨cur, row_loop hl hc h1, h2, h3⟩, h.ne, fun b hb => ⟨(h.q b hb).1, (h.q b hb).2.1, by rw [World.putObj_size]; exact (h.q b hb).2.2⟩⟩
theorem made_turn {w : World} {lo : Nat} {A : Option Addr} {n c : Nat} {v : Value} {sg : List Int} {rs : List Rl} {o a u p : Nat} {L : Nat} {ob ob' : Obj} (hl : w.heap[L]? = some ob) (hc : ob.isCells = false) (h : Made w lo A n c v sg rs o a u p) : Made (w.putObj L ob') lo A n c v sg rs o a u p := by
 obtain ⟨lb, xc, lc, X, N, lk, rt, rk, D, h1, h2⟩ := h.ex
 exact ⟨h.ge, lb, xc, lc, X, N, lk, rt, rk, D, ov_turn hl hc h1, h2⟩
theorem stepAppIn {l k : Nat} {w : World} {ops : Array Oper} {o : Oper} {a : Act} {K : Act → World → Prop} {Q : Exit → Act → World → Prop} {E : Prop} (hgd : o.guard = none) (s x : Operand)
  (ho : o.op = .call { callee := .builtin .append, args := #[s, x], argTypes := #[22, 22] })
  (base : Nat) (A : Option Addr) (n c : Nat) (xs : List Int) (hs : a.eval s = .slice A n c) (hown : marks.Own w base (.slice A n c) xs)
  (S : Option Addr) (m c2 B : Nat) (ys : List Int) (hx : a.eval x = .slice S m c2) (hseg : Seg w B S m ys) (hm1 : 1 ≤ m) (hn : n ≤ 2097152) (hm : m ≤ 2097152) (hbase : base ≤ w.heap.size)
  (h : ∀ A' c' w', marks.Own w' base (.slice A' (n + m) c') (xs ++ ys) → w.grownBy w' (blk A) → (blk A' = blk A ∨ blk A' = some w.heap.size) → K (a.put o.dst (.slice A' (n + m) c')) w') :
  if Region.wanted o (yielded ops a.tmps) = true then Oper.wpIn (Fence.wide.inRound l) k Try.prog o a w K Q else E := by
 have hw : Region.wanted o (yielded ops a.tmps) = true := by simp [Region.wanted, hgd]
 rw [if_pos hw]
 refine ⟨fun _ _ => trivial, ?_⟩
 obtain ⟨i0, hi, hz0, hz1, hz2⟩ := info_parts info_i64
 have hl : xs.length = n := by
  obtain ⟨A', c', e⟩ := hown.slice
  injection e with _ e _
  exact e.symm
 have ho1 : w.ownsRow base 2 1 (.slice A n c) n (xs.map (Value.int .i64)) := by rw [← hl]; rw [← hl] at hown; exact hown
 obtain ⟨b, off, e, _, hc⟩ := hseg.2 (by omega)
 subst e
 obtain ⟨v', w', hr, hown', hg, -, hat⟩ := run_append_own_at (P := Try.prog) (w := w) base 22 o.type 2 i0 (.int .i64 0) 1 8 Try.underlying22 hi hz0 hz1 hz2 rfl (by decide) (.slice A n c) n (xs.map (Value.int .i64)) ho1
  ⟨b, off, none⟩ m c2 (ys.map (Value.int .i64)) (by simp [hseg.1]) (fun j u hj => by
   have hjl : j < m := by
    have := (List.getElem?_eq_some_iff.1 hj).1
    simp at this
    have := hseg.1
    omega
   have hcj := hc j hjl
   have e2 : (⟨b, off, none⟩ : Addr).add j = ⟨b, off + j, none⟩ := by unfold Addr.add; split <;> simp_all
   rw [e2, hcj, ← hj]
   have := hseg.1
   simp [List.getD, show j < ys.length by omega]) (fun u hu => by
   obtain ⟨y, _, rfl⟩ := List.mem_map.1 hu
   rfl) (by unfold maxLen; omega) (by omega) hbase
 rw [← List.map_append] at hown'
 obtain ⟨A', c', rfl, ho'⟩ := own_of hown'
 rw [blk_own] at hg
 rw [blk_own, blk_own] at hat
 rw [Oper.semAt_eq _ _ _ (by simp [ho])]
 unfold execOp
 simp only [ho, resolve, invoke, builtin, Sem.run_bind, Sem.run_pure, Result.andThen_ok, List.map_toArray, List.map_cons, List.map_nil, hs, hx, hr]
 exact h A' c' w' ho' hg hat
end iter
end
section
open Go.Lib (hid)
namespace iter
open Go.RowKit Go.Shelf base ints sig term termOk endOf marks app sym varsOf segs termFacts shape kindsR drawX ruleMath ruleSpec ruleImpl peakMath trySpec overSpec ovImpl ovAt ovsMath rangeGive
set_option maxRecDepth 100000
attribute [local go_sem] Oper.semAt_some
theorem overlapsFn (a v : Value) (f : Value) (w : World) (hf : ∃ g lb, f = .func (.func g) #[] lb) : Calls Try.prog 37 #[.agg #[a, v], f] w fun e w' => e = .returned (.func (.func 59) #[] #[.pointer (some ⟨w.heap.size, 0, none⟩), .pointer (some ⟨w.heap.size + 1, 0, none⟩)]) ∧ w' = (w.alloc (.cells #[a, v] 64)).alloc (.cells #[f] 67) := by
 obtain ⟨g, lb, rfl⟩ := hf
 have hmf : ∀ (fn : Fn) (first cap : Array Value) (w : World), (Instr.makeFunc fn first cap).run Try.prog w = .ok (.func fn first cap) w := fun _ _ _ _ => rfl
 go_enter Try.func37, Try.ntmps37
 go_wp2
 go_ret
 exact ⟨rfl, rfl⟩
theorem isPair (Bo Bu : Nat) (x y : Int) (o u : Nat) (w : World) (ro : Row w Bo 2 #[.int .i64 x]) (ru : Row w Bu 2 #[.int .i64 y]) :
  Calls Try.prog 36 (#[.int .i64 (o : Int), .int .i64 (u : Int)] ++ #[.pointer (some ⟨Bo, 0, none⟩), .pointer (some ⟨Bu, 0, none⟩)]) w (AnsB w (pairB x y o u)) := by
 have k1 : w.cell? ⟨Bo, 0, none⟩ = some (.int .i64 x) := ro.cell 0
 have k2 : w.cell? ⟨Bu, 0, none⟩ = some (.int .i64 y) := ru.cell 0
 clear ro ru
 by_cases h1 : (o : Int) = x
 ·have e1 : ((o : Int) == x) = true := by simp [h1]
  have F := hid (show pairB x y o u = ((u : Int) == y) from by unfold pairB; by_cases h : (u : Int) = y <;> simp [h1, h])
  clear h1
  go_enter Try.func36, Try.ntmps36
  go_wp2
  go_ret
  exact ⟨by rw [F.out]; rfl, Below.refl _ _⟩
 ·have e1 : ((o : Int) == x) = false := by simp [h1]
  have F := hid (show pairB x y o u = false from by unfold pairB; simp [h1])
  clear h1
  go_enter Try.func36, Try.ntmps36
  go_wp2
  go_ret
  exact ⟨by rw [F.out]; rfl, Below.refl _ _⟩
theorem one_seg9 (w : World) (y : Int) : Seg (w.alloc (.cells #[.int .i64 y] 2)) (w.alloc (.cells #[.int .i64 y] 2)).heap.size (some ⟨w.heap.size, 0, none⟩) 1 [y] := ⟨rfl, fun _ => ⟨w.heap.size, 0, rfl, by simp, fun j hj => by
 obtain rfl : j = 0 := by omega
 exact (Row.new w 2 #[.int .i64 y]).cell 0⟩⟩
theorem own_len9 {w : World} {base : Nat} {A : Option Addr} {n c : Nat} {xs : List Int} (h : marks.Own w base (.slice A n c) xs) : n = xs.length := by
 obtain ⟨A', c', e⟩ := marks.Own.slice h
 injection e
theorem row_turn9 {w w' : World} {row : Option Nat} {k : Nat} {t : TypeId} {cs : Array Value} (h : Row w k t cs) (hg : w.grownBy w' row) (hr : ∀ r, row = some r → ∃ o : Obj, w.heap[r]? = some o ∧ o.isCells = false) : Row w' k t cs := by
 refine (hg.block k h.lt fun e => ?_).trans h
 obtain ⟨o, h1, h2⟩ := hr k e.symm
 unfold Row at h
 rw [h] at h1
 injection h1 with h1
 rw [← h1] at h2
 cases h2
theorem own_lower9 {w : World} {base base' : Nat} {v : Value} {xs : List Int} (h : marks.Own w base v xs) (hb : base' ≤ base) : marks.Own w base' v xs := sym.Own.lower h hb
theorem own_turn {w w' : World} {base n c : Nat} {O : Option Addr} {xs : List Int} {row : Option Nat} (h : marks.Own w base (.slice O n c) xs) (hg : w.grownBy w' row) (hr : ∀ r, row = some r → ∃ o : Obj, w.heap[r]? = some o ∧ o.isCells = false) : marks.Own w' base (.slice O n c) xs := by
 refine appAt.Own.kept h hg ?_
 rcases marks.Own.form h with ⟨e, -⟩ | ⟨g, c', cur, e, -, hrow, -⟩
 ·injection e with e _ _
  exact .inl (by rw [e]; rfl)
 ·injection e with e _ _
  subst e
  refine .inr fun e => ?_
  obtain ⟨o, h1, h2⟩ := hr g e.symm
  unfold Row at hrow
  rw [hrow] at h1
  injection h1 with h1
  rw [← h1] at h2
  cases h2
theorem box3v (w : World) (t t' t'' : TypeId) (cs cs' cs'' : Array Value) : ∃ W, W = ((w.alloc (.cells cs t)).alloc (.cells cs' t')).alloc (.cells cs'' t'') ∧ Row W w.heap.size t cs ∧ Row W (w.heap.size + 1) t' cs' ∧ Row W (w.heap.size + 1 + 1) t'' cs'' ∧ Below w.heap.size w W := by
 refine ⟨_, rfl, ((Row.new w _ _).alloc _).alloc _, ?_, ?_, (((Below.refl _ _).alloc (Nat.le_refl _) _).alloc (by simp) _).alloc (by simp; omega) _⟩
 ·have := (Row.new (w.alloc (.cells cs t)) t' cs').alloc (.cells cs'' t''); simpa using this
 ·have := Row.new ((w.alloc (.cells cs t)).alloc (.cells cs' t')) t'' cs''; simpa using this
theorem box4v (w : World) (t t' t'' t3 : TypeId) (cs cs' cs'' c3 : Array Value) : ∃ W, W = (((w.alloc (.cells cs t)).alloc (.cells cs' t')).alloc (.cells cs'' t'')).alloc (.cells c3 t3) ∧ Row W w.heap.size t cs ∧ Row W (w.heap.size + 1) t' cs' ∧ Row W (w.heap.size + 1 + 1) t'' cs'' ∧ Row W (w.heap.size + 1 + 1 + 1) t3 c3 ∧ Below w.heap.size w W := by
 obtain ⟨V, hV, r1, r2, r3, b⟩ := box3v w t t' t'' cs cs' cs''
 have z : V.heap.size = w.heap.size + 1 + 1 + 1 := by rw [hV]; simp
 refine ⟨V.alloc (.cells c3 t3), by rw [hV], r1.alloc _, r2.alloc _, r3.alloc _, ?_, b.alloc b.size _⟩
 have := Row.new V t3 c3
 rw [z] at this
 exact this
set_option maxHeartbeats 4000000 in
theorem implOverlaps (a v : Value) (d : Dat sSystem) (x y : Int) (w : World) (h : Rd w w.heap.size sSystem [a, v] d) (hz : sz sSystem d ≤ 1048576) :
  Calls Try.prog 10 #[.agg #[a, v], .int .i64 x, .int .i64 y] w (AnsList w (ovI d.1 d.2 x y)) := by
 refine (callsIn_wide (n := 5)).1 ?_
 have h0 := h
 obtain ⟨A, n, cs, V, q, cv, rfl, rfl, -, -, -, -, -, -, -, -, -⟩ := rd_sys h hz
 obtain ⟨W, hW, rA, rO, rU, bel⟩ := box3v w 33 2 2 #[.slice A n cs, .slice V q cv] #[.int .i64 x] #[.int .i64 y]
 have zW : W.heap.size = w.heap.size + 1 + 1 + 1 := by rw [hW]; simp
 have HW := hid hW
 have LS := systemOf _ _ d W (h0.next bel) hz
 have hmf : ∀ (fn : Fn) (first cap : Array Value) (w : World), (Instr.makeFunc fn first cap).run Try.prog w = .ok (.func fn first cap) w := fun _ _ _ _ => rfl
 -- the system that is gone over: the given one, or none
 obtain ⟨A', n', cs', V', q', cv', d', bo, hS, hD, hz', hok, hres⟩ : ∃ (A' : Option Addr) (n' cs' : Nat) (V' : Option Addr) (q' cv' : Nat) (d' : Dat sSystem) (bo : Bool), Calls Try.prog 35 #[.agg #[.slice A n cs, .slice V q cv]] W (fun e w' => e = .returned (.tuple #[.agg #[.slice A' n' cs', .slice V' q' cv'], .bool bo]) ∧ Below W.heap.size W w') ∧
   (∀ w1, Below w.heap.size w w1 → Rd w1 w.heap.size sSystem [.slice A' n' cs', .slice V' q' cv'] d') ∧ sz sSystem d' ≤ 1048576 ∧ (∀ k, k < d'.2.length → ruleOkB d'.1 (d'.2.getD k ([], [])) = true) ∧ (ovs d'.1 d'.2 (pairB x y)).map (fun t => (t.2.1 : Int)) = ovI d.1 d.2 x y := by
  cases ok : sysOkB d.1 d.2 with
  | true =>
   rw [ok] at LS
   exact ⟨A, n, cs, V, q, cv, d, true, LS, fun w1 b1 => h0.below b1, hz, fun k hk => trySpec.sys_rule ok hk, ovs_pair ok⟩
  | false =>
   rw [ok] at LS
   refine ⟨none, 0, 0, none, 0, 0, ([], []), false, LS, fun w1 _ => peakImpl.rd_zero w1 _, by decide, fun k hk => absurd hk (Nat.not_lt_zero _), ?_⟩
   unfold ovs ovI
   rw [if_neg (by rw [ok]; simp)]
   rfl
 have HS := hid hS
 have HH := hid (And.intro hD (And.intro hz' (And.intro hok hres)))
 clear hW h h0 LS hS hD hz' hok hres
 refine callsIn_of_wp_marks Try.func10 rfl trivial ?_ rfl
 simp only [Try.ntmps10, List.size_toArray, List.length_cons, List.length_nil, Nat.reduceAdd, Nat.reduceSub, Array.replicate_succ, Array.replicate_zero, List.push_toArray, List.append_toArray, List.nil_append, List.cons_append]
 gi_wp2_with (refine ⟨trivial, ?_⟩; gi_at_call 35; rw [← HW.out]; refine (callsIn_wide.2 HS.out).mono ?_; rintro e w1 ⟨rfl, bb⟩; refine (?_ : Hid _).out)
 obtain ⟨hD, hz', hok, hres⟩ := HH.out
 have bw1 : Below w.heap.size w w1 := next_trans bel bb
 have z1 := bb.size
 obtain ⟨X, hX, q1, q2, q3, q4, b4⟩ := box4v w1 64 22 64 67 #[.slice A' n' cs', .slice V' q' cv'] #[.slice none 0 0] #[.slice A' n' cs', .slice V' q' cv'] #[.func (.func 36) #[] #[.pointer (some ⟨w.heap.size + 1, 0, none⟩), .pointer (some ⟨w.heap.size + 1 + 1, 0, none⟩)]]
 have zX : X.heap.size = w1.heap.size + 1 + 1 + 1 + 1 := by rw [hX]; simp
 have bX : Below w.heap.size w X := bw1.trans (b4.mono (by omega))
 have rO2 := (rO.next bb).next b4
 have rU2 := (rU.next bb).next b4
 have HV := hid (overlaps_val 4 (by omega) (w1.heap.size + 1 + 1) (w1.heap.size + 1 + 1 + 1) (w1.heap.size + 1) A' V' n' cs' q' cv' d' (pairB x y) 36 #[.pointer (some ⟨w.heap.size + 1, 0, none⟩), .pointer (some ⟨w.heap.size + 1 + 1, 0, none⟩)] X (by omega) q3 q4 ((hD X bX).more (by omega)) hz' hok (enters_of Try.func36 (by kernel_rfl) rfl)
  (fun W' o u hb => isPair _ _ x y o u W' (rO2.below hb (by omega)) (rU2.below hb (by omega))))
 have HQ := hid (And.intro q2 (And.intro q3 q4))
 have HX := hid hX
 clear hX q1 q2 q3 q4 rO2 rU2 hD hz' hok rA rO rU bel
 refine hid ?_
 gi_wp2_with (refine ⟨trivial, ?_⟩; gi_at_call 37; refine (callsIn_wide.2 (overlapsFn (.slice A' n' cs') (.slice V' q' cv') _ _ ⟨_, _, rfl⟩)).mono ?_; rintro e w3 ⟨rfl, hw3⟩; subst hw3)
 rw [← HX.out]
 have hX1 : w1.heap.size + 1 + 1 + 1 + 1 ≤ X.heap.size := by omega
 have hX2 : X.heap.size ≤ w1.heap.size + 1 + 1 + 1 + 1 := by omega
 have hX3 := bX.size
 have hX4 : w.heap.size ≤ w1.heap.size := by omega
 clear zX zW
 refine rangeVal (gf := 59) (lb := #[.pointer (some ⟨w1.heap.size + 1 + 1, 0, none⟩), .pointer (some ⟨w1.heap.size + 1 + 1 + 1, 0, none⟩)]) rfl (enters_of Try.func59 (by kernel_rfl) rfl) HV.out (Below.refl _ _) Kr.trans
  (fun Y o o' ho => ⟨(Below.refl _ Y).grown (grownBy_putObj' Y _ o') (by have := (Array.getElem?_eq_some_iff.1 ho).1; omega) (fun k e => by cases e; omega), World.putObj_heap_other (by omega), World.putObj_heap_other (by omega)⟩)
  (fun t Y v o o' ho hv => by
   obtain ⟨p, e, hM⟩ := hv
   exact ⟨p, e, made_turn ho rfl hM⟩)
  (fun pre Y => ∃ O on oc, Row Y (w1.heap.size + 1) 22 #[.slice O on oc] ∧ marks.Own Y X.heap.size (.slice O on oc) (pre.map fun t => (t.2.1 : Int)) ∧ Below w.heap.size w Y)
  (fun s Y Z row hs hg hr => by
   obtain ⟨O, on, oc, h1, h2, h3⟩ := hs
   have hr' : ∀ r, row = some r → ∃ o : Obj, Y.heap[r]? = some o ∧ o.isCells = false := fun r e => (hr r e).2
   exact ⟨O, on, oc, row_turn9 h1 hg hr', own_turn h2 hg hr', h3.grown hg h3.size (fun k e => by have := (hr k e).1; have := bX.size; omega)⟩)
  ⟨none, 0, 0, HQ.out.1, marks.Own.nil _ _, bX⟩
  (fun v => { tmps := #[.agg #[.slice A n cs, .slice V q cv], .int .i64 x, .int .i64 y, .pointer (some ⟨w.heap.size, 0, none⟩), .pointer (some ⟨w.heap.size + 1, 0, none⟩), .pointer (some ⟨w.heap.size + 1 + 1, 0, none⟩), .slice none 0 0, .pointer (some ⟨w1.heap.size, 0, none⟩), .bool bo,
   .func (.func 36) #[] #[.pointer (some ⟨w.heap.size + 1, 0, none⟩), .pointer (some ⟨w.heap.size + 1 + 1, 0, none⟩)], .pointer (some ⟨w1.heap.size + 1, 0, none⟩), v, .tuple #[.agg #[.slice A' n' cs', .slice V' q' cv'], .bool bo], .agg #[.slice A n cs, .slice V q cv],
   .tuple #[.agg #[.slice A' n' cs', .slice V' q' cv'], .bool bo], .agg #[.slice A' n' cs', .slice V' q' cv'], .bool bo, .func (.func 36) #[] #[.pointer (some ⟨w.heap.size + 1, 0, none⟩), .pointer (some ⟨w.heap.size + 1 + 1, 0, none⟩)], .agg #[.slice A' n' cs', .slice V' q' cv'],
   .func (.func 36) #[] #[.pointer (some ⟨w.heap.size + 1, 0, none⟩), .pointer (some ⟨w.heap.size + 1 + 1, 0, none⟩)], .func (.func 59) #[] #[.pointer (some ⟨w1.heap.size + 1 + 1, 0, none⟩), .pointer (some ⟨w1.heap.size + 1 + 1 + 1, 0, none⟩)], v, undef, undef, undef, undef, undef, undef, undef, undef], defers := [] }) ?assign ?body ?done
 case assign =>
  rintro l t v Y K ⟨p, rfl, hM⟩ hK
  clear hM
  gi_wp2
  first | exact hK | simpa using hK
 case body =>
  rintro l pre t v Y ⟨O, on, oc, rP, oP, bP⟩ hY2 ⟨p, rfl, hM⟩ hpre
  obtain ⟨lb9, xc9, lc9, X9, N9, lk9, rt9, rk9, D9, hOv, -⟩ := hM.ex
  have e3 : Y.cell? ⟨p, 3, none⟩ = some (.int .i64 (t.2.1 : Int)) := hOv.row.cell 3
  have e3d : Y.drew.cell? ⟨p, 3, none⟩ = some (.int .i64 (t.2.1 : Int)) := e3
  have c0 : Y.cell? ⟨w1.heap.size + 1, 0, none⟩ = some (.slice O on oc) := rP.cell 0
  have c0d : Y.drew.cell? ⟨w1.heap.size + 1, 0, none⟩ = some (.slice O on oc) := rP.cell 0
  have rP1 : Row (Y.alloc (.cells #[.int .i64 (t.2.1 : Int)] 2)) (w1.heap.size + 1) 22 #[.slice O on oc] := rP.alloc _
  have c1d : ((Y.alloc (.cells #[.int .i64 (t.2.1 : Int)] 2)).drew).cell? ⟨w1.heap.size + 1, 0, none⟩ = some (.slice O on oc) := rP1.cell 0
  have c1 : (Y.alloc (.cells #[.int .i64 (t.2.1 : Int)] 2)).cell? ⟨w1.heap.size + 1, 0, none⟩ = some (.slice O on oc) := rP1.cell 0
  have oY1 := hid (show marks.Own ((Y.alloc (.cells #[.int .i64 (t.2.1 : Int)] 2)).drew) X.heap.size (.slice O on oc) (pre.map fun t => (t.2.1 : Int)) from World.ownsRow.alloc oP _)
  have hon : on ≤ 1048576 := by
   have h1 := own_len9 oP
   have h2 := hpre.length_le
   have h3 := congrArg List.length HH.out.2.2.2
   rw [List.length_map] at h1 h3
   rw [List.length_append, List.length_singleton] at h2
   have h4 := ovI_len (sg := d.1) (rs := d.2) x y
   omega
  have HSTEP := hid (show ∀ (w2 : World) (O' : Option Addr) (oc' : Nat), marks.Own w2 X.heap.size (.slice O' (on + 1) oc') ((pre.map fun t => (t.2.1 : Int)) ++ [(t.2.1 : Int)]) → ((Y.alloc (.cells #[.int .i64 (t.2.1 : Int)] 2)).drew).grownBy w2 (blk O) → (blk O' = blk O ∨ blk O' = some ((Y.alloc (.cells #[.int .i64 (t.2.1 : Int)] 2)).drew).heap.size) →
   Row w2 (w1.heap.size + 1) 22 #[.slice O on oc] ∧ (Exit.normal = Exit.normal ∧ KeepsFrom X.heap.size Y (w2.setCell ⟨w1.heap.size + 1, 0, none⟩ (.slice O' (on + 1) oc')) ∧ Kr (w1.heap.size + 1) (w1.heap.size + 1 + 1) (w1.heap.size + 1 + 1 + 1) Y (w2.setCell ⟨w1.heap.size + 1, 0, none⟩ (.slice O' (on + 1) oc')) ∧
    ∃ O2 on2 oc2, Row (w2.setCell ⟨w1.heap.size + 1, 0, none⟩ (.slice O' (on + 1) oc')) (w1.heap.size + 1) 22 #[.slice O2 on2 oc2] ∧ marks.Own (w2.setCell ⟨w1.heap.size + 1, 0, none⟩ (.slice O' (on + 1) oc')) X.heap.size (.slice O2 on2 oc2) ((pre ++ [t]).map fun t => (t.2.1 : Int)) ∧ Below w.heap.size w (w2.setCell ⟨w1.heap.size + 1, 0, none⟩ (.slice O' (on + 1) oc'))) from by
   intro w2 O' oc' oY2 hg hat
   have hp : blk O ≠ some (w1.heap.size + 1) := fun e => by have := (pathSpec.own_lt oP _ e).1; omega
   have hcells : ∀ k, blk O = some k → ∃ cs, Row Y k 2 cs := fun k hk => by
    rcases marks.Own.form oP with ⟨e, -⟩ | ⟨g, c', cur, e, -, hrow, -⟩
    ·injection e with e _ _
     rw [e] at hk
     cases hk
    ·injection e with e _ _
     rw [e] at hk
     injection hk with hk
     exact ⟨cur, hk ▸ hrow⟩
   have r2 : Row w2 (w1.heap.size + 1) 22 #[.slice O on oc] := marks.Row.away (w := (Y.alloc (.cells #[.int .i64 (t.2.1 : Int)] 2)).drew) rP1 hg hp
   have hal : ∀ k, k < Y.heap.size → ((Y.alloc (.cells #[.int .i64 (t.2.1 : Int)] 2)).drew).heap[k]? = Y.heap[k]? := fun k hk => Below.heap_alloc Y _ k hk
   have hszg := hg.size
   have hszd : ((Y.alloc (.cells #[.int .i64 (t.2.1 : Int)] 2)).drew).heap.size = Y.heap.size + 1 := by simp
   have hkeepk : ∀ k, k < Y.heap.size → blk O ≠ some k → k ≠ w1.heap.size + 1 → (w2.setCell ⟨w1.heap.size + 1, 0, none⟩ (.slice O' (on + 1) oc')).heap[k]? = Y.heap[k]? := fun k hk h1 h2 =>
    (Below.heap_setCell w2 _ _ k h2).trans ((hg.block k (by omega) (fun e => h1 e.symm)).trans (hal k hk))
   have hb1 : Below (w1.heap.size + 1) Y (w2.setCell ⟨w1.heap.size + 1, 0, none⟩ (.slice O' (on + 1) oc')) :=
    (((Below.refl (w1.heap.size + 1) Y).alloc (by omega) (.cells #[.int .i64 (t.2.1 : Int)] 2)).drew.grown hg (by omega) (fun k hk => by have := (pathSpec.own_lt oP _ hk).1; omega)).setCell (Nat.le_refl _) _
   refine ⟨r2, rfl, ⟨by simp; omega, fun k o hk ho hc => ?_⟩, ⟨hb1, hkeepk _ (by omega) (fun e => by have := (pathSpec.own_lt oP _ e).1; omega) (by omega), hkeepk _ (by omega) (fun e => by have := (pathSpec.own_lt oP _ e).1; omega) (by omega)⟩, O', on + 1, oc', r2.put 0 _, ?_, bP.trans (hb1.mono (show w.heap.size ≤ w1.heap.size + 1 by omega))⟩
   ·refine (hkeepk k (Array.getElem?_eq_some_iff.1 ho).1 (fun e => ?_) (by omega)).trans ho
    obtain ⟨cs, hrow⟩ := hcells k e
    unfold Row at hrow
    rw [hrow] at ho
    injection ho with ho
    rw [← ho] at hc
    cases hc
   ·rw [List.map_append]
    exact marks.Own.far oY2 (cursor.grown_put (World.grownBy.refl _ _) _ _) fun k hk => by injection hk; omega)
  clear rP oP bP hM hOv hpre rP1
  gi_wp2
  refine wpIn_region_any (by kernel_rfl) ?_
  change wpAnyIn _ _ _ _ _ _ _ _ _ (World.drew _)
  refine wpAnyIn_ready (rs := [0, 1]) (by kernel_rfl) (by simp) ?_
  refine AllReadyIn.cons rfl (fun K hK => ?_) (AllReadyIn.cons rfl (fun K hK => ?_) AllReadyIn.nil)
  ·go_simp
   refine hK _ _ ?_
   clear hK K
   refine wpAnyIn_ready (rs := [1]) (by kernel_rfl) (by simp) ?_
   refine AllReadyIn.cons rfl (fun K hK => ?_) AllReadyIn.nil
   go_simp
   refine hK _ _ ?_
   clear hK K
   refine wpAnyIn_ready (rs := [2]) (by kernel_rfl) (by simp) ?_
   refine AllReadyIn.cons rfl (fun K hK => ?_) AllReadyIn.nil
   go_simp
   refine hK _ _ ?_
   clear hK K
   refine wpAnyIn_ready (rs := [3]) (by kernel_rfl) (by simp) ?_
   refine AllReadyIn.cons rfl (fun K hK => ?_) AllReadyIn.nil
   go_simp
   refine hK _ _ ?_
   clear hK K
   refine wpAnyIn_ready (rs := [4]) (by kernel_rfl) (by simp) ?_
   refine AllReadyIn.cons rfl (fun K hK => ?_) AllReadyIn.nil
   go_simp
   refine hK _ _ ?_
   clear hK K
   refine wpAnyIn_ready (rs := [5]) (by kernel_rfl) (by simp) ?_
   refine AllReadyIn.cons rfl (fun K hK => ?_) AllReadyIn.nil
   go_simp
   refine hK _ _ ?_
   clear hK K
   refine wpAnyIn_ready (rs := [6]) (by kernel_rfl) (by simp) ?_
   refine AllReadyIn.cons rfl (fun K hK => ?_) AllReadyIn.nil
   refine stepAppIn rfl _ _ rfl X.heap.size O on oc _ rfl oY1.out (some ⟨Y.heap.size, 0, none⟩) 1 1 (Y.heap.size + 1) [(t.2.1 : Int)] rfl (by simpa using (one_seg9 Y (t.2.1 : Int)).drew) (by omega) (by omega) (by omega) (by simp; omega) ?_
   intro O' oc' w2 oY2 hg hat
   obtain ⟨r2, F⟩ := HSTEP.out w2 O' oc' oY2 hg hat
   have y0 : w2.cell? ⟨w1.heap.size + 1, 0, none⟩ = some (.slice O on oc) := r2.cell 0
   have y1 : w2.frozen? ⟨w1.heap.size + 1, 0, none⟩ = false := r2.free 0
   have HF := hid F
   clear F oY2 hg hat r2
   refine hK _ _ ?_
   clear hK K
   refine wpAnyIn_ready (rs := [7]) (by kernel_rfl) (by simp) ?_
   refine AllReadyIn.cons rfl (fun K hK => ?_) AllReadyIn.nil
   go_simp
   refine hK _ _ ?_
   clear hK K
   refine wpAnyIn_done (by kernel_rfl) ?_ _
   gi_wp2
   first | exact HF.out | (simpa using HF.out)
  ·go_simp
   refine hK _ _ ?_
   clear hK K
   refine wpAnyIn_ready (rs := [0, 2]) (by kernel_rfl) (by simp) ?_
   refine AllReadyIn.cons rfl (fun K hK => ?_) (AllReadyIn.cons rfl (fun K hK => ?_) AllReadyIn.nil)
   ·go_simp
    refine hK _ _ ?_
    clear hK K
    refine wpAnyIn_ready (rs := [2]) (by kernel_rfl) (by simp) ?_
    refine AllReadyIn.cons rfl (fun K hK => ?_) AllReadyIn.nil
    go_simp
    refine hK _ _ ?_
    clear hK K
    refine wpAnyIn_ready (rs := [3]) (by kernel_rfl) (by simp) ?_
    refine AllReadyIn.cons rfl (fun K hK => ?_) AllReadyIn.nil
    go_simp
    refine hK _ _ ?_
    clear hK K
    refine wpAnyIn_ready (rs := [4]) (by kernel_rfl) (by simp) ?_
    refine AllReadyIn.cons rfl (fun K hK => ?_) AllReadyIn.nil
    go_simp
    refine hK _ _ ?_
    clear hK K
    refine wpAnyIn_ready (rs := [5]) (by kernel_rfl) (by simp) ?_
    refine AllReadyIn.cons rfl (fun K hK => ?_) AllReadyIn.nil
    go_simp
    refine hK _ _ ?_
    clear hK K
    refine wpAnyIn_ready (rs := [6]) (by kernel_rfl) (by simp) ?_
    refine AllReadyIn.cons rfl (fun K hK => ?_) AllReadyIn.nil
    refine stepAppIn rfl _ _ rfl X.heap.size O on oc _ rfl oY1.out (some ⟨Y.heap.size, 0, none⟩) 1 1 (Y.heap.size + 1) [(t.2.1 : Int)] rfl (by simpa using (one_seg9 Y (t.2.1 : Int)).drew) (by omega) (by omega) (by omega) (by simp; omega) ?_
    intro O' oc' w2 oY2 hg hat
    obtain ⟨r2, F⟩ := HSTEP.out w2 O' oc' oY2 hg hat
    have y0 : w2.cell? ⟨w1.heap.size + 1, 0, none⟩ = some (.slice O on oc) := r2.cell 0
    have y1 : w2.frozen? ⟨w1.heap.size + 1, 0, none⟩ = false := r2.free 0
    have HF := hid F
    clear F oY2 hg hat r2
    refine hK _ _ ?_
    clear hK K
    refine wpAnyIn_ready (rs := [7]) (by kernel_rfl) (by simp) ?_
    refine AllReadyIn.cons rfl (fun K hK => ?_) AllReadyIn.nil
    go_simp
    refine hK _ _ ?_
    clear hK K
    refine wpAnyIn_done (by kernel_rfl) ?_ _
    gi_wp2
    first | exact HF.out | (simpa using HF.out)
   ·go_simp
    refine hK _ _ ?_
    clear hK K
    refine wpAnyIn_ready (rs := [0, 3]) (by kernel_rfl) (by simp) ?_
    refine AllReadyIn.cons rfl (fun K hK => ?_) (AllReadyIn.cons rfl (fun K hK => ?_) AllReadyIn.nil)
    ·go_simp
     refine hK _ _ ?_
     clear hK K
     refine wpAnyIn_ready (rs := [3]) (by kernel_rfl) (by simp) ?_
     refine AllReadyIn.cons rfl (fun K hK => ?_) AllReadyIn.nil
     go_simp
     refine hK _ _ ?_
     clear hK K
     refine wpAnyIn_ready (rs := [4]) (by kernel_rfl) (by simp) ?_
     refine AllReadyIn.cons rfl (fun K hK => ?_) AllReadyIn.nil
     go_simp
     refine hK _ _ ?_
     clear hK K
     refine wpAnyIn_ready (rs := [5]) (by kernel_rfl) (by simp) ?_
     refine AllReadyIn.cons rfl (fun K hK => ?_) AllReadyIn.nil
     go_simp
     refine hK _ _ ?_
     clear hK K
     refine wpAnyIn_ready (rs := [6]) (by kernel_rfl) (by simp) ?_
     refine AllReadyIn.cons rfl (fun K hK => ?_) AllReadyIn.nil
     refine stepAppIn rfl _ _ rfl X.heap.size O on oc _ rfl oY1.out (some ⟨Y.heap.size, 0, none⟩) 1 1 (Y.heap.size + 1) [(t.2.1 : Int)] rfl (by simpa using (one_seg9 Y (t.2.1 : Int)).drew) (by omega) (by omega) (by omega) (by simp; omega) ?_
     intro O' oc' w2 oY2 hg hat
     obtain ⟨r2, F⟩ := HSTEP.out w2 O' oc' oY2 hg hat
     have y0 : w2.cell? ⟨w1.heap.size + 1, 0, none⟩ = some (.slice O on oc) := r2.cell 0
     have y1 : w2.frozen? ⟨w1.heap.size + 1, 0, none⟩ = false := r2.free 0
     have HF := hid F
     clear F oY2 hg hat r2
     refine hK _ _ ?_
     clear hK K
     refine wpAnyIn_ready (rs := [7]) (by kernel_rfl) (by simp) ?_
     refine AllReadyIn.cons rfl (fun K hK => ?_) AllReadyIn.nil
     go_simp
     refine hK _ _ ?_
     clear hK K
     refine wpAnyIn_done (by kernel_rfl) ?_ _
     gi_wp2
     first | exact HF.out | (simpa using HF.out)
    ·go_simp
     refine hK _ _ ?_
     clear hK K
     refine wpAnyIn_ready (rs := [0, 4]) (by kernel_rfl) (by simp) ?_
     refine AllReadyIn.cons rfl (fun K hK => ?_) (AllReadyIn.cons rfl (fun K hK => ?_) AllReadyIn.nil)
     ·go_simp
      refine hK _ _ ?_
      clear hK K
      refine wpAnyIn_ready (rs := [4]) (by kernel_rfl) (by simp) ?_
      refine AllReadyIn.cons rfl (fun K hK => ?_) AllReadyIn.nil
      go_simp
      refine hK _ _ ?_
      clear hK K
      refine wpAnyIn_ready (rs := [5]) (by kernel_rfl) (by simp) ?_
      refine AllReadyIn.cons rfl (fun K hK => ?_) AllReadyIn.nil
      go_simp
      refine hK _ _ ?_
      clear hK K
      refine wpAnyIn_ready (rs := [6]) (by kernel_rfl) (by simp) ?_
      refine AllReadyIn.cons rfl (fun K hK => ?_) AllReadyIn.nil
      refine stepAppIn rfl _ _ rfl X.heap.size O on oc _ rfl oY1.out (some ⟨Y.heap.size, 0, none⟩) 1 1 (Y.heap.size + 1) [(t.2.1 : Int)] rfl (by simpa using (one_seg9 Y (t.2.1 : Int)).drew) (by omega) (by omega) (by omega) (by simp; omega) ?_
      intro O' oc' w2 oY2 hg hat
      obtain ⟨r2, F⟩ := HSTEP.out w2 O' oc' oY2 hg hat
      have y0 : w2.cell? ⟨w1.heap.size + 1, 0, none⟩ = some (.slice O on oc) := r2.cell 0
      have y1 : w2.frozen? ⟨w1.heap.size + 1, 0, none⟩ = false := r2.free 0
      have HF := hid F
      clear F oY2 hg hat r2
      refine hK _ _ ?_
      clear hK K
      refine wpAnyIn_ready (rs := [7]) (by kernel_rfl) (by simp) ?_
      refine AllReadyIn.cons rfl (fun K hK => ?_) AllReadyIn.nil
      go_simp
      refine hK _ _ ?_
      clear hK K
      refine wpAnyIn_done (by kernel_rfl) ?_ _
      gi_wp2
      first | exact HF.out | (simpa using HF.out)
     ·go_simp
      refine hK _ _ ?_
      clear hK K
      refine wpAnyIn_ready (rs := [0, 5]) (by kernel_rfl) (by simp) ?_
      refine AllReadyIn.cons rfl (fun K hK => ?_) (AllReadyIn.cons rfl (fun K hK => ?_) AllReadyIn.nil)
      ·go_simp
       refine hK _ _ ?_
       clear hK K
       refine wpAnyIn_ready (rs := [5]) (by kernel_rfl) (by simp) ?_
       refine AllReadyIn.cons rfl (fun K hK => ?_) AllReadyIn.nil
       go_simp
       refine hK _ _ ?_
       clear hK K
       refine wpAnyIn_ready (rs := [6]) (by kernel_rfl) (by simp) ?_
       refine AllReadyIn.cons rfl (fun K hK => ?_) AllReadyIn.nil
       refine stepAppIn rfl _ _ rfl X.heap.size O on oc _ rfl oY1.out (some ⟨Y.heap.size, 0, none⟩) 1 1 (Y.heap.size + 1) [(t.2.1 : Int)] rfl (by simpa using (one_seg9 Y (t.2.1 : Int)).drew) (by omega) (by omega) (by omega) (by simp; omega) ?_
       intro O' oc' w2 oY2 hg hat
       obtain ⟨r2, F⟩ := HSTEP.out w2 O' oc' oY2 hg hat
       have y0 : w2.cell? ⟨w1.heap.size + 1, 0, none⟩ = some (.slice O on oc) := r2.cell 0
       have y1 : w2.frozen? ⟨w1.heap.size + 1, 0, none⟩ = false := r2.free 0
       have HF := hid F
       clear F oY2 hg hat r2
       refine hK _ _ ?_
       clear hK K
       refine wpAnyIn_ready (rs := [7]) (by kernel_rfl) (by simp) ?_
       refine AllReadyIn.cons rfl (fun K hK => ?_) AllReadyIn.nil
       go_simp
       refine hK _ _ ?_
       clear hK K
       refine wpAnyIn_done (by kernel_rfl) ?_ _
       gi_wp2
       first | exact HF.out | (simpa using HF.out)
      ·go_simp
       refine hK _ _ ?_
       clear hK K
       refine wpAnyIn_ready (rs := [0]) (by kernel_rfl) (by simp) ?_
       refine AllReadyIn.cons rfl (fun K hK => ?_) AllReadyIn.nil
       go_simp
       refine hK _ _ ?_
       clear hK K
       refine wpAnyIn_ready (rs := [6]) (by kernel_rfl) (by simp) ?_
       refine AllReadyIn.cons rfl (fun K hK => ?_) AllReadyIn.nil
       refine stepAppIn rfl _ _ rfl X.heap.size O on oc _ rfl oY1.out (some ⟨Y.heap.size, 0, none⟩) 1 1 (Y.heap.size + 1) [(t.2.1 : Int)] rfl (by simpa using (one_seg9 Y (t.2.1 : Int)).drew) (by omega) (by omega) (by omega) (by simp; omega) ?_
       intro O' oc' w2 oY2 hg hat
       obtain ⟨r2, F⟩ := HSTEP.out w2 O' oc' oY2 hg hat
       have y0 : w2.cell? ⟨w1.heap.size + 1, 0, none⟩ = some (.slice O on oc) := r2.cell 0
       have y1 : w2.frozen? ⟨w1.heap.size + 1, 0, none⟩ = false := r2.free 0
       have HF := hid F
       clear F oY2 hg hat r2
       refine hK _ _ ?_
       clear hK K
       refine wpAnyIn_ready (rs := [7]) (by kernel_rfl) (by simp) ?_
       refine AllReadyIn.cons rfl (fun K hK => ?_) AllReadyIn.nil
       go_simp
       refine hK _ _ ?_
       clear hK K
       refine wpAnyIn_done (by kernel_rfl) ?_ _
       gi_wp2
       first | exact HF.out | (simpa using HF.out)
 case done =>
  rintro D Y hD ⟨O, on, oc, rP, oP, bP⟩ hd
  have hDw : w.heap.size ≤ D := by omega
  have K0 : Y.cell? ⟨w1.heap.size + 1, 0, none⟩ = some (.slice O on oc) := rP.cell 0
  have hgP := grownBy_putObj' Y D (.deferred none)
  have hrP : ∀ r, some D = some r → ∃ o : Obj, Y.heap[r]? = some o ∧ o.isCells = false := fun r e => by cases e; exact ⟨_, hd, rfl⟩
  rw [HH.out.2.2.2] at oP
  have F := hid (show AnsList w (ovI d.1 d.2 x y) (.returned (.slice O on oc)) (Y.putObj D (.deferred none)) from ⟨O, on, oc, rfl, own_lower9 (own_turn oP hgP hrP) hX3, bP.grown hgP bP.size (fun k e => by cases e; exact hDw)⟩)
  clear rP oP bP hgP hrP
  gi_wp2
  refine ⟨by simp, .inl ⟨_, _, rfl, run_takeDeferred hd, ?_⟩⟩
  exact ⟨.slice O on oc, by simp [results, Try.results10, go_sem], F.out⟩
end iter
end
section
namespace ovX
open Go.RowKit base sig marks app sym segs shape kindsR varsOf ruleMath ruleSpec trySpec overSpec iter
theorem list_seg9 {w w' : World} {L : List Int} {e : Ending} (h : AnsList w L e w') : AnsSeg w L e w' := by
 obtain ⟨A, n, c, rfl, o, hb⟩ := h
 exact ⟨A, n, c, rfl, marks.Own.seg o, hb⟩
theorem ovi_len {sg : List Int} {rs : List Rl} {x y : Int} : (ovI sg rs x y).length ≤ 1048576 := Nat.le_trans (ovI_len x y) (by omega)
theorem specOverlapsX (a v : Value) (d : Dat sSystem) (x y : Int) (w : World) (h : Rd w w.heap.size sSystem [a, v] d) (hz : sz sSystem d ≤ 1048576) (_ : -9223372036854775808 ≤ x) (_ : x ≤ 9223372036854775807) (_ : -9223372036854775808 ≤ y) (_ : y ≤ 9223372036854775807) :
  Calls Try.prog 8 #[.agg #[a, v], .int .i64 x, .int .i64 y] w (AnsSeg w (ovI d.1 d.2 x y)) := (specOverlaps a v d x y w h hz).mono fun _ _ => list_seg9
theorem implOverlapsX (a v : Value) (d : Dat sSystem) (x y : Int) (w : World) (h : Rd w w.heap.size sSystem [a, v] d) (hz : sz sSystem d ≤ 1048576) (_ : -9223372036854775808 ≤ x) (_ : x ≤ 9223372036854775807) (_ : -9223372036854775808 ≤ y) (_ : y ≤ 9223372036854775807) :
  Calls Try.prog 10 #[.agg #[a, v], .int .i64 x, .int .i64 y] w (AnsList w (ovI d.1 d.2 x y)) := implOverlaps a v d x y w h hz
end ovX
end
section
open Go.Lib (hid)
namespace wOverlapsIn
open Go.RowKit base ints sig cursor marks app sym appAt segs segsHelp segsMark kinds shape varsOf kindsR ruleMath ruleSpec trySpec overSpec ovX
set_option maxRecDepth 100000
set_option maxHeartbeats 8000000 in
theorem law (v0_0 v0_1 : Value) (d0 : Dat sSystem) (x1 : Int) (x2 : Int) (w : World) (s0 : Rd w w.heap.size sSystem [v0_0, v0_1] d0) (b1 : (Lit.int .i64 x1).wf = true) (b2 : (Lit.int .i64 x2).wf = true) :
  Calls Try.prog 3 #[.agg #[v0_0, v0_1], .int .i64 x1, .int .i64 x2] w (Fine w) := by
 have bd1 : -9223372036854775808 ≤ x1 ∧ x1 ≤ 9223372036854775807 := by simpa [Lit.wf, IntKind.min, IntKind.max, IntKind.signed, IntKind.bits] using b1
 obtain ⟨bl1, bh1⟩ := bd1
 clear b1
 have bd2 : -9223372036854775808 ≤ x2 ∧ x2 ≤ 9223372036854775807 := by simpa [Lit.wf, IntKind.min, IntKind.max, IntKind.signed, IntKind.bits] using b2
 obtain ⟨bl2, bh2⟩ := bd2
 clear b2
 obtain ⟨W, hW⟩ : ∃ W, W = w.alloc (.cells #[v0_0, v0_1] 27) := ⟨_, rfl⟩
 have rA0 : Row W (w.heap.size) 27 #[v0_0, v0_1] := by rw [hW]; have := Row.new (w) 27 #[v0_0, v0_1]; simpa using this
 have bW : Below w.heap.size w W := by rw [hW]; exact (Below.refl w.heap.size w).alloc (by simp) (.cells #[v0_0, v0_1] 27)
 have zA0 := rA0.lt
 replace s0 := s0.next bW
 have HW := hid hW
 clear hW
 obtain ⟨t0, ht0⟩ : ∃ z, sz sSystem d0 = z := ⟨_, rfl⟩
 have HT0 := hid ht0
 clear ht0
 go_enter Try.func3, Try.ntmps3
 go_wp2_with fail
 rw [← HW.out]
 clear HW
 have bel := Below.refl W.heap.size W
 have cA0_0 : W.cell? ⟨w.heap.size, 0, none⟩ = some (v0_0) := (rA0.next bel).cell 0
 have cA0_1 : W.cell? ⟨w.heap.size, 1, none⟩ = some (v0_1) := (rA0.next bel).cell 1
 refine (szK_System _ _ d0 (1048576) _ (s0.next bel) (by omega) (by omega)).mono ?_
 rintro e w1 ⟨he, bb⟩
 rw [HT0.out] at he
 replace bel := next_trans bel bb
 have zw1 := bb.size
 clear bb
 by_cases q0 : t0 ≤ 1048576
 case neg =>
  rw [if_pos (by omega)] at he
  subst he
  have F := hid (bW.trans (bel.mono bW.size))
  clear bel bW cA0_0 cA0_1
  go_wp2
  go_ret
  exact ⟨rfl, F.out⟩
 rw [if_neg (by omega)] at he
 subst he
 have h0 : Hid (sz sSystem d0 ≤ 1048576) := hid (by rw [HT0.out]; omega)
 clear cA0_0 cA0_1
 have cA0_0 : w1.cell? ⟨w.heap.size, 0, none⟩ = some (v0_0) := (rA0.next bel).cell 0
 have cA0_1 : w1.cell? ⟨w.heap.size, 1, none⟩ = some (v0_1) := (rA0.next bel).cell 1
 have hlen : (ovI d0.1 d0.2 x1 x2).length ≤ 1048576 := ovi_len
 obtain ⟨ys, hys⟩ : ∃ ys, ovI d0.1 d0.2 x1 x2 = ys := ⟨_, rfl⟩
 rw [hys] at hlen
 have HY := hid hys
 clear hys
 replace hlen := hid hlen
 obtain ⟨k0, hk0⟩ : ∃ z, cntv sSystem d0 = z := ⟨_, rfl⟩
 have hK0 : k0 ≤ 3 * 1048576 := by have j1 := cntv_le sSystem d0; have j2 := h0.out; have j3 : wd sSystem = 3 := rfl; rw [hk0, j3] at j1; omega
 have HK0 := hid hk0
 clear hk0
 go_wp2_with fail
 refine (toK_System _ _ d0 _ (s0.next bel) h0.out).mono ?_
 rintro e w2 ⟨p0A0, p0n0, p0c0, p0A1, p0n1, p0c1, rfl, op0, bb⟩
 replace bel := next_trans bel bb
 have zw2 := bb.size
 clear bb
 clear cA0_0 cA0_1
 have cA0_0 : w2.cell? ⟨w.heap.size, 0, none⟩ = some (v0_0) := (rA0.next bel).cell 0
 have cA0_1 : w2.cell? ⟨w.heap.size, 1, none⟩ = some (v0_1) := (rA0.next bel).cell 1
 go_wp2_with fail
 refine (specOverlapsX _ _ d0 x1 x2 _ op0.rd h0.out bl1 bh1 bl2 bh2).mono ?_
 rintro e w3 ⟨wA, wn, wc, he, o0, bb⟩
 rw [HY.out] at o0
 subst he
 replace op0 := op0.next bb
 replace bel := next_trans bel bb
 have zw3 := bb.size
 clear bb
 have sw := o0
 clear o0
 clear op0
 clear cA0_0 cA0_1
 have cA0_0 : w3.cell? ⟨w.heap.size, 0, none⟩ = some (v0_0) := (rA0.next bel).cell 0
 have cA0_1 : w3.cell? ⟨w.heap.size, 1, none⟩ = some (v0_1) := (rA0.next bel).cell 1
 have belw := Below.refl w3.heap.size w3
 clear cA0_0 cA0_1
 have cA0_0 : w3.cell? ⟨w.heap.size, 0, none⟩ = some (v0_0) := (rA0.next bel).cell 0
 have cA0_1 : w3.cell? ⟨w.heap.size, 1, none⟩ = some (v0_1) := (rA0.next bel).cell 1
 go_wp2_with fail
 refine (toK_System _ _ d0 _ (s0.next bel) h0.out).mono ?_
 rintro e w4 ⟨x0A0, x0n0, x0c0, x0A1, x0n1, x0c1, rfl, ox0, bb⟩
 replace bel := next_trans bel bb
 replace belw := next_trans belw bb
 have zw4 := bb.size
 clear bb
 clear cA0_0 cA0_1
 have cA0_0 : w4.cell? ⟨w.heap.size, 0, none⟩ = some (v0_0) := (rA0.next bel).cell 0
 have cA0_1 : w4.cell? ⟨w.heap.size, 1, none⟩ = some (v0_1) := (rA0.next bel).cell 1
 have dA0_0 : (w4.alloc (.cells #[.slice x0A0 x0n0 x0c0, .slice x0A1 x0n1 x0c1] 33)).cell? ⟨w.heap.size, 0, none⟩ = some (v0_0) := ((rA0.next bel).alloc _).cell 0
 have dA0_1 : (w4.alloc (.cells #[.slice x0A0 x0n0 x0c0, .slice x0A1 x0n1 x0c1] 33)).cell? ⟨w.heap.size, 1, none⟩ = some (v0_1) := ((rA0.next bel).alloc _).cell 1
 go_wp2_with fail
 obtain ⟨w5, hw⟩ : ∃ W, W = w4.alloc (.cells #[.slice x0A0 x0n0 x0c0, .slice x0A1 x0n1 x0c1] 33) := ⟨_, rfl⟩
 rw [← hw]
 have rx0 : Row w5 w4.heap.size 33 #[.slice x0A0 x0n0 x0c0, .slice x0A1 x0n1 x0c1] := by rw [hw]; exact Row.new _ _ _
 have bb : Below w4.heap.size w4 w5 := by rw [hw]; exact (Below.refl _ _).alloc (Nat.le_refl _) _
 have yrx0 : w4.heap.size < w5.heap.size := by rw [hw]; simp
 clear hw
 replace ox0 := ox0.next bb
 replace bel := next_trans bel bb
 replace belw := next_trans belw bb
 have zw5 := bb.size
 clear bb
 clear dA0_0 dA0_1
 clear cA0_0 cA0_1
 have cA0_0 : w5.cell? ⟨w.heap.size, 0, none⟩ = some (v0_0) := (rA0.next bel).cell 0
 have cA0_1 : w5.cell? ⟨w.heap.size, 1, none⟩ = some (v0_1) := (rA0.next bel).cell 1
 have cx0_0 : w5.cell? ⟨w4.heap.size, 0, none⟩ = some (.slice x0A0 x0n0 x0c0) := (rx0).cell 0
 have cx0_1 : w5.cell? ⟨w4.heap.size, 1, none⟩ = some (.slice x0A1 x0n1 x0c1) := (rx0).cell 1
 refine (implOverlapsX _ _ d0 x1 x2 _ ox0.rd h0.out bl1 bh1 bl2 bh2).mono ?_
 rintro e w6 ⟨gA, gn, gc, he, o0, bb⟩
 rw [HY.out] at o0
 subst he
 replace ox0 := ox0.next bb
 replace rx0 := rx0.next bb
 replace bel := next_trans bel bb
 replace belw := next_trans belw bb
 have zw6 := bb.size
 clear bb
 have og := Ownd.of_own o0
 clear o0
 clear cA0_0 cA0_1 cx0_0 cx0_1
 have cA0_0 : w6.cell? ⟨w.heap.size, 0, none⟩ = some (v0_0) := (rA0.next bel).cell 0
 have cA0_1 : w6.cell? ⟨w.heap.size, 1, none⟩ = some (v0_1) := (rA0.next bel).cell 1
 have cx0_0 : w6.cell? ⟨w4.heap.size, 0, none⟩ = some (.slice x0A0 x0n0 x0c0) := (rx0).cell 0
 have cx0_1 : w6.cell? ⟨w4.heap.size, 1, none⟩ = some (.slice x0A1 x0n1 x0c1) := (rx0).cell 1
 have hlenn : gn ≤ 1048576 := by rw [← og.rd.1]; exact hlen.out
 go_wp2_with fail
 refine (intsEq _ _ _ _ _ _ ys _ og.rd (sw.next belw) hlenn).mono ?_
 rintro e w7 ⟨rfl, bb⟩
 replace ox0 := ox0.next bb
 replace rx0 := rx0.next bb
 replace og := og.next bb
 replace bel := next_trans bel bb
 replace belw := next_trans belw bb
 have zw7 := bb.size
 clear bb
 clear cA0_0 cA0_1 cx0_0 cx0_1
 have cA0_0 : w7.cell? ⟨w.heap.size, 0, none⟩ = some (v0_0) := (rA0.next bel).cell 0
 have cA0_1 : w7.cell? ⟨w.heap.size, 1, none⟩ = some (v0_1) := (rA0.next bel).cell 1
 have cx0_0 : w7.cell? ⟨w4.heap.size, 0, none⟩ = some (.slice x0A0 x0n0 x0c0) := (rx0).cell 0
 have cx0_1 : w7.cell? ⟨w4.heap.size, 1, none⟩ = some (.slice x0A1 x0n1 x0c1) := (rx0).cell 1
 go_wp2_with fail
 replace ox0 := ox0.drew
 replace rx0 := rx0.drew
 replace og := og.drew
 replace bel := bel.drew
 replace belw := belw.drew
 have zdw7 := (drew_below w7).size
 go_region_held3 (fun w' => w'.cell? ⟨w4.heap.size, 0, none⟩ = some (.slice x0A0 x0n0 x0c0) ∧ w'.cell? ⟨w4.heap.size, 1, none⟩ = some (.slice x0A1 x0n1 x0c1) ∧ w'.cell? ⟨w.heap.size, 0, none⟩ = some (v0_0) ∧ w'.cell? ⟨w.heap.size, 1, none⟩ = some (v0_1))
  (go_keep)
  (first
   | (go_at_call 9; refine (toK_System _ _ d0 _ (s0.next bel) h0.out).mono ?_; rintro e w8 ⟨t0A0, t0n0, t0c0, t0A1, t0n1, t0c1, rfl, ot, bb⟩; replace ox0 := ox0.next bb; replace rx0 := rx0.next bb; replace og := og.next bb; replace bel := next_trans bel bb; replace belw := next_trans belw bb; have k0_0w8 : w8.cell? ⟨w.heap.size, 0, none⟩ = some (v0_0) := (rA0.next bel).cell 0; have k0_1w8 : w8.cell? ⟨w.heap.size, 1, none⟩ = some (v0_1) := (rA0.next bel).cell 1; have l0_0w8 : w8.cell? ⟨w4.heap.size, 0, none⟩ = some (.slice x0A0 x0n0 x0c0) := rx0.cell 0; have l0_1w8 : w8.cell? ⟨w4.heap.size, 1, none⟩ = some (.slice x0A1 x0n1 x0c1) := rx0.cell 1; have zqw8 := bb.size; clear bb)
   | (go_at_call 12; refine (eqK_System _ _ _ _ d0 _ ox0.rd ot.rd h0.out).mono ?_; rintro e w9 ⟨rfl, bb⟩; replace ox0 := ox0.next bb; replace rx0 := rx0.next bb; replace og := og.next bb; replace bel := next_trans bel bb; replace belw := next_trans belw bb; have k0_0w9 : w9.cell? ⟨w.heap.size, 0, none⟩ = some (v0_0) := (rA0.next bel).cell 0; have k0_1w9 : w9.cell? ⟨w.heap.size, 1, none⟩ = some (v0_1) := (rA0.next bel).cell 1; have l0_0w9 : w9.cell? ⟨w4.heap.size, 0, none⟩ = some (.slice x0A0 x0n0 x0c0) := rx0.cell 0; have l0_1w9 : w9.cell? ⟨w4.heap.size, 1, none⟩ = some (.slice x0A1 x0n1 x0c1) := rx0.cell 1; have zqw9 := bb.size; clear bb ot))
 clear k0_0w8 l0_0w8 k0_1w8 l0_1w8 k0_0w9 l0_0w9 k0_1w9 l0_1w9
 clear cA0_0 cA0_1 cx0_0 cx0_1
 have cA0_0 : w9.cell? ⟨w.heap.size, 0, none⟩ = some (v0_0) := (rA0.next bel).cell 0
 have cA0_1 : w9.cell? ⟨w.heap.size, 1, none⟩ = some (v0_1) := (rA0.next bel).cell 1
 have cx0_0 : w9.cell? ⟨w4.heap.size, 0, none⟩ = some (.slice x0A0 x0n0 x0c0) := (rx0).cell 0
 have cx0_1 : w9.cell? ⟨w4.heap.size, 1, none⟩ = some (.slice x0A1 x0n1 x0c1) := (rx0).cell 1
 obtain ⟨Fox0, fox0, nox0, box0⟩ := ox0
 go_wp2_with fail
 refine (markK_System _ _ d0 (1) Fox0 _ fox0 nox0 h0.out (by omega) (by rw [HK0.out]; omega)).mono ?_
 rintro e w10 ⟨he, omox0, onox0⟩
 rw [HK0.out] at he
 have bt := onox0.btw box0
 clear onox0
 clear omox0 fox0 nox0 box0
 subst he
 replace rx0 := Row.btw rx0 bt (by omega)
 replace og := og.btw bt (by omega)
 replace bel := Below.btw bel bt (by omega) bel.size
 replace belw := Below.btw belw bt (by omega) belw.size
 have zw10 := bt.size
 clear bt
 clear cA0_0 cA0_1 cx0_0 cx0_1
 have cA0_0 : w10.cell? ⟨w.heap.size, 0, none⟩ = some (v0_0) := (rA0.next bel).cell 0
 have cA0_1 : w10.cell? ⟨w.heap.size, 1, none⟩ = some (v0_1) := (rA0.next bel).cell 1
 have cx0_0 : w10.cell? ⟨w4.heap.size, 0, none⟩ = some (.slice x0A0 x0n0 x0c0) := (rx0).cell 0
 have cx0_1 : w10.cell? ⟨w4.heap.size, 1, none⟩ = some (.slice x0A1 x0n1 x0c1) := (rx0).cell 1
 clear rx0
 clear cA0_0 cA0_1 cx0_0 cx0_1
 have cA0_0 : w10.cell? ⟨w.heap.size, 0, none⟩ = some (v0_0) := (rA0.next bel).cell 0
 have cA0_1 : w10.cell? ⟨w.heap.size, 1, none⟩ = some (v0_1) := (rA0.next bel).cell 1
 go_wp2_with fail
 refine (intsEq _ _ _ _ _ _ ys _ og.rd (sw.next belw) hlenn).mono ?_
 rintro e w11 ⟨rfl, bb⟩
 replace og := og.next bb
 replace bel := next_trans bel bb
 replace belw := next_trans belw bb
 have zw11 := bb.size
 clear bb
 clear cA0_0 cA0_1
 have cA0_0 : w11.cell? ⟨w.heap.size, 0, none⟩ = some (v0_0) := (rA0.next bel).cell 0
 have cA0_1 : w11.cell? ⟨w.heap.size, 1, none⟩ = some (v0_1) := (rA0.next bel).cell 1
 go_wp2_with fail
 refine (intsMark (w5.heap.size) (w6.heap.size) _ _ _ ys 1 _ og hlenn (by omega) (by omega)).mono ?_
 rintro e w12 ⟨he, om, bt⟩
 subst he
 clear og
 replace bel := Below.btw bel bt (by omega) bel.size
 replace belw := Below.btw belw bt (by omega) belw.size
 have zw12 := bt.size
 clear bt
 clear cA0_0 cA0_1
 have cA0_0 : w12.cell? ⟨w.heap.size, 0, none⟩ = some (v0_0) := (rA0.next bel).cell 0
 have cA0_1 : w12.cell? ⟨w.heap.size, 1, none⟩ = some (v0_1) := (rA0.next bel).cell 1
 go_wp2_with fail
 refine (intsHeld _ _ _ 1 _ om.rd hlenn (by omega) (by omega)).mono ?_
 rintro e w13 ⟨rfl, bb⟩
 replace om := om.next bb
 replace bel := next_trans bel bb
 replace belw := next_trans belw bb
 have zw13 := bb.size
 clear bb
 clear cA0_0 cA0_1
 have cA0_0 : w13.cell? ⟨w.heap.size, 0, none⟩ = some (v0_0) := (rA0.next bel).cell 0
 have cA0_1 : w13.cell? ⟨w.heap.size, 1, none⟩ = some (v0_1) := (rA0.next bel).cell 1
 go_wp2_with fail
 refine (toK_System _ _ d0 _ (s0.next bel) h0.out).mono ?_
 rintro e w14 ⟨p0A0, p0n0, p0c0, p0A1, p0n1, p0c1, rfl, op0, bb⟩
 replace om := om.next bb
 replace bel := next_trans bel bb
 replace belw := next_trans belw bb
 have zw14 := bb.size
 clear bb
 clear cA0_0 cA0_1
 have cA0_0 : w14.cell? ⟨w.heap.size, 0, none⟩ = some (v0_0) := (rA0.next bel).cell 0
 have cA0_1 : w14.cell? ⟨w.heap.size, 1, none⟩ = some (v0_1) := (rA0.next bel).cell 1
 go_wp2_with fail
 refine (implOverlapsX _ _ d0 x1 x2 _ op0.rd h0.out bl1 bh1 bl2 bh2).mono ?_
 rintro e w15 ⟨hA, hn, hc, he, o0, bb⟩
 rw [HY.out] at o0
 subst he
 replace om := om.next bb
 replace op0 := op0.next bb
 replace bel := next_trans bel bb
 replace belw := next_trans belw bb
 have zw15 := bb.size
 clear bb
 have sh := Own.seg o0
 clear o0
 clear op0
 clear cA0_0 cA0_1
 have cA0_0 : w15.cell? ⟨w.heap.size, 0, none⟩ = some (v0_0) := (rA0.next bel).cell 0
 have cA0_1 : w15.cell? ⟨w.heap.size, 1, none⟩ = some (v0_1) := (rA0.next bel).cell 1
 have belh := Below.refl w15.heap.size w15
 clear cA0_0 cA0_1
 have cA0_0 : w15.cell? ⟨w.heap.size, 0, none⟩ = some (v0_0) := (rA0.next bel).cell 0
 have cA0_1 : w15.cell? ⟨w.heap.size, 1, none⟩ = some (v0_1) := (rA0.next bel).cell 1
 go_wp2_with fail
 refine (intsEq _ _ _ _ _ _ ys _ (sh.next belh) (sw.next belw) (by rw [← sh.1]; exact hlen.out)).mono ?_
 rintro e w16 ⟨rfl, bb⟩
 replace om := om.next bb
 replace bel := next_trans bel bb
 replace belw := next_trans belw bb
 replace belh := next_trans belh bb
 have zw16 := bb.size
 clear bb
 clear cA0_0 cA0_1
 have cA0_0 : w16.cell? ⟨w.heap.size, 0, none⟩ = some (v0_0) := (rA0.next bel).cell 0
 have cA0_1 : w16.cell? ⟨w.heap.size, 1, none⟩ = some (v0_1) := (rA0.next bel).cell 1
 go_wp2_with fail
 refine (intsHeld _ _ _ 1 _ om.rd hlenn (by omega) (by omega)).mono ?_
 rintro e w17 ⟨rfl, bb⟩
 replace om := om.next bb
 replace bel := next_trans bel bb
 replace belw := next_trans belw bb
 replace belh := next_trans belh bb
 have zw17 := bb.size
 clear bb
 clear cA0_0 cA0_1
 have cA0_0 : w17.cell? ⟨w.heap.size, 0, none⟩ = some (v0_0) := (rA0.next bel).cell 0
 have cA0_1 : w17.cell? ⟨w.heap.size, 1, none⟩ = some (v0_1) := (rA0.next bel).cell 1
 have F := hid (bW.trans (bel.mono bW.size))
 clear bel belw belh om bW cA0_0 cA0_1
 go_wp2
 go_ret
 exact ⟨rfl, F.out⟩
end wOverlapsIn
end
end Go.Proofs.Ytfmjhfodjhkmlaa
