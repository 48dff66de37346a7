/-
  MERGED: my texts IterQ, SeqImplB, ReachOfA, ReachOf, ReachImplB, ReachX, NormsImpl, Places, OrderImpl, OrderImplB, one behind the other, as they are. By an AI agent.
-/
import Derived.Test.YtifckjchmjmhoabGreatMFnLongest10
import Derived.Maps.OwnIn
import Derived.BigQuiet
namespace Go.Proofs.YtifckjchmjmhoabGreat
section
namespace iter
open Go.RowKit Go.Shelf base ints sig term termOk endAt endOf marks app sym sub segs segsHelp matchMath matchSpec whole extended termFacts shape kindsR ruleMath ruleSpec stepMath walkMath stepSpec stepImpl shifted kindsW rangeGive drawX
set_option maxRecDepth 100000
attribute [local go_sem] Oper.semAt_some
structure KB (Q : Nat → Prop) (A B : World) : Prop where
 os : B.os = A.os
 tape : B.tape = A.tape
 output : B.output = A.output
 size : A.heap.size ≤ B.heap.size
 block : ∀ k, Q k → k < A.heap.size → B.heap[k]? = A.heap[k]?
def QW (Q : Nat → Prop) (w : World) (b : Nat) : Prop := Q b ∧ b < w.heap.size
section
variable {Q Q' : Nat → Prop} {A B C : World}
theorem KB.refl (Q : Nat → Prop) (A : World) : KB Q A A := ⟨rfl, rfl, rfl, Nat.le_refl _, fun _ _ _ => rfl⟩
theorem KB.trans {A B C : World} (h : KB Q A B) (k : KB Q B C) : KB Q A C := ⟨k.os.trans h.os, k.tape.trans h.tape, k.output.trans h.output, Nat.le_trans h.size k.size, fun i h1 h2 => (k.block i h1 (Nat.lt_of_lt_of_le h2 h.size)).trans (h.block i h1 h2)⟩
theorem KB.of_below (h : Below A.heap.size A B) : KB Q A B := ⟨h.os, h.tape, h.output, h.size, fun k _ hk => h.block k hk⟩
theorem KB.row {g : Nat} {t : TypeId} {cs : Array Value} (h : KB Q A B) (hq : Q g) (r : Row A g t cs) : Row B g t cs := (h.block g hq r.lt).trans r
theorem qw_keep {s : Sh} {cs : List Value} {d : Dat s} (h : RdQ A (QW Q A) s cs d) (hk : KB Q A B) : RdQ B (QW Q B) s cs d := (h.keep fun b hb => hk.block b hb.1 hb.2).mono fun b hb => ⟨hb.1, Nat.lt_of_lt_of_le hb.2 hk.size⟩
theorem qw_rd {s : Sh} {cs : List Value} {d : Dat s} (h : RdQ A (QW Q A) s cs d) : Rd A A.heap.size s cs d := h.rd fun b hb => hb.2
theorem qw_more {s : Sh} {cs : List Value} {d : Dat s} (h : RdQ A (QW Q A) s cs d) (hq : ∀ b, Q b → Q' b) : RdQ A (QW Q' A) s cs d := h.mono fun b hb => ⟨hq b hb.1, hb.2⟩
theorem KB.turn {l : Nat} {o o' : Obj} (hl : ¬ Q l) (h : A.heap[l]? = some o) : KB Q A (A.putObj l o') := by
 have g := grownBy_putObj' A l o'
 exact ⟨g.os, g.tape, g.output, g.size, fun k hk h1 => g.block k h1 (fun e => by injection e with e; exact hl (by rw [← e]; exact hk))⟩
end
set_option maxHeartbeats 4000000 in
theorem redexes_stopsQ (n : Nat) (hn : 1 ≤ n) (B2 B3 : Nat) (Q : Nat → Prop) (a v u : Value) (d : Dat sSystem) (t : List Int) (w : World) (hq2 : Q B2) (hq3 : Q B3) (r2 : Row w B2 60 #[a, v]) (r3 : Row w B3 24 #[u])
   (h : RdQ w (QW Q w) sSystem [a, v] d) (ht : RdQ w (QW Q w) sI [u] t) (hz : sz sSystem d ≤ 1048576) (hok : rightB d.1 d.2 t = true) :
   SeqPre n Tryz.prog 99 #[.pointer (some ⟨B3, 0, none⟩), .pointer (some ⟨B2, 0, none⟩)] (fun x : Nat × Nat => #[Value.int .i64 (x.1 : Int), .int .i64 (x.2 : Int)]) (KB Q) (redL d.1 d.2 t) w := fun l J Jx W hW hJ hJx hY h0 => by
 replace r2 := r2.next hW
 replace r3 := r3.next hW
 replace h := qw_keep h (KB.of_below hW)
 replace ht := qw_keep ht (KB.of_below hW)
 obtain ⟨A, m0, cs, V, q, cv, rfl, rfl, -, -, -, hq, -, hq1, -, -, -⟩ := rd_sys (qw_rd h) hz
 obtain ⟨T, m, c, rfl, hT, hcT⟩ := rd_ints.1 (qw_rd ht)
 have htl : t.length = m := hT.1
 have hm60 : m ≤ 60 := by have := (term_len (right_parts hok).2).2; omega
 have hmx : m ≤ 1048576 := by omega
 have K3 : W.cell? ⟨B3, 0, none⟩ = some (.slice T m c) := r3.cell 0
 have HQ := Lib.hid hq
 have HTL := Lib.hid htl
 have LM := Lib.hid (fun (w1 : World) (bb : KB Q W w1) (x k : Nat) hx hk => matchAt _ _ _ d t x k w1 (qw_rd (qw_keep h bb)) (qw_rd (qw_keep ht bb)) hz hok hx hk)
 have HJ := Lib.hid hJ
 have HOK := Lib.hid (show (∀ k, k < d.2.length → ruleOkB d.1 (d.2.getD k ([], [])) = true) ∧ termOkB d.1 t = true from ⟨fun k hk => sys_rule (right_parts hok).1 hk, (right_parts hok).2⟩)
 have HR2 := Lib.hid r2
 have HR3 := Lib.hid r3
 clear hT hcT h ht hz hok hq htl hW r2 r3
 refine callsIn_of_wp Tryz.func99 rfl trivial ?_ rfl
 simp only [Tryz.ntmps99, List.size_toArray, List.length_cons, List.length_nil, Nat.reduceAdd, Nat.reduceSub, Array.replicate_succ, Array.replicate_zero, List.push_toArray, List.append_toArray, List.nil_append, List.cons_append]
 gi_wp2
 gi_loopw [10] (fun i wr => ∃ x : Nat, x ≤ m ∧ i = .int .i64 x ∧ J (comeL d.1 d.2 t x) wr ∧ KB Q W wr) (fun i _ => m - (intOf i).toNat)
 case atStart => exact ⟨0, Nat.zero_le _, rfl, h0, KB.refl _ _⟩
 case round =>
   obtain ⟨x, hx, rfl, hJx0, hB⟩ := hrel
   by_cases hlt : x < m
   · have K2 : wr.cell? ⟨B2, 1, none⟩ = some (.slice V q cv) := (hB.row hq2 HR2.out).cell 1
     have hxm : (x : Int) < (m : Int) := by omega
     gi_wp2
     gi_loopw [16] (fun i wq => ∃ k : Nat, k ≤ q ∧ i = .int .i64 k ∧ J (comeL d.1 d.2 t x ++ rowL d.1 d.2 t x k) wq ∧ KB Q W wq) (fun i _ => q - (intOf i).toNat)
     case atStart => exact ⟨0, Nat.zero_le _, rfl, by simpa [rowL] using hJx0, hB⟩
     case round =>
       obtain ⟨k, hk, rfl, hJk, hBk⟩ := hrel
       have K20 : wr.cell? ⟨B2, 0, none⟩ = some (.slice A m0 cs) := (hBk.row hq2 HR2.out).cell 0
       have K21 : wr.cell? ⟨B2, 1, none⟩ = some (.slice V q cv) := (hBk.row hq2 HR2.out).cell 1
       have K30 : wr.cell? ⟨B3, 0, none⟩ = some (.slice T m c) := (hBk.row hq3 HR3.out).cell 0
       by_cases hkq : k < q
       · have hkm : (k : Int) < (q : Int) := by omega
         have hxl : x < t.length := by rw [HTL.out]; exact hlt
         have hkl : k < d.2.length := by rw [HQ.out]; exact hkq
         have LM1 := Lib.hid (LM.out wr hBk x k hxl hkl)
         have HRED := Lib.hid (red_at (sg := d.1) (t := t) (a := x) (HOK.out.1 k hkl) HOK.out.2 hxl)
         obtain ⟨R, hR⟩ : ∃ R, mst d.1 t (d.2.getD k ([], [])).1 x s0 = R := ⟨_, rfl⟩
         rw [hR] at LM1 HRED
         clear hR
         have HJK := Lib.hid hJk
         have HBK := Lib.hid hBk
         clear hJk hBk
         gi_wp2_with (refine ⟨trivial, ?_⟩; gi_at_call 100; refine (callsIn_wide.2 LM1.out).mono ?_; rintro e w3 ⟨rs, rfl, tab, hsz, bb⟩; refine (?_ : Hid _).out)
         have one := Lib.hid tab.one
         have h24 := Lib.hid tab.1
         obtain ⟨bo, hbo⟩ : ∃ bo, R.isSome = bo := ⟨_, rfl⟩
         rw [hbo] at HRED ⊢
         have b2 : Below wr.heap.size wr (w3.alloc (.cells rs 158)) := bb.alloc bb.size _
         have hJ3 := HJ.out _ wr (w3.alloc (.cells rs 158)) none HJK.out (cursor.grown_below b2 none) (fun r e => by cases e)
         have hBn : KB Q W (w3.alloc (.cells rs 158)) := HBK.out.trans (KB.of_below b2)
         have hfull : comeL d.1 d.2 t x ++ rowL d.1 d.2 t x (k + 1) <+: redL d.1 d.2 t := part_pre hxl hkl
         clear tab hsz bb hbo LM1 b2 K20 K21 K30
         cases bo with
         | false =>
           have F := Lib.hid (show J (comeL d.1 d.2 t x ++ rowL d.1 d.2 t x (k + 1)) (w3.alloc (.cells rs 158)) ∧ KB Q W (w3.alloc (.cells rs 158)) from ⟨by rw [row_no HRED.out.symm]; exact hJ3, hBn⟩)
           clear hJ3 hBn hfull
           refine Lib.hid ?_
           gi_wp2_with (first
             | (refine rowAllocIn rfl 158 rfl z24 zero_b ?_)
             | (refine rowStoreIn rfl 158 _ _ rfl w3.heap.size rs z24 158 rfl rfl (heap_alloc_new w3 _) (by rw [h24.out]; exact size_b) (by rw [h24.out]; rfl) one.out ?_; rw [World.setRow_alloc_new]))
           refine ⟨fun _ h => (by cases h), ?_⟩
           gi_wp2
           go_roundw
           case rel => exact ⟨k + 1, by omega, by simp, F.out.1, F.out.2⟩
           case measure => simp [intOf]; omega
         | true =>
           have hyes := row_yes (rs := d.2) (x := x) (k := k) HRED.out.symm
           rw [hyes, ← List.append_assoc] at hfull
           obtain ⟨fn, tmps, assign, body, hy, hR⟩ := hY _ (x, k) _ hJ3 hfull
           dsimp only at hy
           have HYES := Lib.hid hyes
           have HF := Lib.hid hfull
           clear hJ3 hyes hfull hY
           refine Lib.hid ?_
           gi_wp2_with (first
             | (refine rowAllocIn rfl 158 rfl z24 zero_b ?_)
             | (refine rowStoreIn rfl 158 _ _ rfl w3.heap.size rs z24 158 rfl rfl (heap_alloc_new w3 _) (by rw [h24.out]; exact size_b) (by rw [h24.out]; rfl) one.out ?_; rw [World.setRow_alloc_new]))
           refine hR.mono ?_
           rintro e W3 (⟨rfl, hJ4, hk4⟩ | ⟨rfl, hJx4⟩)
           · have F := Lib.hid (show J (comeL d.1 d.2 t x ++ rowL d.1 d.2 t x (k + 1)) W3 ∧ KB Q W W3 from ⟨by rw [HYES.out, ← List.append_assoc]; exact hJ4, hBn.trans hk4⟩)
             clear hJ4 hk4 hBn
             gi_wp2
             go_roundw
             case rel => exact ⟨k + 1, by omega, by simp, F.out.1, F.out.2⟩
             case measure => simp [intOf]; omega
           · gi_wp2
             refine bodyPost_ret (results_none rfl _ _ _) rfl ?_
             exact ⟨⟨_, rfl⟩, .inr ⟨_, ⟨by simp, HF.out⟩, hJx4⟩⟩
       · obtain rfl : k = q := by omega
         gi_wp2
         go_roundw
         case rel => exact ⟨x + 1, by omega, by simp, by rw [come_succ, HQ.out]; exact hJk, hBk⟩
         case measure => simp [intOf]; omega
   · obtain rfl : x = m := by omega
     gi_wp2
     go_end0
     exact ⟨⟨_, rfl⟩, .inl ⟨_, by unfold redL; rw [HTL.out], hJx0⟩⟩
def KpsQ (Q : Nat → Prop) (m q : Nat) (A B : World) : Prop := KB Q A B ∧ KeepsFrom m A B ∧ ∀ k, m ≤ k → k < q → B.heap[k]? = A.heap[k]?
theorem KpsQ.trans {Q : Nat → Prop} {m q : Nat} {A B C : World} (h : KpsQ Q m q A B) (k : KpsQ Q m q B C) : KpsQ Q m q A C := ⟨h.1.trans k.1, h.2.1.trans k.2.1, fun i h1 h2 => (k.2.2 i h1 h2).trans (h.2.2 i h1 h2)⟩
theorem KpsQ.mono {Q : Nat → Prop} {m m' q : Nat} {A B : World} (h : KpsQ Q m q A B) (hm : m ≤ m') : KpsQ Q m' q A B := ⟨h.1, ⟨h.2.1.size, fun k o hk => h.2.1.same k o (Nat.le_trans hm hk)⟩, fun k h1 h2 => h.2.2 k (Nat.le_trans hm h1) h2⟩
theorem KpsQ.of_below {Q : Nat → Prop} {m q : Nat} {A B : World} (h : Below A.heap.size A B) (h2 : q ≤ A.heap.size) : KpsQ Q m q A B := ⟨KB.of_below h, KeepsFrom.of_grownBy (row := none) ⟨h.os, h.tape, h.output, h.size, fun i hi _ => h.block i hi⟩ (fun j e => by cases e), fun k _ hk => h.block k (by omega)⟩
theorem KpsQ.refl (Q : Nat → Prop) (m q : Nat) (A : World) : KpsQ Q m q A A := ⟨KB.refl _ _, KeepsFrom.refl _ _, fun _ _ _ => rfl⟩
theorem kpsq_turn {Q₀ : Nat → Prop} {m q l : Nat} {W : World} {o o' : Obj} (h1 : ¬ Q₀ l) (h2 : l < m) (hl : W.heap[l]? = some o) : KpsQ Q₀ m q W (W.putObj l o') :=
 ⟨KB.turn h1 hl, KeepsFrom.of_grownBy (grownBy_putObj' W l o') (fun j e => by cases e; exact h2), fun k hk _ => World.putObj_heap_other (by omega)⟩
def SeqGiveQ (n : Nat) (P : Program) (g : Nat) (lb : Array Value) (s : Sh) (Q₀ : Nat → Prop) (xs : List (Dat s)) (w : World) : Prop :=
 ∀ (l : Nat) (J Jx : Nat → List (Dat s) → World → Prop) (W : World), Below w.heap.size w W → (∀ q, OwnFrom W.heap.size (J q)) → (∀ q, OwnFrom W.heap.size (Jx q)) →
   (∀ q pre y V W1 es, W.heap.size ≤ q → q ≤ V.heap.size → J q pre V → Below V.heap.size V W1 → Owned W1 V.heap.size W1.heap.size s es y → pre ++ [y] <+: xs → YieldAt Fence.wide (n - 1) P l #[.agg es.toArray] W1 fun e W' => (e = .returned (.bool true) ∧ J q (pre ++ [y]) W' ∧ KpsQ Q₀ W.heap.size q W1 W') ∨ (e = .returned (.bool false) ∧ Jx q (pre ++ [y]) W' ∧ KeepsFrom W.heap.size W1 W')) →
   (∀ q, J q [] W) → CallsIn Fence.wide n P g (#[.func (.yield l) #[] #[]] ++ lb) W fun e W' => (∃ v, e = .returned v) ∧ ((∃ q, W.heap.size ≤ q ∧ J q xs W') ∨ ∃ q pre, W.heap.size ≤ q ∧ pre ≠ [] ∧ pre <+: xs ∧ Jx q pre W')
theorem rangeGiveQ {n : Nat} {P : Program} {g : Operand} {p : Tmp} {assign body : Code} {Q : Exit → Act → World → Prop} {a : Act} {w w0 : World} {gf : Nat} {lb : Array Value} (hg : a.eval g = .func (.func gf) #[] lb)
   (eg : ∀ args w, (callFunc gf args).run P w = .ok (.enter gf args) w) {s : Sh} {t : TypeId} {xs : List (Dat s)} {Q₀ : Nat → Prop} (hQ₀ : ∀ k, Q₀ k → k < w.heap.size) (hseq : SeqGiveQ (n - 1) P gf lb s Q₀ xs w0) (hb0 : Below w0.heap.size w0 w)
   (I Ix : Nat → List (Dat s) → World → Prop) (hI : ∀ q, OwnFrom w.heap.size (I q)) (hIx : ∀ q, OwnFrom w.heap.size (Ix q)) (h0 : ∀ q, I q [] w) (a₁ : List Value → Nat → Act)
   (hassign : ∀ (l : Nat) (es : List Value) (y : Dat s) (lo : Nat) (W : World) (K : Act → World → Prop), Owned W lo W.heap.size s es y → K (a₁ es W.heap.size) (W.alloc (.cells es.toArray t)) →
     assign.wpIn (Fence.wide.inRound l) (n - 1 - 1) P (Exit.then K (fun _ _ _ => False)) { tmps := a.tmps.setIfInBounds p (.agg es.toArray), defers := [] } W)
   (hbody : ∀ (l q : Nat) (pre : List (Dat s)) (y : Dat s) (V W : World) (B : Nat) (es : List Value), w.heap.size + 2 ≤ q → q ≤ V.heap.size → I q pre V → Below V.heap.size V W → V.heap.size ≤ B → Row W B t es.toArray → W.heap.size = B + 1 → Owned W V.heap.size B s es y → pre ++ [y] <+: xs →
     body.wpIn (Fence.wide.inRound l) (n - 1 - 1) P (fun e _ W' => (e = .normal ∧ KpsQ Q₀ w.heap.size q W W' ∧ I q (pre ++ [y]) W') ∨ (e = .ret ∧ KeepsFrom w.heap.size W W' ∧ Ix q (pre ++ [y]) W')) (a₁ es B) W)
   (hdone : ∀ (D q : Nat) (W : World), w.heap.size ≤ D → w.heap.size + 2 ≤ q → I q xs W → W.heap[D]? = some (.deferred (some [])) → Q .normal { a with defers := { target := .collected D, args := #[] } :: a.defers } W)
   (hstop : ∀ (D q : Nat) (pre : List (Dat s)) (W : World), w.heap.size ≤ D → w.heap.size + 2 ≤ q → pre ≠ [] → pre <+: xs → Ix q pre W → W.heap[D]? = some (.deferred (some [])) → Code.ret.wpIn Fence.wide n P Q { a with defers := { target := .collected D, args := #[] } :: a.defers } W) :
   (Code.rangeFunc g #[p] assign body).wpIn Fence.wide n P Q a w := by
 refine wpIn_rangeFunc ?_
 intro fn hfn
 obtain ⟨rec, hrec⟩ : ∃ rec : LoopState → Option Code → Loop, rec = fun st pe => { state := st, pending := pe, fn, tmps := a.tmps, params := #[p], assign, body, defers := w.heap.size } := ⟨_, rfl⟩
 obtain ⟨W1, hW1⟩ : ∃ W1, (w.alloc (.deferred (some []))).alloc (.loop (rec .ready none)) = W1 := ⟨_, rfl⟩
 have hsz : W1.heap.size = w.heap.size + 2 := by rw [← hW1]; simp
 have rl : W1.heap[w.heap.size + 1]? = some (.loop (rec .ready none)) := by
   rw [← hW1]
   have := heap_alloc_new (w.alloc (.deferred (some []))) (.loop (rec .ready none))
   rwa [World.size_alloc] at this
 have rd : W1.heap[w.heap.size]? = some (.deferred (some [])) := by
   rw [← hW1]
   exact (Below.heap_alloc _ _ _ (by simp)).trans (heap_alloc_new w _)
 refine ⟨w.heap.size + 1, [{ target := .collected w.heap.size, args := #[] }], W1, { target := .fn (.func gf) lb, args := #[.func (.yield (w.heap.size + 1)) #[] #[]] }, W1, gf, #[.func (.yield (w.heap.size + 1)) #[] #[]] ++ lb, W1, ?_, ?_, fun _ _ => trivial, ?_, (fun h => by cases h), ?_⟩
 · rw [← hW1, hrec]; exact run_enterLoop_outer _ _ _ _ _
 · simp only [resolve, hg]
   simp [go_sem]
 · simp [invoke, go_sem, eg]
 have key := hseq (w.heap.size + 1) (fun q pre W => (I q pre W ∧ W.heap[w.heap.size + 1]? = some (.loop (rec .ready none))) ∧ W.heap[w.heap.size]? = some (.deferred (some [])))
   (fun q pre W => (Ix q pre W ∧ W.heap[w.heap.size + 1]? = some (.loop (rec .done (some .ret)))) ∧ W.heap[w.heap.size]? = some (.deferred (some []))) W1
   (hb0.trans ((by rw [← hW1]; exact (((Below.refl _ w).alloc (Nat.le_refl _) _).alloc (by simp) _ : Below w.heap.size w _) : Below w.heap.size w W1).mono hb0.size))
   (fun q s A B row hs hg' hr => ⟨⟨hI q s A B row hs.1.1 hg' (fun r e => ⟨by have := (hr r e).1; omega, (hr r e).2⟩), (hg'.block _ (Array.getElem?_eq_some_iff.1 hs.1.2).1 (fun e => by have := (hr _ e.symm).1; omega)).trans hs.1.2⟩, (hg'.block _ (Array.getElem?_eq_some_iff.1 hs.2).1 (fun e => by have := (hr _ e.symm).1; omega)).trans hs.2⟩)
   (fun q s A B row hs hg' hr => ⟨⟨hIx q s A B row hs.1.1 hg' (fun r e => ⟨by have := (hr r e).1; omega, (hr r e).2⟩), (hg'.block _ (Array.getElem?_eq_some_iff.1 hs.1.2).1 (fun e => by have := (hr _ e.symm).1; omega)).trans hs.1.2⟩, (hg'.block _ (Array.getElem?_eq_some_iff.1 hs.2).1 (fun e => by have := (hr _ e.symm).1; omega)).trans hs.2⟩)
   ?_ (fun q => ⟨⟨by rw [← hW1]; exact (hI q).alloc _ ((hI q).alloc _ (h0 q)), rl⟩, rd⟩)
 · refine key.mono ?_
   rintro e W2 ⟨⟨v, rfl⟩, (⟨q, hq, ⟨hi, hl⟩, hd⟩ | ⟨q, pre, hq, hne, hpre, ⟨hi, hl⟩, hd⟩)⟩
   rotate_left
   · exact ⟨some .ret, _, by have := run_endLoop (P := P) hl (by rw [hrec]; simp); rw [hrec] at this; exact this, hstop _ q pre _ (Nat.le_refl _) (by omega) hne hpre ((hIx q).putObj _ hi (by omega) hl rfl) ((World.putObj_heap_other (by omega)).trans hd)⟩
   refine ⟨none, _, by have := run_endLoop (P := P) hl (by rw [hrec]; simp); rw [hrec] at this; exact this, hdone _ q _ (Nat.le_refl _) (by omega) ((hI q).putObj _ hi (by omega) hl rfl) ((World.putObj_heap_other (by omega)).trans hd)⟩
 · rintro q pre y V W es hq hV ⟨⟨hi, hl⟩, hd⟩ hbV hown hpre
   have hltV : w.heap.size + 1 < V.heap.size := by omega
   have hlW : W.heap[w.heap.size + 1]? = some (.loop (rec .ready none)) := (hbV.block _ hltV).trans hl
   have hdW : W.heap[w.heap.size]? = some (.deferred (some [])) := (hbV.block _ (by omega)).trans hd
   have hy : (Instr.yield (w.heap.size + 1) #[.agg es.toArray]).run P W = .ok (.round (w.heap.size + 1) fn (a.tmps.setIfInBounds p (.agg es.toArray)) assign body) W := by
     have := run_yield (P := P) (args := #[.agg es.toArray]) hlW (by rw [hrec]; rfl)
     rw [hrec] at this
     rw [this]
     simp
   refine ⟨fn, _, assign, body, hy, roundIn_of_wpIn hfn (hassign _ es y _ W _ hown ?_)⟩
   have hszW := hbV.size
   have bA : Below W.heap.size W (W.alloc (.cells es.toArray t)) := (Below.refl _ _).alloc (Nat.le_refl _) _
   have hlA : (W.alloc (.cells es.toArray t)).heap[w.heap.size + 1]? = some (.loop (rec .ready none)) := (bA.block _ (by omega)).trans hlW
   have hdA : (W.alloc (.cells es.toArray t)).heap[w.heap.size]? = some (.deferred (some [])) := (bA.block _ (by omega)).trans hdW
   have bVA : Below V.heap.size V (W.alloc (.cells es.toArray t)) := hbV.trans (bA.mono hszW)
   refine ⟨_, run_beginRound hlA (by rw [hrec]), ?_⟩
   obtain ⟨o2, ho2⟩ : ∃ o2, o2 = Obj.loop { rec .ready none with state := .busy } := ⟨_, rfl⟩
   rw [← ho2]
   have hl2 : ((W.alloc (.cells es.toArray t)).putObj (w.heap.size + 1) o2).heap[w.heap.size + 1]? = some o2 := World.putObj_heap_same (by simp; omega)
   have hd2 : ((W.alloc (.cells es.toArray t)).putObj (w.heap.size + 1) o2).heap[w.heap.size]? = some (.deferred (some [])) := (World.putObj_heap_other (by omega)).trans hdA
   refine wpIn_mono (hbody _ q pre y (V.putObj (w.heap.size + 1) o2) _ W.heap.size es (by omega) (by rw [World.putObj_size]; omega) ((hI q).putObj _ hi (by omega) hl rfl) (below_turn bVA hltV) (by rw [World.putObj_size]; exact hszW)
     ((World.putObj_heap_other (by omega)).trans (Row.new W t es.toArray)) (by simp)
     (by rw [World.putObj_size]; exact (hown.next bA).btw (Btw.of_grown (grownBy_putObj' _ (w.heap.size + 1) o2) (lo := w.heap.size + 1) (hi := w.heap.size + 2) (fun k e => by cases e; omega)) (.inr (by omega))) hpre) ?_
   rintro e a3 W3 (⟨rfl, hk3, hi3⟩ | ⟨rfl, hk3, hi3⟩)
   · have hl3 := hk3.2.1.same _ _ (by omega) hl2 (by rw [ho2]; rfl)
     have hd3 := hk3.2.1.same _ _ (Nat.le_refl _) hd2 rfl
     rw [ho2] at hl3
     have hr := run_endRound (P := P) none hl3
     refine ⟨_, _, hr, .inl ⟨rfl, ⟨⟨(hI q).putObj _ hi3 (by omega) hl3 rfl, ?_⟩, (World.putObj_heap_other (by omega)).trans hd3⟩, ?_⟩⟩
     · rw [World.putObj_heap_same (Array.getElem?_eq_some_iff.1 hl3).1, hrec]
       rfl
     · have k0 : KpsQ Q₀ W1.heap.size q W (W.alloc (.cells es.toArray t)) := KpsQ.of_below bA (by omega)
       have t1 : KpsQ Q₀ W1.heap.size q (W.alloc (.cells es.toArray t)) ((W.alloc (.cells es.toArray t)).putObj (w.heap.size + 1) o2) := kpsq_turn (fun h => by have := hQ₀ _ h; omega) (by omega) hlA
       have k3 : KpsQ Q₀ W1.heap.size q _ W3 := hk3.mono (by omega)
       exact ((k0.trans t1).trans k3).trans (kpsq_turn (fun h => by have := hQ₀ _ h; omega) (by omega) hl3)
   · have hl3 := hk3.same _ _ (by omega) hl2 (by rw [ho2]; rfl)
     have hd3 := hk3.same _ _ (Nat.le_refl _) hd2 rfl
     rw [ho2] at hl3
     have hr := run_endRound (P := P) (some .ret) hl3
     refine ⟨_, _, hr, .inr ⟨rfl, ⟨⟨(hIx q).putObj _ hi3 (by omega) hl3 rfl, ?_⟩, (World.putObj_heap_other (by omega)).trans hd3⟩, ?_⟩⟩
     · rw [World.putObj_heap_same (Array.getElem?_eq_some_iff.1 hl3).1, hrec]
       rfl
     · have k0 : KpsQ Q₀ W1.heap.size q W (W.alloc (.cells es.toArray t)) := KpsQ.of_below bA (by omega)
       have t1 : KpsQ Q₀ W1.heap.size q (W.alloc (.cells es.toArray t)) ((W.alloc (.cells es.toArray t)).putObj (w.heap.size + 1) o2) := kpsq_turn (fun h => by have := hQ₀ _ h; omega) (by omega) hlA
       have k3 : KeepsFrom W1.heap.size _ W3 := ⟨hk3.size, fun k o hk => hk3.same k o (by omega)⟩
       exact ((k0.2.1.trans t1.2.1).trans k3).trans (kpsq_turn (Q₀ := Q₀) (q := q) (fun h => by have := hQ₀ _ h; omega) (by omega) hl3).2.1
theorem ownFrom_kpsQ {β : Type} {Q : Nat → Prop} {m : Nat} {V : World} (h : ∀ k, Q k → k < V.heap.size) : OwnFrom V.heap.size (fun (_ : β) W => KpsQ Q m V.heap.size V W) := fun s A B row hs hg hr => ⟨⟨hg.os.trans hs.1.os, hg.tape.trans hs.1.tape, hg.output.trans hs.1.output, Nat.le_trans hs.1.size hg.size, fun k h1 h2 => (hg.block k (Nat.lt_of_lt_of_le h2 hs.1.size) (fun e => by have := (hr k e.symm).1; omega)).trans (hs.1.block k h1 h2)⟩, ownFrom_keepsFrom (β := β) (Nat.le_refl _) s A B row hs.2.1 hg hr, fun k h1 h2 => (hg.block k (Nat.lt_of_lt_of_le h2 hs.1.size) (fun e => by have := (hr k e.symm).1; omega)).trans (hs.2.2 k h1 h2)⟩
theorem kb_two {Q : Nat → Prop} {m q g : Nat} {A B : World} (h : KpsQ Q m q A B) (h1 : m ≤ g) (h2 : g + 1 < q) (_ : q ≤ A.heap.size) : KB (fun b => Q b ∨ b = g ∨ b = g + 1) A B := ⟨h.1.os, h.1.tape, h.1.output, h.1.size, fun k hk hl => by
 rcases hk with hk | rfl | rfl
 · exact h.1.block k hk hl
 · exact h.2.2 _ h1 (by omega)
 · exact h.2.2 _ (by omega) h2⟩
set_option maxHeartbeats 4000000 in
theorem steps_giveQ (n : Nat) (hn : 2 ≤ n) (B1 B2 : Nat) (Q : Nat → Prop) (a v u : Value) (d : Dat sSystem) (t : List Int) (w : World) (hQw : ∀ k, Q k → k < w.heap.size) (hQ1 : Q B1) (hQ2 : Q B2) (r1 : Row w B1 60 #[a, v]) (r2 : Row w B2 24 #[u])
   (h : RdQ w (QW Q w) sSystem [a, v] d) (ht : RdQ w (QW Q w) sI [u] t) (hz : sz sSystem d ≤ 1048576) (hok : rightB d.1 d.2 t = true) :
   SeqGiveQ n Tryz.prog 88 #[.pointer (some ⟨B1, 0, none⟩), .pointer (some ⟨B2, 0, none⟩)] sStep Q (stepsL d.1 d.2 t) w := fun l J Jx W hW hJ hJx hY h0 => by
 replace r1 := r1.next hW
 replace r2 := r2.next hW
 replace h := qw_keep h (KB.of_below hW)
 replace ht := qw_keep ht (KB.of_below hW)
 have hQW : ∀ k, Q k → k < W.heap.size := fun k hk => Nat.lt_of_lt_of_le (hQw k hk) hW.size
 obtain ⟨A, m0, cs, V, q, cv, rfl, rfl, -, -, -, hq, -, hq1, -, -, -⟩ := rd_sys (qw_rd h) hz
 obtain ⟨T, m, c, rfl, hT, hcT⟩ := rd_ints.1 (qw_rd ht)
 have K10 : (W.alloc (.cells #[.func (.yield l) #[] #[]] 145)).cell? ⟨B1, 0, none⟩ = some (.slice A m0 cs) := (r1.alloc _).cell 0
 have K11 : (W.alloc (.cells #[.func (.yield l) #[] #[]] 145)).cell? ⟨B1, 1, none⟩ = some (.slice V q cv) := (r1.alloc _).cell 1
 have K20 : (W.alloc (.cells #[.func (.yield l) #[] #[]] 145)).cell? ⟨B2, 0, none⟩ = some (.slice T m c) := (r2.alloc _).cell 0
 have HH := Lib.hid (show RdQ W (QW Q W) sSystem [.slice A m0 cs, .slice V q cv] d ∧ RdQ W (QW Q W) sI [.slice T m c] t from ⟨h, ht⟩)
 have HK := Lib.hid (show Row W B1 60 #[.slice A m0 cs, .slice V q cv] ∧ Row W B2 24 #[.slice T m c] from ⟨r1, r2⟩)
 have HOK := Lib.hid hok
 have HY := Lib.hid hY
 have HJ := Lib.hid hJ
 have HJX := Lib.hid hJx
 have H0 := Lib.hid h0
 clear hT hcT h ht hok hq hW r1 r2 hY hJ hJx h0
 refine callsIn_of_wp_marks Tryz.func88 rfl trivial ?_ rfl
 simp only [Tryz.ntmps88, List.size_toArray, List.length_cons, List.length_nil, Nat.reduceAdd, Nat.reduceSub, Array.replicate_succ, Array.replicate_zero, List.push_toArray, List.append_toArray, List.nil_append, List.cons_append]
 gi_wp2_with (refine ⟨trivial, (fun h => (by cases h)), ?_⟩; gi_at_call 70; refine (callsIn_wide.2 (redexesFn (.slice A m0 cs) (.slice V q cv) T m c _)).mono ?_; rintro e w3 ⟨rfl, hw3⟩; subst hw3)
 obtain ⟨W3, hW3⟩ : ∃ W3, W3 = ((W.alloc (.cells #[.func (.yield l) #[] #[]] 145)).alloc (.cells #[.slice A m0 cs, .slice V q cv] 60)).alloc (.cells #[.slice T m c] 24) := ⟨_, rfl⟩
 rw [← hW3]
 have b3 : Below W.heap.size W W3 := by rw [hW3]; exact (((Below.refl _ W).alloc (Nat.le_refl _) _).alloc (by simp) _).alloc (by simp; omega) _
 have z3 : W.heap.size + 3 ≤ W3.heap.size := by rw [hW3]; simp
 have rY : Row W3 W.heap.size 145 #[.func (.yield l) #[] #[]] := by rw [hW3]; exact ((Row.new W _ _).alloc _).alloc _
 have rS : Row W3 (W.heap.size + 1) 60 #[.slice A m0 cs, .slice V q cv] := by
   rw [hW3]
   have := (Row.new (W.alloc (.cells #[.func (.yield l) #[] #[]] 145)) 60 #[.slice A m0 cs, .slice V q cv]).alloc (.cells #[.slice T m c] 24)
   simpa using this
 have rT : Row W3 (W.heap.size + 1 + 1) 24 #[.slice T m c] := by
   rw [hW3]
   have := Row.new ((W.alloc (.cells #[.func (.yield l) #[] #[]] 145)).alloc (.cells #[.slice A m0 cs, .slice V q cv] 60)) 24 #[.slice T m c]
   simpa using this
 clear hW3 K10 K11 K20
 have HPRE := redexes_stopsQ (n - 1) (by omega) (W.heap.size + 1) (W.heap.size + 1 + 1) (fun b => Q b ∨ b = W.heap.size + 1 ∨ b = W.heap.size + 1 + 1) (.slice A m0 cs) (.slice V q cv) (.slice T m c) d t W3 (.inr (.inl rfl)) (.inr (.inr rfl)) rS rT (qw_more (qw_keep HH.out.1 (KB.of_below b3)) fun b hb => .inl hb) (qw_more (qw_keep HH.out.2 (KB.of_below b3)) fun b hb => .inl hb) hz HOK.out
 refine rangePreX (gf := 99) (lb := #[.pointer (some ⟨W.heap.size + 1 + 1, 0, none⟩), .pointer (some ⟨W.heap.size + 1, 0, none⟩)]) rfl (enters_of Tryz.func99 (by kernel_rfl) rfl) HPRE (Below.refl _ _) (fun _ => rfl) KB.trans
   (fun X o o' ho => KB.turn (by rintro (q | q | q); (have := hQW _ q; omega); omega; omega) ho)
   (fun pre X => J W3.heap.size (stepsOf d.1 d.2 t pre) X ∧ KpsQ Q W.heap.size W3.heap.size W3 X)
   (fun pre X => Jx W3.heap.size (stepsOf d.1 d.2 t pre) X ∧ stepsOf d.1 d.2 t pre ≠ [])
   (OwnFrom.and (fun s X Y row hs hg hr => HJ.out _ _ X Y row hs hg (fun r e => ⟨by have := (hr r e).1; omega, (hr r e).2⟩)) (ownFrom_kpsQ (fun k hk => by have := hQW k hk; omega)))
   (OwnFrom.and (fun s X Y row hs hg hr => HJX.out _ _ X Y row hs hg (fun r e => ⟨by have := (hr r e).1; omega, (hr r e).2⟩)) (ownFrom_pure _ _))
   ⟨HJ.out _ _ W W3 none (H0.out _) (cursor.grown_below b3 none) (fun r e => by cases e), KpsQ.refl _ _ _ _⟩
   (fun x => { tmps := #[.func (.yield l) #[] #[], .pointer (some ⟨B1, 0, none⟩), .pointer (some ⟨B2, 0, none⟩), .pointer (some ⟨W.heap.size, 0, none⟩), .int .i64 (x.1 : Int), .int .i64 (x.2 : Int), undef, undef, .agg #[.slice A m0 cs, .slice V q cv], .slice T m c, .func (.func 99) #[] #[.pointer (some ⟨W.heap.size + 1 + 1, 0, none⟩), .pointer (some ⟨W.heap.size + 1, 0, none⟩)], .int .i64 (x.1 : Int), .int .i64 (x.2 : Int), undef, undef, undef, undef, undef, undef, undef, undef, undef, undef, undef, undef, undef, undef, undef, undef, undef, undef], defers := [] }) ?assign ?body ?done ?stop
 case assign =>
   intro li x X K hK
   gi_wp2
   first | exact hK | simpa using hK
 case body =>
   rintro li pre ⟨x, k⟩ X ⟨hj, hkp⟩ hX hpre
   obtain ⟨hx, hkr, hred⟩ := red_in hpre
   have b0 : KB Q W X := (KB.of_below b3).trans hkp.1
   have q1 := b0.row hQ1 HK.out.1
   have q2 := b0.row hQ2 HK.out.2
   have qY : Row X W.heap.size 145 #[.func (.yield l) #[] #[]] := (hkp.2.2 _ (Nat.le_refl _) (by omega)).trans rY
   have K10 : X.cell? ⟨B1, 0, none⟩ = some (.slice A m0 cs) := q1.cell 0
   have K11 : X.cell? ⟨B1, 1, none⟩ = some (.slice V q cv) := q1.cell 1
   have K20 : X.cell? ⟨B2, 0, none⟩ = some (.slice T m c) := q2.cell 0
   have LR := reduced (.slice A m0 cs) (.slice V q cv) (.slice T m c) d t x k X (qw_rd (qw_keep HH.out.1 b0)) (qw_rd (qw_keep HH.out.2 b0)) hz HOK.out hx hkr hred
   have HPR := Lib.hid hpre
   have hzY := qY.lt
   clear q1 q2 hpre b0 HPRE hred
   cases hs : stepO d.1 (d.2.getD k ([], [])) t x with
   | none =>
     have L2 := Lib.hid (LR.mono (R' := fun e w' => ∃ U un uc, e = .returned (.tuple #[.slice U un uc, .bool false]) ∧ Below X.heap.size X w') (by rintro e w' ⟨U, un, uc, he, _, hb⟩; rw [hs] at he; exact ⟨U, un, uc, he, hb⟩))
     clear LR
     gi_wp2_with (refine ⟨trivial, (fun h => (by cases h)), ?_⟩; gi_at_call 74; refine (CallsIn.inRound li (callsIn_wide.2 L2.out)).mono ?_; rintro e V2 ⟨U, un, uc, rfl, bb⟩; refine (?_ : Hid _).out)
     have kb : KpsQ Q W.heap.size W3.heap.size X V2 := KpsQ.of_below bb (by omega)
     have F := Lib.hid (show J W3.heap.size (stepsOf d.1 d.2 t (pre ++ [(x, k)])) V2 from by rw [stepsOf_no hs]; exact HJ.out _ _ X V2 none hj (cursor.grown_below bb none) (fun r e => by cases e))
     clear bb hj K10 K11 K20 L2
     refine Lib.hid ?_
     gi_wp2
     refine ⟨fun _ h => (by cases h), ?_⟩
     gi_wp2
     exact ⟨(kb.mono (by omega)).2.1, kb_two kb (by omega) (by omega) (by omega), F.out, hkp.trans kb⟩
   | some v =>
     have L2 := Lib.hid (LR.mono (R' := fun e w' => ∃ U un uc, e = .returned (.tuple #[.slice U un uc, .bool true]) ∧ marks.Own w' X.heap.size (.slice U un uc) v ∧ Below X.heap.size X w') (by rintro e w' ⟨U, un, uc, he, ho, hb⟩; rw [hs] at he ho; exact ⟨U, un, uc, he, ho, hb⟩))
     clear LR
     gi_wp2_with (refine ⟨trivial, (fun h => (by cases h)), ?_⟩; gi_at_call 74; refine (CallsIn.inRound li (callsIn_wide.2 L2.out)).mono ?_; rintro e V2 ⟨U, un, uc, rfl, oU, bb⟩; refine (?_ : Hid _).out)
     have kb : KpsQ Q W.heap.size W3.heap.size X V2 := KpsQ.of_below bb (by omega)
     have KY : V2.cell? ⟨W.heap.size, 0, none⟩ = some (.func (.yield l) #[] #[]) := (qY.next bb).cell 0
     obtain ⟨fn, tm, asg, bd, hy, hR⟩ := HY.out W3.heap.size (stepsOf d.1 d.2 t pre) ((x : Int), (k : Int), v) X V2 [.int .i64 (x : Int), .int .i64 (k : Int), .slice U un uc] (by omega) (by omega) hj bb (owned_step oU _ _) (by rw [← stepsOf_yes hs]; exact pre_steps HPR.out)
     clear bb hj K10 K11 K20 L2 oU qY
     refine Lib.hid ?_
     gi_wp2
     refine ⟨fun h => (by cases h), (roundIn_any hR).mono ?_⟩
     rintro e V3 (⟨rfl, hj3, hk3⟩ | ⟨rfl, hj3, hk3⟩)
     · have F := Lib.hid (show J W3.heap.size (stepsOf d.1 d.2 t (pre ++ [(x, k)])) V3 from by rw [stepsOf_yes hs]; exact hj3)
       have kb2 := kb.trans hk3
       clear hj3 hk3 kb KY hy hR
       gi_wp2
       exact ⟨(kb2.mono (by omega)).2.1, kb_two kb2 (by omega) (by omega) (by omega), F.out, hkp.trans kb2⟩
     · have F := Lib.hid (show Jx W3.heap.size (stepsOf d.1 d.2 t (pre ++ [(x, k)])) V3 ∧ stepsOf d.1 d.2 t (pre ++ [(x, k)]) ≠ [] from by rw [stepsOf_yes hs]; exact ⟨hj3, by simp⟩)
       have kb2 : KeepsFrom W3.heap.size X V3 := (kb.mono (by omega)).2.1.trans ⟨hk3.size, fun k o hk => hk3.same k o (by omega)⟩
       clear hj3 hk3 kb KY hy hR
       gi_wp2
       first | exact F.out | exact ⟨kb2, F.out⟩
 case done =>
   rintro D X hD ⟨hj, hk⟩ hd
   rw [stepsOf_all] at hj
   have hj2 := (HJ.out W3.heap.size).putObj (.deferred none) hj (by omega) hd rfl
   gi_wp2
   refine ⟨by simp, .inl ⟨_, _, rfl, run_takeDeferred hd, ?_⟩⟩
   exact ⟨_, results_none rfl _ _ _, ⟨_, rfl⟩, .inl ⟨W3.heap.size, by omega, hj2⟩⟩
 case stop =>
   rintro D pre X hD hne hpre ⟨hj, hn⟩ hd
   have hj2 := (HJX.out W3.heap.size).putObj (.deferred none) hj (by omega) hd rfl
   gi_wp2
   refine ⟨by simp, .inl ⟨_, _, rfl, run_takeDeferred hd, ?_⟩⟩
   exact ⟨_, results_none rfl _ _ _, ⟨_, rfl⟩, .inr ⟨W3.heap.size, _, by omega, hn, pre_steps hpre, hj2⟩⟩
end iter
end
section
namespace iter
open Go.RowKit Go.Shelf base ints sig term termOk endAt endOf marks app sym sub segs segsHelp shifted termFacts shape kindsR kindsW ruleMath ruleSpec ruleImpl stepMath walkMath stepSpec stepImpl rangeGive ownL
set_option maxRecDepth 100000
theorem stepsFn (a v : Value) (T : Option Addr) (m c : Nat) (w : World) : Calls Tryz.prog 56 #[.agg #[a, v], .slice T m c] w fun e w' => e = .returned (.func (.func 88) #[] #[.pointer (some ⟨w.heap.size, 0, none⟩), .pointer (some ⟨w.heap.size + 1, 0, none⟩)]) ∧ w' = (w.alloc (.cells #[a, v] 60)).alloc (.cells #[.slice T m c] 24) := by
 have hmf : ∀ (fn : Fn) (first cap : Array Value) (w : World), (Instr.makeFunc fn first cap).run Tryz.prog w = .ok (.func fn first cap) w := fun _ _ _ _ => rfl
 go_enter Tryz.func56, Tryz.ntmps56
 go_wp2
 go_ret
 exact ⟨rfl, rfl⟩
end iter
end
section
namespace iter
open Go.RowKit Go.Shelf base ints sig term termOk endAt endOf marks app sym sub segs segsHelp shifted termFacts shape kindsR kindsW ruleMath ruleSpec ruleImpl stepMath walkMath stepSpec stepImpl rangeGive ownL reachMath findW findSpec known reachImpl
set_option maxRecDepth 100000
attribute [local go_sem] Oper.semAt_some
structure Ro (w : World) (a v : Value) (S : Fs) (O : Option Addr) (on oc cnt : Nat) (W : World) : Prop where
 sys : Row W w.heap.size 60 #[a, v]
 res : Row W (w.heap.size + 1) 67 #[.slice none 0 0, .map none, .bool false]
 rf : Rf (w.heap.size + 1 + 1 + 1 + 1) W.heap.size (w.heap.size + 1 + 1 + 1) (w.heap.size + 1 + 1) cnt S O on oc W
 bel : Below w.heap.size w W
def AnsReach (w : World) (S : Fs) (e : Ending) (W : World) : Prop := ∃ (O : Option Addr) (on oc mb cnt : Nat), e = .returned (.agg #[.slice O on oc, .map (some mb), .bool S.2]) ∧ OwnL W w.heap.size W.heap.size 72 sFind O on oc (S.1.map fdat) ∧ Kn W mb cnt (termsF S.1) ∧ w.heap.size ≤ mb ∧ Below w.heap.size w W
section
variable {w X Y : World} {a v : Value} {S : Fs} {O : Option Addr} {on oc cnt : Nat}
theorem Ro.below (h : Ro w a v S O on oc cnt X) (hb : Below X.heap.size X Y) : Ro w a v S O on oc cnt Y := ⟨h.sys.next hb, h.res.next hb, ⟨h.rf.row.next hb, (h.rf.ow.next hb).wider (Nat.le_refl _) hb.size, h.rf.kn.below hb⟩, next_trans h.bel hb⟩
theorem Ro.sz (h : Ro w a v S O on oc cnt X) : w.heap.size + 1 + 1 + 1 < X.heap.size := h.rf.row.lt
theorem Ro.cells (h : Ro w a v S O on oc cnt X) : ∀ k, blk O = some k → w.heap.size + 1 + 1 + 1 + 1 ≤ k ∧ k < X.heap.size ∧ ∃ cs, Row X k 72 cs := fun k hk => by
 obtain ⟨cs, hr⟩ := ownL_cells h.rf.ow hk
 exact ⟨(h.rf.ow.ge k hk).1, (h.rf.ow.ge k hk).2, _, hr⟩
theorem ro_own (β : Type) (w : World) (a v : Value) (S : Fs) (O : Option Addr) (on oc cnt : Nat) {B : Nat} (hB : w.heap.size + 1 + 1 < B) : OwnFrom B (fun (_ : β) W => Ro w a v S O on oc cnt W) := fun s X Y row hs hg hr => by
 have hr' : ∀ r, row = some r → ∃ o : Obj, X.heap[r]? = some o ∧ o.isCells = false := fun r e => (hr r e).2
 exact ⟨(row_turn hg hr' hs.sys).trans hs.sys, (row_turn hg hr' hs.res).trans hs.res, ⟨(row_turn hg hr' hs.rf.row).trans hs.rf.row, (ownL_turn hs.rf.ow hg hr').wider (Nat.le_refl _) hg.size, hs.rf.kn.kept hg (fun e => by have := (hr _ e.symm).1; omega)⟩, hs.bel.grown hg hs.bel.size (fun k e => by have := (hr k e).1; omega)⟩
theorem Ro.add {S' : Fs} {ln : Nat} {e : Ending} (h : Ro w a v S O on oc cnt X) (hA : AnsAdd (w.heap.size + 1 + 1 + 1 + 1) (w.heap.size + 1 + 1 + 1) (w.heap.size + 1 + 1) cnt ln S' O X e Y) : ∃ O' on' oc' cnt', Ro w a v S' O' on' oc' cnt' Y ∧ (S'.2 = true → cnt' + ln ≤ cnt + S'.1.length) ∧ Tcr (w.heap.size + 1 + 1 + 1) (w.heap.size + 1 + 1) O X Y ∧ ∀ k, blk O' = some k → blk O = some k ∨ X.heap.size ≤ k := by
 obtain ⟨-, O', on', oc', cnt', hR, ⟨-, h2⟩, hT, hO⟩ := hA
 have nO : ∀ k, k ≤ w.heap.size + 1 → some k ≠ blk O := fun k hk e => by have := (h.cells k e.symm).1; omega
 exact ⟨O', on', oc', cnt', ⟨hT.row h.sys (by omega) (by omega) (nO _ (by omega)), hT.row h.res (by omega) (by omega) (nO _ (by omega)), hR, h.bel.trans ⟨hT.os, hT.tape, hT.output, hT.size, fun k hk => hT.block k (Nat.lt_of_lt_of_le hk h.bel.size) (by omega) (by omega) (nO _ (by omega))⟩⟩, h2, hT, hO⟩
end
theorem ro_start (w : World) (a v : Value) : Ro w a v ([], true) none 0 0 0 ((((w.alloc (.cells #[a, v] 60)).alloc (.cells #[.slice none 0 0, .map none, .bool false] 67)).alloc (.map #[] 0)).alloc (.cells #[.slice none 0 0, .map (some (w.heap.size + 1 + 1)), .bool true] 67)) := by
 obtain ⟨V1, e1⟩ : ∃ V, V = w.alloc (.cells #[a, v] 60) := ⟨_, rfl⟩
 obtain ⟨V2, e2⟩ : ∃ V, V = V1.alloc (.cells #[.slice none 0 0, .map none, .bool false] 67) := ⟨_, rfl⟩
 obtain ⟨V3, e3⟩ : ∃ V, V = V2.alloc (.map #[] 0) := ⟨_, rfl⟩
 obtain ⟨V4, e4⟩ : ∃ V, V = V3.alloc (.cells #[.slice none 0 0, .map (some (w.heap.size + 1 + 1)), .bool true] 67) := ⟨_, rfl⟩
 rw [← e1, ← e2, ← e3, ← e4]
 have s1 : V1.heap.size = w.heap.size + 1 := by rw [e1]; simp
 have s2 : V2.heap.size = w.heap.size + 1 + 1 := by rw [e2]; simp [s1]
 have s3 : V3.heap.size = w.heap.size + 1 + 1 + 1 := by rw [e3]; simp [s2]
 have s4 : V4.heap.size = w.heap.size + 1 + 1 + 1 + 1 := by rw [e4]; simp [s3]
 have r1 : Row V1 w.heap.size 60 #[a, v] := by rw [e1]; exact Row.new _ _ _
 have r2 : Row V2 (w.heap.size + 1) 67 #[.slice none 0 0, .map none, .bool false] := by rw [e2, ← s1]; exact Row.new _ _ _
 have r4 : Row V4 (w.heap.size + 1 + 1 + 1) 67 #[.slice none 0 0, .map (some (w.heap.size + 1 + 1)), .bool true] := by rw [e4, ← s3]; exact Row.new _ _ _
 have k3 : Kn V3 (w.heap.size + 1 + 1) 0 [] := by rw [e3, ← s2]; exact kn_made _
 have b1 : Below w.heap.size w V1 := by rw [e1]; exact (Below.refl _ _).alloc (Nat.le_refl _) _
 have b2 : Below V1.heap.size V1 V2 := by rw [e2]; exact (Below.refl _ _).alloc (Nat.le_refl _) _
 have b3 : Below V2.heap.size V2 V3 := by rw [e3]; exact (Below.refl _ _).alloc (Nat.le_refl _) _
 have b4 : Below V3.heap.size V3 V4 := by rw [e4]; exact (Below.refl _ _).alloc (Nat.le_refl _) _
 exact ⟨((r1.next b2).next b3).next b4, (r2.next b3).next b4, ⟨r4, OwnL.nil _ _ _ _ _, k3.below b4⟩, next_trans b1 (next_trans b2 (next_trans b3 b4))⟩
theorem dok_tcr {rb mb B : Nat} {O : Option Addr} {X Y : World} {Ds : List Nat} (h : Dok B Ds X) (ht : Tcr rb mb O X Y) (h1 : rb < B) (h2 : mb < B) (hO : ∀ k, blk O = some k → ∃ o : Obj, X.heap[k]? = some o ∧ o.isCells = true) : Dok B Ds Y :=
 ⟨h.1, fun D hD => ⟨(h.2 D hD).1, (ht.block D (Array.getElem?_eq_some_iff.1 (h.2 D hD).2).1 (by have := (h.2 D hD).1; omega) (by have := (h.2 D hD).1; omega) (fun e => by
   obtain ⟨o, ho, hc⟩ := hO D e.symm
   rw [(h.2 D hD).2] at ho
   injection ho with ho
   rw [← ho] at hc
   cases hc)).trans (h.2 D hD).2⟩⟩
def boxInt (W : World) (x : Value) : Nat := match x with
 | .pointer (some p) => (intOf ((W.cell? p).getD undef)).toNat
 | _ => 0
def outZ (w : World) (O : Option Addr) (on oc : Nat) (b : Bool) (X : World) : World := ((X.setCell ⟨w.heap.size + 1, 0, none⟩ (.slice O on oc)).setCell ⟨w.heap.size + 1, 1, none⟩ (.map (some (w.heap.size + 1 + 1)))).setCell ⟨w.heap.size + 1, 2, none⟩ (.bool b)
def Out (w : World) (S : Fs) (O : Option Addr) (on oc cnt : Nat) (W : World) : Prop := Row W (w.heap.size + 1) 67 #[.slice O on oc, .map (some (w.heap.size + 1 + 1)), .bool S.2] ∧ OwnL W (w.heap.size + 1 + 1 + 1 + 1) W.heap.size 72 sFind O on oc (S.1.map fdat) ∧ Kn W (w.heap.size + 1 + 1) cnt (termsF S.1) ∧ Below w.heap.size w W
theorem out_cells {w X : World} {a v : Value} {S : Fs} {O : Option Addr} {on oc cnt : Nat} (h : Ro w a v S O on oc cnt X) (x y : Value) : X.cell? ⟨w.heap.size + 1, 0, none⟩ = some (.slice none 0 0) ∧ X.frozen? ⟨w.heap.size + 1, 0, none⟩ = false ∧
   (X.setCell ⟨w.heap.size + 1, 0, none⟩ x).cell? ⟨w.heap.size + 1, 1, none⟩ = some (.map none) ∧ (X.setCell ⟨w.heap.size + 1, 0, none⟩ x).frozen? ⟨w.heap.size + 1, 1, none⟩ = false ∧
   ((X.setCell ⟨w.heap.size + 1, 0, none⟩ x).setCell ⟨w.heap.size + 1, 1, none⟩ y).cell? ⟨w.heap.size + 1, 2, none⟩ = some (.bool false) ∧ ((X.setCell ⟨w.heap.size + 1, 0, none⟩ x).setCell ⟨w.heap.size + 1, 1, none⟩ y).frozen? ⟨w.heap.size + 1, 2, none⟩ = false := by
 have r0 := h.res
 have r1 := Row.put r0 0 x
 have r2 := Row.put r1 1 y
 exact ⟨r0.cell 0, r0.free 0, r1.cell 1, r1.free 1, r2.cell 2, r2.free 2⟩
theorem out_at {w X : World} {a v : Value} {S : Fs} {O : Option Addr} {on oc cnt B : Nat} {Ds : List Nat} (h : Ro w a v S O on oc cnt X) (hD : Dok B Ds X) (hB : w.heap.size + 1 < B) : Out w S O on oc cnt (outZ w O on oc S.2 X) ∧ Dok B Ds (outZ w O on oc S.2 X) ∧ ∀ m, w.heap.size + 1 < m → KeepsFrom m X (outZ w O on oc S.2 X) := by
 have r1 := Row.put h.res 0 (.slice O on oc)
 have r2 := Row.put r1 1 (.map (some (w.heap.size + 1 + 1)))
 have r3 := Row.put r2 2 (.bool S.2)
 have hb : ∀ k, k ≠ w.heap.size + 1 → (outZ w O on oc S.2 X).heap[k]? = X.heap[k]? := fun k hk => ((Below.heap_setCell _ _ _ k hk).trans (Below.heap_setCell _ _ _ k hk)).trans (Below.heap_setCell _ _ _ k hk)
 have hs : (outZ w O on oc S.2 X).heap.size = X.heap.size := by unfold outZ; simp
 have g1 := grown_set X (w.heap.size + 1) 0 (.slice O on oc)
 have g2 := grown_set (X.setCell ⟨w.heap.size + 1, 0, none⟩ (.slice O on oc)) (w.heap.size + 1) 1 (.map (some (w.heap.size + 1 + 1)))
 have g3 := grown_set ((X.setCell ⟨w.heap.size + 1, 0, none⟩ (.slice O on oc)).setCell ⟨w.heap.size + 1, 1, none⟩ (.map (some (w.heap.size + 1 + 1)))) (w.heap.size + 1) 2 (.bool S.2)
 refine ⟨⟨r3, (h.rf.ow.keep (fun k h1 _ _ => hb k (by omega)) (by omega)).wider (Nat.le_refl _) (by omega), ((h.rf.kn.kept g1 (fun e => by injection e with e; omega)).kept g2 (fun e => by injection e with e; omega)).kept g3 (fun e => by injection e with e; omega), ((h.bel.setCell (by show _ ≤ w.heap.size + 1; omega) _).setCell (by show _ ≤ w.heap.size + 1; omega) _).setCell (by show _ ≤ w.heap.size + 1; omega) _⟩, ⟨hD.1, fun D hm => ⟨(hD.2 D hm).1, ?_⟩⟩, fun m hm => ⟨by omega, fun k o hk ho _ => ?_⟩⟩
 · have := (hD.2 D hm).1
   rw [hb D (by omega)]
   exact (hD.2 D hm).2
 · rw [hb k (by omega)]; exact ho
theorem out_own (w : World) (S : Fs) (O : Option Addr) (on oc cnt : Nat) {B : Nat} (hB : w.heap.size + 1 + 1 < B) : OwnFrom B (fun (_ : Unit) W => Out w S O on oc cnt W) := fun _ X Y row hs hg hr => ⟨(row_turn hg (fun r e => (hr r e).2) hs.1).trans hs.1, (ownL_turn hs.2.1 hg (fun r e => (hr r e).2)).wider (Nat.le_refl _) hg.size, hs.2.2.1.kept hg (fun e => by have := (hr _ e.symm).1; omega), hs.2.2.2.grown hg hs.2.2.2.size (fun k e => by have := (hr k e).1; omega)⟩
theorem out_ans {w W : World} {S : Fs} {O : Option Addr} {on oc cnt : Nat} (h : Out w S O on oc cnt W) : AnsReach w S (.returned (.agg #[.slice O on oc, .map (some (w.heap.size + 1 + 1)), .bool S.2])) W := ⟨O, on, oc, _, cnt, rfl, h.2.1.wider (by omega) (Nat.le_refl _), h.2.2.1, by omega, h.2.2.2⟩
theorem boxInt_at {W : World} {p : Addr} {x : Nat} (h : W.cell? p = some (.int .i64 (x : Int))) : boxInt W (.pointer (some p)) = x := by
 show (intOf ((W.cell? p).getD undef)).toNat = x
 rw [h]
 simp [intOf]
def Sp (i dd : Nat) (S0 : Fs) (pre : List St) : Fs := pre.foldl (addF i dd) S0
theorem sp_snoc {i dd : Nat} {S0 : Fs} {pre : List St} {y : St} : Sp i dd S0 (pre ++ [y]) = addF i dd (Sp i dd S0 pre) y := by unfold Sp; rw [List.foldl_append]; rfl
theorem sp_full {sg : List Int} {rs : List Rl} {t : List Int} {n i : Nat} {f : Fi} {pre : List St} (hi : i + 1 ≤ 60) (hf : (fdN sg rs t n i).1[i]? = some f) (hn : f.2.2 ≠ n) (hp : pre <+: stepsL sg rs (termF f)) (h : (Sp i (f.2.2 + 1) (fdN sg rs t n i) pre).2 = false) : fdA sg rs t n = Sp i (f.2.2 + 1) (fdN sg rs t n i) pre := by
 have e : fdN sg rs t n (i + 1) = Sp i (f.2.2 + 1) (fdN sg rs t n i) pre := by
   rw [fd_step hf hn]
   obtain ⟨r, hr⟩ := hp
   rw [← hr, List.foldl_append]
   exact fold_off h
 rw [← e]
 exact fd_end hi (.inr (.inl (by rw [e]; exact h)))
theorem sp_len {sg : List Int} {rs : List Rl} {t : List Int} {n i : Nat} {f : Fi} {pre : List St} {S0 : Fs} (h : Inv sg rs t n S0 i) (hf : S0.1[i]? = some f) (hn : f.2.2 ≠ n) (hp : pre <+: stepsL sg rs (termF f)) : (Sp i (f.2.2 + 1) S0 pre).1.length ≤ 60 := (inv_fold hn pre S0 h hf (fun x hx => hp.subset hx)).1.len60
theorem ir_add {w W W2 : World} {a v : Value} {S S' : Fs} {O : Option Addr} {on oc cnt m q : Nat} {Q : Nat → Prop} {Ds : List Nat} {e : Ending} (R : Ro w a v S O on oc cnt W) (hA : AnsAdd (w.heap.size + 1 + 1 + 1 + 1) (w.heap.size + 1 + 1 + 1) (w.heap.size + 1 + 1) cnt S.1.length S' O W e W2) (hc : cnt ≤ S.1.length)
   (hO : ∀ k, blk O = some k → ¬ Q k ∧ (k < m ∨ q ≤ k)) (hQ : ∀ k, Q k → k < m) (hq1 : ¬ Q (w.heap.size + 1 + 1 + 1)) (hq2 : ¬ Q (w.heap.size + 1 + 1)) (hm : w.heap.size + 1 + 1 + 1 < m) (hmW : m ≤ W.heap.size) (hqW : q ≤ W.heap.size) (D : Dok (w.heap.size + 1 + 1 + 1 + 1) Ds W) :
   ∃ O' on' oc' cnt', Ro w a v S' O' on' oc' cnt' W2 ∧ (S'.2 = true → cnt' ≤ S'.1.length) ∧ KpsQ Q m q W W2 ∧ (∀ k, blk O' = some k → ¬ Q k ∧ (k < m ∨ q ≤ k)) ∧ Dok (w.heap.size + 1 + 1 + 1 + 1) Ds W2 := by
 obtain ⟨O', on', oc', cnt', R', h2, hT, hO'⟩ := R.add hA
 have hcl : ∀ k, blk O = some k → ∃ o : Obj, W.heap[k]? = some o ∧ o.isCells = true := fun k hk => by
   obtain ⟨-, -, cs, hr⟩ := R.cells k hk
   exact ⟨_, hr, rfl⟩
 refine ⟨O', on', oc', cnt', R', fun h => by have := h2 h; omega, ⟨⟨hT.os, hT.tape, hT.output, hT.size, fun k hk hl => hT.block k hl (fun e => hq1 (e ▸ hk)) (fun e => hq2 (e ▸ hk)) (fun e => (hO k e.symm).1 hk)⟩, ⟨hT.size, fun k o hk ho hcf => ?_⟩, fun k h1 h3 => hT.block k (by omega) (by omega) (by omega) (fun e => by have := (hO k e.symm).2; omega)⟩, fun k hk => ?_, dok_tcr D hT (by omega) (by omega) hcl⟩
 · rw [hT.block k (Array.getElem?_eq_some_iff.1 ho).1 (by omega) (by omega) (fun e => by
     obtain ⟨o', ho', hc'⟩ := hcl k e.symm
     rw [ho] at ho'
     injection ho' with ho'
     rw [← ho', hcf] at hc'
     cases hc')]
   exact ho
 · rcases hO' k hk with h | h
   · exact hO k h
   · exact ⟨fun hk2 => by have := hQ k hk2; omega, .inr (by omega)⟩
def Ir (w : World) (a v : Value) (S0 : Fs) (i dd lb ib : Nat) (last : Array Value) (Q : Nat → Prop) (m : Nat) (Ds : List Nat) (q : Nat) (pre : List St) (X : World) : Prop :=
 ∃ (O : Option Addr) (on oc cnt : Nat), Ro w a v (Sp i dd S0 pre) O on oc cnt X ∧ (Sp i dd S0 pre).2 = true ∧ cnt ≤ (Sp i dd S0 pre).1.length ∧ Row X lb 72 last ∧ Row X ib 3 #[.int .i64 (i : Int)] ∧ Dok (w.heap.size + 1 + 1 + 1 + 1) Ds X ∧ ∀ k, blk O = some k → ¬ Q k ∧ (k < m ∨ q ≤ k)
def Ixr (w : World) (S0 S : Fs) (i dd : Nat) (Ds : List Nat) (pre : List St) (X : World) : Prop := ∃ (O : Option Addr) (on oc cnt : Nat), S = Sp i dd S0 pre ∧ Out w S O on oc cnt X ∧ Dok (w.heap.size + 1 + 1 + 1 + 1) Ds X
theorem ir_own {w V : World} {a v : Value} {S0 : Fs} {i dd lb ib m : Nat} {last : Array Value} {Q : Nat → Prop} {Ds : List Nat} (h0 : Dok (w.heap.size + 1 + 1 + 1 + 1) Ds V) (hm : w.heap.size + 1 + 1 < V.heap.size) (q : Nat) : OwnFrom V.heap.size (Ir w a v S0 i dd lb ib last Q m Ds q) := fun pre X Y row hs hg hr => by
 obtain ⟨O, on, oc, cnt, h1, h2, h3, h4, h5, h6, h7⟩ := hs
 have hr' : ∀ r, row = some r → ∃ o : Obj, X.heap[r]? = some o ∧ o.isCells = false := fun r e => (hr r e).2
 exact ⟨O, on, oc, cnt, ro_own Unit w a v _ O on oc cnt hm () X Y row h1 hg hr, h2, h3, (row_turn hg hr' h4).trans h4, (row_turn hg hr' h5).trans h5, ownFrom_dok (β := Unit) h0 (Nat.le_refl _) () X Y row h6 hg hr, h7⟩
theorem ixr_own {w V : World} {S0 S : Fs} {i dd : Nat} {Ds : List Nat} (h0 : Dok (w.heap.size + 1 + 1 + 1 + 1) Ds V) (hm : w.heap.size + 1 + 1 < V.heap.size) : OwnFrom V.heap.size (Ixr w S0 S i dd Ds) := fun pre X Y row hs hg hr => by
 obtain ⟨O, on, oc, cnt, h1, h2, h3⟩ := hs
 exact ⟨O, on, oc, cnt, h1, out_own w S O on oc cnt hm () X Y row h2 hg hr, ownFrom_dok (β := Unit) h0 (Nat.le_refl _) () X Y row h3 hg hr⟩
end iter
end
section
namespace iter
open Go.RowKit Go.Shelf base ints sig term termOk endAt endOf marks app sym sub segs segsHelp shifted termFacts shape kindsR kindsW ruleMath ruleSpec ruleImpl stepMath walkMath stepSpec stepImpl rangeGive ownL reachMath findW findSpec known reachImpl drawX
set_option maxRecDepth 100000
attribute [local go_sem] Oper.semAt_some
set_option maxHeartbeats 900000 in
theorem implReachOf (a v : Value) (b off m c : Nat) (d : Dat sSystem) (t : List Int) (n : Nat) (w : World) (h : Rd w w.heap.size sSystem [a, v] d) (hT : Seg w w.heap.size (some ⟨b, off, none⟩) m t) (hz : sz sSystem d ≤ 1048576) (hok : rightB d.1 d.2 t = true) (hn : n ≤ 60) :
   Calls Tryz.prog 29 #[.agg #[a, v], .slice (some ⟨b, off, none⟩) m c, .int .i64 (n : Int)] w (AnsReach w (fdA d.1 d.2 t n)) := by
 refine (callsIn_wide (n := 6)).1 ?_
 obtain ⟨S, hS⟩ : ∃ S, fdA d.1 d.2 t n = S := ⟨_, rfl⟩
 rw [hS]
 refine callsIn_of_wp_marks Tryz.func29 rfl trivial ?_ rfl
 simp only [Tryz.ntmps29, List.size_toArray, List.length_cons, List.length_nil, Nat.reduceAdd, Nat.reduceSub, Array.replicate_succ, Array.replicate_zero, List.push_toArray, List.append_toArray, List.nil_append, List.cons_append]
 have hmm := @run_makeMap Tryz.prog
 have HS := Lib.hid (show fdA d.1 d.2 t n = S ∧ rightB d.1 d.2 t = true from ⟨hS, hok⟩)
 have HH := Lib.hid (show Rd w w.heap.size sSystem [a, v] d ∧ sz sSystem d ≤ 1048576 from ⟨h, hz⟩)
 have hsmall : Small t := by
   have h2 := hok
   unfold rightB at h2
   rw [Bool.and_eq_true] at h2
   exact small_term h2.2
 have hm60 : m ≤ 60 := by have := hT.1; have := hsmall.1; omega
 obtain ⟨W, hW⟩ : ∃ W, W = (((w.alloc (.cells #[a, v] 60)).alloc (.cells #[.slice none 0 0, .map none, .bool false] 67)).alloc (.map #[] 0)).alloc (.cells #[.slice none 0 0, .map (some (w.heap.size + 1 + 1)), .bool true] 67) := ⟨_, rfl⟩
 have H0 : Ro w a v ([], true) none 0 0 0 W := by rw [hW]; exact ro_start w a v
 have LC := Lib.hid (cloneInts b off m c t W (hT.next H0.bel) (by omega))
 clear hS h hz hok
 gi_wp2_with (refine ⟨trivial, ?_⟩; gi_at_call 38; rw [← hW]; refine (callsIn_wide.2 LC.out).mono ?_; rintro e w2 ⟨U, un, uc, rfl, oU, bb⟩; refine (?_ : Hid _).out)
 have oU2 : Owned w2 W.heap.size w2.heap.size sI [.slice U un uc] ((0, 0, t) : St).2.2 := ow_ints.2 (Go.Proofs.YtifckjchmjmhoabGreat.kinds.Ownd.of_own oU)
 have H2 := Lib.hid (H0.below bb)
 have rf2 : Rf (w.heap.size + 1 + 1 + 1 + 1) W.heap.size (w.heap.size + 1 + 1 + 1) (w.heap.size + 1 + 1) 0 ([], true) none 0 0 w2 := ⟨H0.rf.row.next bb, H0.rf.ow.next bb, H0.rf.kn.below bb⟩
 have LA := Lib.hid (implAdd (w.heap.size + 1 + 1 + 1 + 1) W.heap.size (w.heap.size + 1 + 1 + 1) (w.heap.size + 1 + 1) 0 ([], true) none 0 0 (0, 0, t) U un uc 0 0 w2 rf2 oU2 hsmall rfl (by simp) (by omega) (by omega) (by omega) (by omega) H0.sz bb.size)
 clear LC oU oU2 rf2 H0 hW bb hT hmm
 refine Lib.hid ?_
 gi_wp2_with (refine ⟨trivial, ?_⟩; gi_at_call 55; refine (callsIn_wide.2 LA.out).mono ?_; rintro e w3 hA; obtain ⟨rv, rfl⟩ := hA.1; refine (?_ : Hid _).out)
 obtain ⟨O, on, oc, cnt, R3, hc3, -, -⟩ := H2.out.add hA
 have hc3 := hc3 rfl
 clear hA H2 LA w2 W
 have e0 : addF 0 0 ([], true) (0, 0, t) = fdN d.1 d.2 t n 0 := by
   rw [add_new rfl (by simp [termsF]) (by simp)]
   rfl
 rw [e0] at R3 hc3
 have hc3 : cnt ≤ (fdN d.1 d.2 t n 0).1.length := by simpa using hc3
 clear e0
 refine Lib.hid ?_
 gi_wp2
 refine wpIn_loop (fun a' w' => ∃ (i on oc cnt ib : Nat) (O : Option Addr) (Ds : List Nat) (u4 u5 u9 u10 u11 u12 u13 u14 u15 u16 u17 u18 u19 u20 u21 u22 u23 u24 u25 u26 u27 u28 u29 u30 u31 u32 u33 u34 u35 u36 u37 u38 u39 u40 u41 u42 u43 u44 u45 u46 u47 u48 u49 u50 u51 u52 u53 u54 u55 u56 u57 u58 : Value), a' = { tmps := #[.agg #[a, v], .slice (some ⟨b, off, none⟩) m c, .int .i64 (n : Int), .pointer (some ⟨w.heap.size, 0, none⟩), u4, u5, .pointer (some ⟨w.heap.size + 1, 0, none⟩), .pointer (some ⟨w.heap.size + 1 + 1 + 1, 0, none⟩), .pointer (some ⟨ib, 0, none⟩), u9, u10, u11, u12, u13, u14, u15, u16, u17, u18, u19, u20, u21, u22, u23, u24, u25, u26, u27, u28, u29, u30, u31, u32, u33, u34, u35, u36, u37, u38, u39, u40, u41, u42, u43, u44, u45, u46, u47, u48, u49, u50, u51, u52, u53, u54, u55, u56, u57, u58], defers := Ds.map mark } ∧ i ≤ 60 ∧ Ro w a v (fdN d.1 d.2 t n i) O on oc cnt w' ∧ (fdN d.1 d.2 t n i).2 = true ∧ cnt ≤ (fdN d.1 d.2 t n i).1.length ∧ Row w' ib 3 #[.int .i64 (i : Int)] ∧ w.heap.size + 1 + 1 + 1 + 1 ≤ ib ∧ Dok (w.heap.size + 1 + 1 + 1 + 1) Ds w') (fun a' w' => 61 - boxInt w' (a'.tmps.getD 8 undef)) ?_ ?_
 · exact ⟨0, on, oc, cnt, _, O, [], _, _, _, _, _, _, _, _, _, _, _, _, _, _, _, _, _, _, _, _, _, _, _, _, _, _, _, _, _, _, _, _, _, _, _, _, _, _, _, _, _, _, _, _, _, _, _, _, _, _, _, _, rfl, Nat.zero_le _, R3.below ((Below.refl _ _).alloc (Nat.le_refl _) _), rfl, hc3, Row.new _ _ _, R3.sz, List.nodup_nil, fun D h => by cases h⟩
 · clear R3 hc3
   rintro a' wr ⟨i, on, oc, cnt, ib, O, Ds, u4, u5, u9, u10, u11, u12, u13, u14, u15, u16, u17, u18, u19, u20, u21, u22, u23, u24, u25, u26, u27, u28, u29, u30, u31, u32, u33, u34, u35, u36, u37, u38, u39, u40, u41, u42, u43, u44, u45, u46, u47, u48, u49, u50, u51, u52, u53, u54, u55, u56, u57, u58, rfl, hi60, R, hall, hcnt, ri, hib, hD⟩
   have hInv := inv_fd (sg := d.1) (rs := d.2) (t := t) (n := n) i
   obtain ⟨Si, hSi⟩ : ∃ Si, fdN d.1 d.2 t n i = Si := ⟨_, rfl⟩
   rw [hSi] at R hall hcnt hInv
   have hon : Si.1.length = on := by have := R.rf.ow.1; simpa using this
   have kI : wr.cell? ⟨ib, 0, none⟩ = some (.int .i64 (i : Int)) := ri.cell 0
   have k0 : wr.cell? ⟨w.heap.size + 1 + 1 + 1, 0, none⟩ = some (.slice O on oc) := R.rf.row.cell 0
   have k1 : wr.cell? ⟨w.heap.size + 1 + 1 + 1, 1, none⟩ = some (.map (some (w.heap.size + 1 + 1))) := R.rf.row.cell 1
   have k2 : wr.cell? ⟨w.heap.size + 1 + 1 + 1, 2, none⟩ = some (.bool Si.2) := R.rf.row.cell 2
   have hon60 : on ≤ 60 := by have := hInv.len60; omega
   by_cases hi : i < on
   · obtain ⟨f, hf⟩ : ∃ f, Si.1[i]? = some f := ⟨_, List.getElem?_eq_getElem (by omega)⟩
     obtain ⟨g, T, tn, tc, G, rfl, -, ⟨e0, e1, e2, e3, e4⟩, hgG, hG, hT⟩ := find_at R.rf.ow hf
     have i0 : (0 : Int) ≤ (i : Int) := by omega
     have i1 : (i : Int) < (on : Int) := by omega
     have hdn : f.2.2 ≤ n := hInv.dn f (List.mem_of_getElem? hf)
     by_cases hst : f.2.2 < n
     · have hst1 : (f.2.2 : Int) < (n : Int) := by omega
       obtain ⟨lb, hlb⟩ : ∃ lb, wr.heap.size = lb := ⟨_, rfl⟩
       have f60 : (f.2.2 : Int) ≤ 60 := by omega
       have f0 : (0 : Int) ≤ (f.2.2 : Int) := by omega
       have HF0 := Lib.hid (show Si.1[i]? = some f ∧ f.2.2 ≠ n ∧ Inv d.1 d.2 t n Si i ∧ fdN d.1 d.2 t n i = Si from ⟨hf, by omega, hInv, hSi⟩)
       have hokT : rightB d.1 d.2 (termF f) = true := by
         have h2 := HS.out.2
         unfold rightB at h2 ⊢
         rw [Bool.and_eq_true] at h2 ⊢
         exact ⟨h2.1, find_ok h2.1 h2.2 hInv (List.mem_of_getElem? hf)⟩
       have HRT := Lib.hid hokT
       have q9 := (Row.new wr 72 #[.int .i64 f.1.1, .int .i64 f.1.2.1, .slice T tn tc, .int .i64 (f.2.1 : Int), .int .i64 (f.2.2 : Int)])
       have kA0 : (wr.alloc (.cells #[.int .i64 f.1.1, .int .i64 f.1.2.1, .slice T tn tc, .int .i64 (f.2.1 : Int), .int .i64 (f.2.2 : Int)] 72)).cell? ⟨w.heap.size, 0, none⟩ = some a := (R.sys.alloc _).cell 0
       have kA1 : (wr.alloc (.cells #[.int .i64 f.1.1, .int .i64 f.1.2.1, .slice T tn tc, .int .i64 (f.2.1 : Int), .int .i64 (f.2.2 : Int)] 72)).cell? ⟨w.heap.size, 1, none⟩ = some v := (R.sys.alloc _).cell 1
       have kA2 : (wr.alloc (.cells #[.int .i64 f.1.1, .int .i64 f.1.2.1, .slice T tn tc, .int .i64 (f.2.1 : Int), .int .i64 (f.2.2 : Int)] 72)).cell? ⟨wr.heap.size, 2, none⟩ = some (.slice T tn tc) := q9.cell 2
       have HR := Lib.hid (show Ro w a v Si (some ⟨g, 0, none⟩) on oc cnt wr ∧ Row wr ib 3 #[.int .i64 (i : Int)] ∧ Dok (w.heap.size + 1 + 1 + 1 + 1) Ds wr ∧ RdQ wr (fun b => b ∈ G) sI [.slice T tn tc] (termF f) ∧ g ∉ G ∧ (∀ k ∈ G, w.heap.size + 1 + 1 + 1 + 1 ≤ k ∧ k < wr.heap.size ∧ k < wr.heap.size) ∧ Si.2 = true ∧ cnt ≤ Si.1.length from ⟨R, ri, hD, hT, hgG, hG, hall, hcnt⟩)
       clear hInv hSi hf hT hG hgG hdn hst hokT R ri hD hcnt q9 hlb lb
       gi_wp2_with (refine ⟨trivial, ?_⟩; gi_at_call 56; refine (callsIn_wide.2 (stepsFn a v T tn tc _)).mono ?_; rintro e w3 ⟨rfl, hw3⟩; subst hw3)
       obtain ⟨Wb, hWb⟩ : ∃ Wb, Wb = ((wr.alloc (.cells #[.int .i64 f.1.1, .int .i64 f.1.2.1, .slice T tn tc, .int .i64 (f.2.1 : Int), .int .i64 (f.2.2 : Int)] 72)).alloc (.cells #[a, v] 60)).alloc (.cells #[.slice T tn tc] 24) := ⟨_, rfl⟩
       rw [← hWb]
       have bB : Below wr.heap.size wr Wb := by rw [hWb]; exact (((Below.refl _ wr).alloc (Nat.le_refl _) _).alloc (by simp) _).alloc (by simp; omega) _
       have zB : Wb.heap.size = wr.heap.size + 1 + 1 + 1 := by rw [hWb]; simp
       have rL : Row Wb wr.heap.size 72 #[.int .i64 f.1.1, .int .i64 f.1.2.1, .slice T tn tc, .int .i64 (f.2.1 : Int), .int .i64 (f.2.2 : Int)] := by rw [hWb]; exact ((Row.new wr _ _).alloc _).alloc _
       have r1 : Row Wb (wr.heap.size + 1) 60 #[a, v] := by
         rw [hWb]
         have := (Row.new (wr.alloc (.cells #[.int .i64 f.1.1, .int .i64 f.1.2.1, .slice T tn tc, .int .i64 (f.2.1 : Int), .int .i64 (f.2.2 : Int)] 72)) 60 #[a, v]).alloc (.cells #[.slice T tn tc] 24)
         simpa using this
       have r2 : Row Wb (wr.heap.size + 1 + 1) 24 #[.slice T tn tc] := by
         rw [hWb]
         have := Row.new ((wr.alloc (.cells #[.int .i64 f.1.1, .int .i64 f.1.2.1, .slice T tn tc, .int .i64 (f.2.1 : Int), .int .i64 (f.2.2 : Int)] 72)).alloc (.cells #[a, v] 60)) 24 #[.slice T tn tc]
         simpa using this
       obtain ⟨R, ri, hD, hT, hgG, hG, hall2, hcnt⟩ := HR.out
       have zw := R.sz
       have zi := ri.lt
       obtain ⟨hgl, hgu, gcs, hgr⟩ := R.cells g rfl
       have hgi : g ≠ ib := fun e => by
         rw [e] at hgr
         have q := hgr.symm.trans ri
         injection q with q
         injection q with q1 q2
         exact absurd q2 (by decide)
       obtain ⟨Q, hQd⟩ : ∃ Q : Nat → Prop, Q = fun k => k < w.heap.size ∨ k ∈ G ∨ k = wr.heap.size ∨ k = wr.heap.size + 1 ∨ k = wr.heap.size + 1 + 1 ∨ k = ib := ⟨_, rfl⟩
       have hQ : ∀ k, Q k → k < Wb.heap.size := fun k hk => by
         rw [hQd] at hk
         have hk : k < w.heap.size ∨ k ∈ G ∨ k = wr.heap.size ∨ k = wr.heap.size + 1 ∨ k = wr.heap.size + 1 + 1 ∨ k = ib := hk
         rcases hk with h | h | h | h | h | h
         · omega
         · have := (hG k h).2.1; omega
         all_goals omega
       have hnQ : ∀ k, w.heap.size ≤ k → k < wr.heap.size → k ∉ G → k ≠ ib → ¬ Q k := fun k h1 h2 h3 h4 hk => by
         rw [hQd] at hk
         have hk : k < w.heap.size ∨ k ∈ G ∨ k = wr.heap.size ∨ k = wr.heap.size + 1 ∨ k = wr.heap.size + 1 + 1 ∨ k = ib := hk
         rcases hk with h | h | h | h | h | h
         · omega
         · exact h3 h
         all_goals omega
       have HQ := Lib.hid (show (∀ k, Q k → k < Wb.heap.size) ∧ ¬ Q (w.heap.size + 1 + 1 + 1) ∧ ¬ Q (w.heap.size + 1 + 1) ∧ Q wr.heap.size ∧ Q ib from ⟨hQ, hnQ _ (by omega) (by omega) (fun h => by have := (hG _ h).1; omega) (by omega), hnQ _ (by omega) (by omega) (fun h => by have := (hG _ h).1; omega) (by omega), by rw [hQd]; exact .inr (.inr (.inl rfl)), by rw [hQd]; exact .inr (.inr (.inr (.inr (.inr rfl))))⟩)
       have bw : Below w.heap.size w Wb := next_trans R.bel bB
       have hsR : RdQ Wb (QW Q Wb) sSystem [a, v] d := ((rd_q HH.out.1).keep fun k hk => bw.block k hk).mono fun k hk => ⟨by rw [hQd]; exact .inl hk, by omega⟩
       have hTR : RdQ Wb (QW Q Wb) sI [.slice T tn tc] (termF f) := (hT.keep fun k hk => bB.block k (hG k hk).2.1).mono fun k hk => ⟨by rw [hQd]; exact .inr (.inl hk), by have := (hG k hk).2.1; omega⟩
       have HG := steps_giveQ 5 (by decide) (wr.heap.size + 1) (wr.heap.size + 1 + 1) Q a v (.slice T tn tc) d (termF f) Wb hQ (by rw [hQd]; exact .inr (.inr (.inr (.inl rfl)))) (by rw [hQd]; exact .inr (.inr (.inr (.inr (.inl rfl))))) r1 r2 hsR hTR HH.out.2 HRT.out
       have HKI := Lib.hid kI
       have DB : Dok (w.heap.size + 1 + 1 + 1 + 1) Ds Wb := ⟨hD.1, fun D hm => ⟨(hD.2 D hm).1, (bB.block D (Array.getElem?_eq_some_iff.1 (hD.2 D hm).2).1).trans (hD.2 D hm).2⟩⟩
       have HDB := Lib.hid (show Dok (w.heap.size + 1 + 1 + 1 + 1) Ds Wb ∧ w.heap.size + 1 + 1 + 1 < wr.heap.size ∧ Wb.heap.size = wr.heap.size + 1 + 1 + 1 from ⟨DB, zw, zB⟩)
       have RB := R.below bB
       have riB := ri.next bB
       have hO0 : ∀ k, blk (some (⟨g, 0, none⟩ : Addr)) = some k → ¬ Q k ∧ (k < Wb.heap.size ∨ False) := fun k hk => by
         have hk : some g = some k := hk
         injection hk with hk
         subst hk
         exact ⟨hnQ g (by omega) hgu hgG hgi, .inl (by omega)⟩
       clear hWb r1 r2 hsR hTR hD hT hgG hG hgr R ri bB bw hgi hnQ hQd kA0 kA1 kA2 k0 k1 k2 kI e0 e1 e2 e3 e4 HR
       refine rangeGiveQ (t := 70) (gf := 88) (lb := #[.pointer (some ⟨wr.heap.size + 1, 0, none⟩), .pointer (some ⟨wr.heap.size + 1 + 1, 0, none⟩)]) rfl (enters_of Tryz.func88 (by kernel_rfl) rfl) hQ HG (Below.refl _ _)
         (fun q => Ir w a v Si i (f.2.2 + 1) wr.heap.size ib #[.int .i64 f.1.1, .int .i64 f.1.2.1, .slice T tn tc, .int .i64 (f.2.1 : Int), .int .i64 (f.2.2 : Int)] Q Wb.heap.size Ds q) (fun _ => Ixr w Si S i (f.2.2 + 1) Ds) (fun q => ir_own DB (by omega) q) (fun _ => ixr_own DB (by omega))
         (fun q => ⟨_, on, oc, cnt, RB, hall2, hcnt, rL, riB, DB, fun k hk => ⟨(hO0 k hk).1, .inl ((hO0 k hk).2.elim id False.elim)⟩⟩)
         (fun es Bx => { tmps := #[.agg #[a, v], .slice (some ⟨b, off, none⟩) m c, .int .i64 (n : Int), .pointer (some ⟨w.heap.size, 0, none⟩), u4, u5, .pointer (some ⟨w.heap.size + 1, 0, none⟩), .pointer (some ⟨w.heap.size + 1 + 1 + 1, 0, none⟩), .pointer (some ⟨ib, 0, none⟩), .pointer (some ⟨wr.heap.size, 0, none⟩), .pointer (some ⟨Bx, 0, none⟩), u11, u12, u13, u14, u15, u16, u17, .int .i64 (i : Int), .pointer (some ⟨w.heap.size + 1 + 1 + 1, 0, none⟩), .slice (some ⟨g, 0, none⟩) on oc, .int .i64 (on : Int), .bool true, .bool true, .pointer (some ⟨w.heap.size + 1 + 1 + 1, 0, none⟩), .slice (some ⟨g, 0, none⟩) on oc, .int .i64 (i : Int), .pointer (some ⟨g, i * 5, none⟩), .pointer (some ⟨g, i * 5 + 4, none⟩), .int .i64 (f.2.2 : Int), .int .i64 (n : Int), .bool true, .bool true, u33, u34, .pointer (some ⟨w.heap.size + 1 + 1 + 1, 0, none⟩), .slice (some ⟨g, 0, none⟩) on oc, .int .i64 (i : Int), .pointer (some ⟨g, i * 5, none⟩), .agg #[.int .i64 f.1.1, .int .i64 f.1.2.1, .slice T tn tc, .int .i64 (f.2.1 : Int), .int .i64 (f.2.2 : Int)], .agg #[a, v], .pointer (some ⟨wr.heap.size, 0, none⟩), .pointer (some ⟨wr.heap.size, 2, none⟩), .slice T tn tc, .func (.func 88) #[] #[.pointer (some ⟨wr.heap.size + 1, 0, none⟩), .pointer (some ⟨wr.heap.size + 1 + 1, 0, none⟩)], .agg es.toArray, u46, u47, u48, u49, u50, u51, u52, u53, u54, u55, u56, u57, u58], defers := [] }) ?assign ?body ?done ?stop
       case assign =>
         intro l es y lo X K ho hK
         obtain ⟨U, un, uc, rfl, -⟩ := step_owned ho
         gi_wp2
         first | exact hK | simpa using hK
       case body =>
         clear RB riB rL hO0 HG DB hall2 hcnt hall hQ
         rintro l q pre y V X Bx es hq1 hq2 hI bV hBV rX hXB oY hpre
         obtain ⟨O, on2, oc2, cnt2, R, hall, hcnt, rL, rI, hD, hOk⟩ := hI
         obtain ⟨U, un, uc, rfl, oU⟩ := step_owned oY
         have hpre0 : pre <+: stepsL d.1 d.2 (termF f) := (List.prefix_append pre [y]).trans hpre
         have h60 := sp_len HF0.out.2.2.1 HF0.out.1 HF0.out.2.1 hpre0
         have hmem : y ∈ stepsL d.1 d.2 (termF f) := hpre.subset (by simp)
         have hsm : Small y.2.2 := by
           have h2 := HRT.out
           unfold rightB at h2
           rw [Bool.and_eq_true] at h2
           exact small_term (stepAt_ok (steps_at h2.1 h2.2 hmem))
         have oU2 : Owned X V.heap.size X.heap.size sI [.slice U un uc] y.2.2 := by
           obtain ⟨F, h1, h2, h3⟩ := oU
           exact ⟨F, h1, h2, fun k hk => ⟨(h3 k hk).1, by have := (h3 k hk).2; omega⟩⟩
         have RX := R.below bV
         have zV := R.sz
         have LA := implAdd (w.heap.size + 1 + 1 + 1 + 1) V.heap.size (w.heap.size + 1 + 1 + 1) (w.heap.size + 1 + 1) cnt2 (Sp i (f.2.2 + 1) Si pre) O on2 oc2 y U un uc i (f.2.2 + 1) X ⟨RX.rf.row, R.rf.ow.next bV, RX.rf.kn⟩ oU2 hsm hall h60 (by omega) (by omega) (by omega) (by omega) (by omega) bV.size
         rw [show ((f.2.2 + 1 : Nat) : Int) = (f.2.2 : Int) + 1 by omega] at LA
         obtain ⟨S', hS'⟩ : ∃ S', addF i (f.2.2 + 1) (Sp i (f.2.2 + 1) Si pre) y = S' := ⟨_, rfl⟩
         rw [hS'] at LA
         have HSp := Lib.hid (show Sp i (f.2.2 + 1) Si (pre ++ [y]) = S' from by rw [sp_snoc, hS'])
         have HL := Lib.hid LA
         have HX := Lib.hid (show Ro w a v (Sp i (f.2.2 + 1) Si pre) O on2 oc2 cnt2 X ∧ cnt2 ≤ (Sp i (f.2.2 + 1) Si pre).1.length ∧ (∀ k, blk O = some k → ¬ Q k ∧ (k < Wb.heap.size ∨ q ≤ k)) ∧ Dok (w.heap.size + 1 + 1 + 1 + 1) Ds X ∧ Row X wr.heap.size 72 #[.int .i64 f.1.1, .int .i64 f.1.2.1, .slice T tn tc, .int .i64 (f.2.1 : Int), .int .i64 (f.2.2 : Int)] ∧ Row X ib 3 #[.int .i64 (i : Int)] ∧ Wb.heap.size ≤ X.heap.size ∧ q ≤ X.heap.size from ⟨RX, hcnt, hOk, ⟨hD.1, fun D hm => ⟨(hD.2 D hm).1, (bV.block D (Array.getElem?_eq_some_iff.1 (hD.2 D hm).2).1).trans (hD.2 D hm).2⟩⟩, rL.next bV, rI.next bV, by omega, by omega⟩)
         have HP := Lib.hid hpre
         have x0 : X.cell? ⟨Bx, 0, none⟩ = some (.int .i64 y.1) := rX.cell 0
         have x1 : X.cell? ⟨Bx, 1, none⟩ = some (.int .i64 y.2.1) := rX.cell 1
         have x2 : X.cell? ⟨Bx, 2, none⟩ = some (.slice U un uc) := rX.cell 2
         have xi : X.cell? ⟨ib, 0, none⟩ = some (.int .i64 (i : Int)) := (rI.next bV).cell 0
         have xl : X.cell? ⟨wr.heap.size, 4, none⟩ = some (.int .i64 (f.2.2 : Int)) := (rL.next bV).cell 4
         clear LA hS' RX R hall hcnt rL rI hD hOk oU oU2 oY hpre hpre0 h60 hmem hsm rX bV
         gi_wp2_with (refine ⟨trivial, ?_⟩; gi_at_call 55; refine (CallsIn.inRound l (callsIn_wide.2 HL.out)).mono ?_; rintro e X2 hA; obtain ⟨rv, rfl⟩ := hA.1; refine (?_ : Hid _).out)
         obtain ⟨O', on', oc', cnt', R', hc', hK, hO', hD'⟩ := ir_add (m := Wb.heap.size) (q := q) HX.out.1 hA HX.out.2.1 HX.out.2.2.1 HQ.out.1 HQ.out.2.1 HQ.out.2.2.1 (by omega) HX.out.2.2.2.2.2.2.1 HX.out.2.2.2.2.2.2.2 HX.out.2.2.2.1
         have m2 : X2.cell? ⟨w.heap.size + 1 + 1 + 1, 2, none⟩ = some (.bool S'.2) := R'.rf.row.cell 2
         cases hs : S'.2 with
         | true =>
           have F := Lib.hid (show KpsQ Q Wb.heap.size q X X2 ∧ Ir w a v Si i (f.2.2 + 1) wr.heap.size ib #[.int .i64 f.1.1, .int .i64 f.1.2.1, .slice T tn tc, .int .i64 (f.2.1 : Int), .int .i64 (f.2.2 : Int)] Q Wb.heap.size Ds q (pre ++ [y]) X2 from ⟨hK, O', on', oc', cnt', by rw [HSp.out]; exact R', by rw [HSp.out]; exact hs, by rw [HSp.out]; exact hc' hs, hK.1.row HQ.out.2.2.2.1 HX.out.2.2.2.2.1, hK.1.row HQ.out.2.2.2.2 HX.out.2.2.2.2.2.1, hD', hO'⟩)
           rw [hs] at m2
           clear hA R' hc' hK hO' hD' HL
           refine Lib.hid ?_
           gi_wp2
           first | exact F.out | (have q := F.out; rw [HDB.out.2.2] at q; exact q)
         | false =>
           have HEND := Lib.hid (show S = S' from by
             rw [← HS.out.1, ← HSp.out, ← HF0.out.2.2.2]
             exact sp_full (by omega) (by rw [HF0.out.2.2.2]; exact HF0.out.1) HF0.out.2.1 HP.out (by rw [HF0.out.2.2.2, HSp.out]; exact hs))
           have ⟨y0, g0, y1, g1, y2, g2⟩ := out_cells R' (.slice O' on' oc') (.map (some (w.heap.size + 1 + 1)))
           have m0 : X2.cell? ⟨w.heap.size + 1 + 1 + 1, 0, none⟩ = some (.slice O' on' oc') := R'.rf.row.cell 0
           have m1 : X2.cell? ⟨w.heap.size + 1 + 1 + 1, 1, none⟩ = some (.map (some (w.heap.size + 1 + 1))) := R'.rf.row.cell 1
           have Z := out_at R' hD' (by omega)
           rw [hs] at Z m2
           have F := Lib.hid (show KeepsFrom Wb.heap.size X (outZ w O' on' oc' false X2) ∧ Ixr w Si S i (f.2.2 + 1) Ds (pre ++ [y]) (outZ w O' on' oc' false X2) from ⟨hK.2.1.trans (Z.2.2 _ (by omega)), O', on', oc', cnt', by rw [HSp.out]; exact HEND.out, by rw [HEND.out]; exact Z.1, Z.2.1⟩)
           unfold outZ at F
           clear hA R' hc' hK hO' hD' HL Z
           refine Lib.hid ?_
           gi_wp2
           first | exact F.out | (have q := F.out; rw [HDB.out.2.2] at q; exact q)
       case done =>
         rintro D q X hDb hq2 ⟨O, on2, oc2, cnt2, R, hall9, hcnt9, rL9, rI, hD9, -⟩ hd
         have e9 : Sp i (f.2.2 + 1) Si (stepsL d.1 d.2 (termF f)) = fdN d.1 d.2 t n (i + 1) := by
           rw [fd_step (by rw [HF0.out.2.2.2]; exact HF0.out.1) HF0.out.2.1, HF0.out.2.2.2]
           rfl
         rw [e9] at R hall9 hcnt9
         have xi : X.cell? ⟨ib, 0, none⟩ = some (.int .i64 (i : Int)) := rI.cell 0
         have zX := R.sz
         have F := Lib.hid (show (∀ Y, Below X.heap.size X Y → Ro w a v (fdN d.1 d.2 t n (i + 1)) O on2 oc2 cnt2 Y ∧ Dok (w.heap.size + 1 + 1 + 1 + 1) (D :: Ds) Y) ∧ (fdN d.1 d.2 t n (i + 1)).2 = true ∧ cnt2 ≤ (fdN d.1 d.2 t n (i + 1)).1.length from
           ⟨fun Y bY => ⟨R.below bY, Dok.cons HDB.out.1 ⟨hD9.1, fun D' h' => ⟨(hD9.2 D' h').1, (bY.block D' (Array.getElem?_eq_some_iff.1 (hD9.2 D' h').2).1).trans (hD9.2 D' h').2⟩⟩ (by omega) (by omega) ((bY.block D (Array.getElem?_eq_some_iff.1 hd).1).trans hd)⟩, hall9, hcnt9⟩)
         clear RB riB rL hO0 HG DB hall2 hcnt hall hQ R hall9 hcnt9 rL9 rI hD9 hd
         gi_wp2
         have bY : Below X.heap.size X (X.alloc (.cells #[.int .i64 ((i : Int) + 1)] 3)) := (Below.refl _ _).alloc (Nat.le_refl _) _
         have rY : Row (X.alloc (.cells #[.int .i64 ((i : Int) + 1)] 3)) X.heap.size 3 #[.int .i64 ((i + 1 : Nat) : Int)] := Row.new _ _ _
         refine ⟨⟨i + 1, on2, oc2, cnt2, X.heap.size, O, D :: Ds, _, _, _, _, _, _, _, _, _, _, _, _, _, _, _, _, _, _, _, _, _, _, _, _, _, _, _, _, _, _, _, _, _, _, _, _, _, _, _, _, _, _, _, _, _, _, _, _, _, _, _, _, rfl, by omega, (F.out.1 _ bY).1, F.out.2.1, F.out.2.2, rY, by omega, (F.out.1 _ bY).2⟩, ?_⟩
         show 61 - boxInt (X.alloc (.cells #[.int .i64 ((i : Int) + 1)] 3)) (.pointer (some ⟨X.heap.size, 0, none⟩)) < 61 - boxInt wr (.pointer (some ⟨ib, 0, none⟩))
         have b1 : boxInt (X.alloc (.cells #[.int .i64 ((i : Int) + 1)] 3)) (.pointer (some ⟨X.heap.size, 0, none⟩)) = i + 1 := boxInt_at (rY.cell 0)
         have b2 : boxInt wr (.pointer (some ⟨ib, 0, none⟩)) = i := boxInt_at HKI.out
         rw [b1, b2]
         omega
       case stop =>
         rintro D q pre X hDb hq2 hne hpre ⟨O, on2, oc2, cnt2, hS9, hOut, hD9⟩ hd
         have DK := Lib.hid (Dok.cons HDB.out.1 hD9 (by omega) (by omega) hd)
         have hT9 := turn_keeps (out_own w S O on2 oc2 cnt2 (B := w.heap.size + 1 + 1 + 1 + 1) (by omega)) (D :: Ds) X DK.out.1 DK.out.2 hOut
         have HA := Lib.hid (out_ans hT9)
         have u0 : (turnAll (D :: Ds) X).cell? ⟨w.heap.size + 1, 0, none⟩ = some (.slice O on2 oc2) := hT9.1.cell 0
         have u1 : (turnAll (D :: Ds) X).cell? ⟨w.heap.size + 1, 1, none⟩ = some (.map (some (w.heap.size + 1 + 1))) := hT9.1.cell 1
         have u2 : (turnAll (D :: Ds) X).cell? ⟨w.heap.size + 1, 2, none⟩ = some (.bool S.2) := hT9.1.cell 2
         clear RB riB rL hO0 HG DB hall2 hcnt hall hQ hOut hD9 hd hT9 hpre hne hS9
         gi_wp2
         refine leaves_marks (D :: Ds) X DK.out.1 (fun D' h' => (DK.out.2 D' h').2) ?_
         exact ⟨_, by simp [results, Tryz.results29, go_sem, u0, u1, u2], HA.out⟩
     · have hst1 : ¬ (f.2.2 : Int) < (n : Int) := by omega
       have HEND := Lib.hid (show S = Si from by
         rw [← HS.out.1, ← hSi]
         exact fd_end hi60 (.inr (.inr ⟨f, by rw [hSi]; exact hf, by omega⟩)))
       clear hInv hSi hf hT hG hgG hdn hst
       have ⟨y0, g0, y1, g1, y2, g2⟩ := out_cells R (.slice (some ⟨g, 0, none⟩) on oc) (.map (some (w.heap.size + 1 + 1)))
       have Z := out_at R hD (by omega)
       have hT := turn_keeps (out_own w Si (some ⟨g, 0, none⟩) on oc cnt (B := w.heap.size + 1 + 1 + 1 + 1) (by omega)) Ds _ Z.2.1.1 Z.2.1.2 Z.1
       have DK := Lib.hid Z.2.1
       obtain ⟨Zw, hZ⟩ : ∃ Zw, outZ w (some ⟨g, 0, none⟩) on oc Si.2 wr = Zw := ⟨_, rfl⟩
       rw [hZ] at hT DK
       have HA := Lib.hid (out_ans hT)
       have u0 : (turnAll Ds Zw).cell? ⟨w.heap.size + 1, 0, none⟩ = some (.slice (some ⟨g, 0, none⟩) on oc) := hT.1.cell 0
       have u1 : (turnAll Ds Zw).cell? ⟨w.heap.size + 1, 1, none⟩ = some (.map (some (w.heap.size + 1 + 1))) := hT.1.cell 1
       have u2 : (turnAll Ds Zw).cell? ⟨w.heap.size + 1, 2, none⟩ = some (.bool Si.2) := hT.1.cell 2
       have HZ := Lib.hid (show (((wr.setCell ⟨w.heap.size + 1, 0, none⟩ (.slice (some ⟨g, 0, none⟩) on oc)).setCell ⟨w.heap.size + 1, 1, none⟩ (.map (some (w.heap.size + 1 + 1)))).setCell ⟨w.heap.size + 1, 2, none⟩ (.bool true)) = Zw from by rw [← hall]; exact hZ)
       clear hZ Z hT R hD hcnt
       gi_wp2
       rw [HEND.out, HZ.out]
       refine leaves_marks Ds Zw DK.out.1 (fun D' h' => (DK.out.2 D' h').2) ?_
       exact ⟨_, by simp [results, Tryz.results29, go_sem, u0, u1, u2], HA.out⟩
   · have i1 : ¬ (i : Int) < (on : Int) := by omega
     have HEND := Lib.hid (show S = Si from by
       rw [← HS.out.1, ← hSi]
       exact fd_end hi60 (.inl (by rw [hSi]; omega)))
     clear hInv hSi
     have ⟨y0, g0, y1, g1, y2, g2⟩ := out_cells R (.slice O on oc) (.map (some (w.heap.size + 1 + 1)))
     have Z := out_at R hD (by omega)
     have hT := turn_keeps (out_own w Si O on oc cnt (B := w.heap.size + 1 + 1 + 1 + 1) (by omega)) Ds _ Z.2.1.1 Z.2.1.2 Z.1
     have DK := Lib.hid Z.2.1
     obtain ⟨Zw, hZ⟩ : ∃ Zw, outZ w O on oc Si.2 wr = Zw := ⟨_, rfl⟩
     rw [hZ] at hT DK
     have HA := Lib.hid (out_ans hT)
     have u0 : (turnAll Ds Zw).cell? ⟨w.heap.size + 1, 0, none⟩ = some (.slice O on oc) := hT.1.cell 0
     have u1 : (turnAll Ds Zw).cell? ⟨w.heap.size + 1, 1, none⟩ = some (.map (some (w.heap.size + 1 + 1))) := hT.1.cell 1
     have u2 : (turnAll Ds Zw).cell? ⟨w.heap.size + 1, 2, none⟩ = some (.bool Si.2) := hT.1.cell 2
     have HZ := Lib.hid (show (((wr.setCell ⟨w.heap.size + 1, 0, none⟩ (.slice O on oc)).setCell ⟨w.heap.size + 1, 1, none⟩ (.map (some (w.heap.size + 1 + 1)))).setCell ⟨w.heap.size + 1, 2, none⟩ (.bool true)) = Zw from by rw [← hall]; exact hZ)
     clear hZ Z hT R hD hcnt
     gi_wp2
     rw [HEND.out, HZ.out]
     refine leaves_marks Ds Zw DK.out.1 (fun D' h' => (DK.out.2 D' h').2) ?_
     exact ⟨_, by simp [results, Tryz.results29, go_sem, u0, u1, u2], HA.out⟩
end iter
end
section
namespace reachImplB
open Go.RowKit base ints sig term termOk marks app appAt sym sub segs segsHelp termFacts varsOf shape kindsR kindsW ruleMath ruleSpec ruleImpl stepMath walkMath stepSpec stepImpl reachMath findW findSpec bySpec iter longest ownL reachImpl known pickOwn reachSpec drawX
set_option maxRecDepth 100000
theorem seg_ad {w : World} {B m : Nat} {T : Option Addr} {t : List Int} (h : Seg w B T m t) (h0 : 0 < m) : ∃ b off, T = some ⟨b, off, none⟩ := by
 obtain ⟨b, off, e, -⟩ := h.2 h0
 exact ⟨b, off, e⟩
theorem right_pos {sg : List Int} {rs : List Rl} {t : List Int} (h : rightB sg rs t = true) : 0 < t.length := by
 unfold rightB at h
 rw [Bool.and_eq_true] at h
 exact (term_len h.2).1
theorem _root_.Go.Proofs.YtifckjchmjmhoabGreat.reachSpec.AnsTs.next {w w1 w2 : World} {D : List (List Int)} {b : Bool} {e : Ending} (h : AnsTs w D b e w1) (hb : Below w1.heap.size w1 w2) : AnsTs w D b e w2 := by
 obtain ⟨A, n, c, h1, h2, h3⟩ := h
 exact ⟨A, n, c, h1, (h2.next hb).wider (Nat.le_refl _) hb.size, next_trans h3 hb⟩
structure Gath (V : World) (mid N rb : Nat) (L : List Fi) (G : Nat → List Nat) (cs : Array Value) (i : Nat) (A : Option Addr) (c : Nat) (wr : World) : Prop where
 row : ∃ vs, wr.ownsRow mid 24 1 (.slice A i c) i vs ∧ ∀ j f, j < i → L[j]? = some f → ∃ u, vs[j]? = some u ∧ Ow V sI [u] (termF f) (G j)
 nil : A = none → c = 0
 box : Row wr rb 67 cs
 bel : Below mid V wr
set_option maxHeartbeats 2000000 in
theorem implReachOfB (a v u : Value) (d : Dat sSystem) (t : List Int) (n : Int) (w : World) (h : Rd w w.heap.size sSystem [a, v] d) (ht : Rd w w.heap.size sI [u] t) (hz : sz sSystem d ≤ 1048576) (hz' : sz sI t ≤ 1048576) :
   Calls Tryz.prog 7 #[.agg #[a, v], u, .int .i64 n] w (AnsTs w (reachI d.1 d.2 t n) (allI d.1 d.2 t n)) := by
 obtain ⟨T, m, c, rfl, hT, hcT⟩ := rd_ints.1 ht
 have htl : t.length ≤ 1048576 := by rwa [sz_ints] at hz'
 obtain ⟨W, hW, rA, rL, bel⟩ := box2 w 29 24 #[a, v] #[.slice T m c]
 have HW := Lib.hid hW
 have LS := Lib.hid (searchIn a v n (some ⟨w.heap.size + 1, 0, none⟩) 1 1 [t] d W (h.next bel) hz (rd_one rL rL.lt (ht.next bel)) (by omega) (one_small htl))
 rw [src_one] at LS
 have HH := Lib.hid (show Rd w w.heap.size sSystem [a, v] d ∧ Seg w w.heap.size T m t ∧ sz sSystem d ≤ 1048576 from ⟨h, hT, hz⟩)
 clear hW h ht hT hcT rL hz
 cases ok : right9 d.1 d.2 t n with
 | false =>
   have HO := Lib.hid (reach_no ok)
   rw [ok] at LS
   clear ok
   go_enter Tryz.func7, Tryz.ntmps7
   go_wp2_with fail
   rw [← HW.out]
   refine LS.out.mono ?_
   rintro e w1 ⟨x1, x2, x3, y1, y2, y3, b, rfl, rfl, -, bb⟩
   have F := Lib.hid (show AnsTs w (reachI d.1 d.2 t n) (allI d.1 d.2 t n) (.returned (.tuple #[.slice none 0 0, .bool false])) (w1.alloc (.cells #[.slice x1 x2 x3, .slice y1 y2 y3] 60)) from
     ⟨none, 0, 0, by rw [HO.out.2], by rw [HO.out.1]; exact (OwnL.nil _ _ _ 24 sI).owned, (next_trans bel bb).alloc (next_trans bel bb).size _⟩)
   clear bb bel rA LS HW
   go_wp2
   go_ret2
   exact F.out
 | true =>
   obtain ⟨q1, q2, q3⟩ := r9_parts ok
   obtain ⟨N, rfl⟩ : ∃ N : Nat, n = (N : Int) := ⟨n.toNat, by omega⟩
   have HO := Lib.hid (reach_yes ok)
   rw [ok] at LS
   obtain ⟨bT, off, rfl⟩ := seg_ad HH.out.2.1 (by rw [← HH.out.2.1.1]; exact right_pos q1)
   have LL := Lib.hid (fun (w1 : World) (bb : Below w.heap.size w w1) => implReachOf a v bT off m c d t N w1 (HH.out.1.next bb) (HH.out.2.1.next bb) HH.out.2.2 q1 (by omega))
   clear ok q2 q3
   go_enter Tryz.func7, Tryz.ntmps7
   go_wp2_with fail
   rw [← HW.out]
   refine LS.out.mono ?_
   rintro e w1 ⟨x1, x2, x3, y1, y2, y3, b, rfl, rfl, hxy, bb⟩
   obtain ⟨rfl, rfl⟩ := hxy rfl
   have b2 : Below w.heap.size w (w1.alloc (.cells #[.slice x1 x2 x3, .slice y1 y2 y3] 60)) := (next_trans bel bb).alloc (next_trans bel bb).size _
   have L2 := Lib.hid (LL.out _ b2)
   have B2 := Lib.hid b2
   clear bb bel rA LS HW LL b2 hxy
   go_wp2_with fail
   refine L2.out.mono ?_
   rintro e w2 ⟨O, on, oc, mb, cnt, rfl, oL, -, hmb, bb⟩
   obtain ⟨S, hS⟩ : ∃ S, fdA d.1 d.2 t N = S := ⟨_, rfl⟩
   have hsm := fd_small (n := N) q1
   rw [hS] at oL hsm HO ⊢
   obtain ⟨vs, G, oG⟩ := named oL
   have hon : S.1.length = on := by have := oG.1; simpa using this
   obtain ⟨V, hV⟩ : ∃ V, V = w2.alloc (.cells #[.slice O on oc, .map (some mb), .bool S.2] 67) := ⟨_, rfl⟩
   have bV : Below w2.heap.size w2 V := by rw [hV]; exact (Below.refl _ _).alloc (Nat.le_refl _) _
   have b3 : Below w.heap.size w V := next_trans (next_trans B2.out bb) bV
   have rV : Row V w2.heap.size 67 #[.slice O on oc, .map (some mb), .bool S.2] := by rw [hV]; exact Row.new _ _ _
   have oV := oG.below bV
   have GS := Lib.hid (show Gath V V.heap.size on w2.heap.size S.1 G #[.slice O on oc, .map (some mb), .bool S.2] 0 none 0 V from ⟨⟨[], World.ownsRow_nil _ _ _ _, fun j f hj => by omega⟩, fun _ => rfl, rV, Below.refl _ _⟩)
   have HVV := Lib.hid (show V = w2.alloc (.cells #[.slice O on oc, .map (some mb), .bool S.2] 67) ∧ OwnG V (w1.alloc (.cells #[.slice x1 x2 x3, .slice y1 y2 y3] 60)).heap.size w2.heap.size 72 sFind O on oc (S.1.map fdat) vs G ∧ Below w.heap.size w V ∧ w2.heap.size < V.heap.size ∧ w.heap.size ≤ (w1.alloc (.cells #[.slice x1 x2 x3, .slice y1 y2 y3] 60)).heap.size ∧ (w1.alloc (.cells #[.slice x1 x2 x3, .slice y1 y2 y3] 60)).heap.size ≤ w2.heap.size from ⟨hV, oV, b3, rV.lt, B2.out.size, bb.size⟩)
   have HN := Lib.hid (show S.1.length = on ∧ on ≤ 60 from ⟨hon, by omega⟩)
   have k0 : V.cell? ⟨w2.heap.size, 0, none⟩ = some (.slice O on oc) := rV.cell 0
   have HS := Lib.hid (show reachI d.1 d.2 t (N : Int) = termsF S.1 ∧ allI d.1 d.2 t (N : Int) = S.2 from HO.out)
   clear oL oG oV hsm hS bb hV bV b3 rV hon L2 B2 q1 HH HO hmb
   go_wp2_with fail
   rw [← HVV.out.1]
   go_loopg [11, 31] on (fun g t_ i_ wr => ∃ (i : Nat) (A : Option Addr) (c : Nat), t_ = .slice A i c ∧ i_ = .int .i64 (i : Int) ∧ i + g = on ∧ Gath V V.heap.size on w2.heap.size S.1 G #[.slice O on oc, .map (some mb), .bool S.2] i A c wr)
   case atStart => exact ⟨0, none, 0, rfl, rfl, by omega, GS.out⟩
   case round =>
     clear GS
     obtain ⟨i, A, ac, rfl, rfl, hg, HG⟩ := hrel
     have HGG := Lib.hid (show i + gk = on ∧ Gath V V.heap.size on w2.heap.size S.1 G #[.slice O on oc, .map (some mb), .bool S.2] i A ac wr from ⟨hg, HG⟩)
     by_cases hi : i < on
     · obtain ⟨f, hf⟩ : ∃ f, S.1[i]? = some f := ⟨_, List.getElem?_eq_getElem (by rw [HN.out.1]; exact hi)⟩
       obtain ⟨vs', hrow, hvs⟩ := HG.row
       obtain ⟨g, T', tn', tc', rfl, -, -, hgm, -, ⟨e0, e1, e2, e3, e4⟩, -, o2⟩ := HVV.out.2.1.find hf
       have hgv : g < V.heap.size := by have := HVV.out.2.2.2.1; omega
       replace e0 := (HG.bel.cell (p := ⟨g, i * 5, none⟩) hgv).trans e0
       replace e1 := (HG.bel.cell (p := ⟨g, i * 5 + 1, none⟩) hgv).trans e1
       replace e2 := (HG.bel.cell (p := ⟨g, i * 5 + 2, none⟩) hgv).trans e2
       replace e3 := (HG.bel.cell (p := ⟨g, i * 5 + 3, none⟩) hgv).trans e3
       replace e4 := (HG.bel.cell (p := ⟨g, i * 5 + 4, none⟩) hgv).trans e4
       have i0 : (0 : Int) ≤ (i : Int) := by omega
       have i1 : (i : Int) < (on : Int) := by omega
       have i5 : i ≤ 1048576 := by have := HN.out.2; omega
       have zV := HG.bel.size
       obtain ⟨V5, hV5⟩ : ∃ V5, V5 = (wr.alloc (.cells #[.int .i64 f.1.1, .int .i64 f.1.2.1, .slice T' tn' tc', .int .i64 (f.2.1 : Int), .int .i64 (f.2.2 : Int)] 72)).alloc (.cells #[.slice T' tn' tc'] 24) := ⟨_, rfl⟩
       have b5 : Below wr.heap.size wr V5 := by rw [hV5]; exact ((Below.refl _ _).alloc (Nat.le_refl _) _).alloc (by simp) _
       have r5 : Row V5 (wr.heap.size + 1) 24 #[.slice T' tn' tc'] := by
         rw [hV5]
         have := Row.new (wr.alloc (.cells #[.int .i64 f.1.1, .int .i64 f.1.2.1, .slice T' tn' tc', .int .i64 (f.2.1 : Int), .int .i64 (f.2.2 : Int)] 72)) 24 #[.slice T' tn' tc']
         simpa using this
       have h5 : V5.ownsRow V.heap.size 24 1 (.slice A i ac) i vs' := by rw [hV5]; exact (hrow.alloc _).alloc _
       have HV5 := Lib.hid (show V5 = (wr.alloc (.cells #[.int .i64 f.1.1, .int .i64 f.1.2.1, .slice T' tn' tc', .int .i64 (f.2.1 : Int), .int .i64 (f.2.2 : Int)] 72)).alloc (.cells #[.slice T' tn' tc'] 24) ∧ Below wr.heap.size wr V5 ∧ Row V5 (wr.heap.size + 1) 24 #[.slice T' tn' tc'] ∧ V5.ownsRow V.heap.size 24 1 (.slice A i ac) i vs' ∧ V.heap.size ≤ V5.heap.size from ⟨hV5, b5, r5, h5, Nat.le_trans zV b5.size⟩)
       have HO2 := Lib.hid (show (∀ j f, j < i → S.1[j]? = some f → ∃ u, vs'[j]? = some u ∧ Ow V sI [u] (termF f) (G j)) ∧ Ow V sI [.slice T' tn' tc'] (termF f) (G i) ∧ S.1[i]? = some f ∧ vs'.length = i from ⟨hvs, o2, hf, by have := hrow.1; omega⟩)
       have HB := Lib.hid (HG.box)
       clear hV5 b5 r5 h5 hrow hvs hf o2 hg HG hgm hgv
       go_wp2_with (at_builtin; rw [← HV5.out.1]; refine appR rfl _ _ 32 24 1 _ _ Tryz.underlying32 info_list rfl (by decide) (by decide) rfl V.heap.size A i ac vs' rfl HV5.out.2.2.2.1 (wr.heap.size + 1) 1 [.slice T' tn' tc'] rfl (by intro u hu; rw [List.mem_singleton.1 hu]; rfl) rfl (by intro q hq; have hq0 : q = 0 := (by have : q < 1 := hq; omega); subst hq0; exact HV5.out.2.2.1.cell 0) i5 HV5.out.2.2.2.2 ?_; intro g7 c7 w7 h7 hg7 hat7 b7; refine (?_ : Hid _).out)
       have F := Lib.hid (show Gath V V.heap.size on w2.heap.size S.1 G #[.slice (some ⟨g, 0, none⟩) on oc, .map (some mb), .bool S.2] (i + 1) (some ⟨g7, 0, none⟩) c7 w7 from by
         obtain ⟨p1, p2, p3, p4⟩ := HO2.out
         refine ⟨⟨_, h7, fun j f' hj hf' => ?_⟩, (fun e => by cases e), (HB.out.next HV5.out.2.1).below b7 HVV.out.2.2.2.1, (next_trans HGG.out.2.bel HV5.out.2.1).trans b7⟩
         by_cases hji : j < i
         · obtain ⟨u, q1, q2⟩ := p1 j f' hji hf'
           exact ⟨u, by rw [List.getElem?_append_left (by omega)]; exact q1, q2⟩
         · obtain rfl : j = i := by omega
           rw [p3] at hf'
           injection hf' with hf'
           subst hf'
           exact ⟨_, by rw [List.getElem?_append_right (by omega), p4, Nat.sub_self]; rfl, p2⟩)
       have G1 := Lib.hid HGG.out.1
       clear h7 hg7 hat7 b7 HO2 HB HGG HV5 e0 e1 e2 e3 e4 V5
       refine Lib.hid ?_
       go_wp2
       go_roundg (gk - 1)
       case measure => have := G1.out; omega
       case rel => exact ⟨i + 1, some ⟨g7, 0, none⟩, c7, rfl, by simp, by have := G1.out; omega, F.out⟩
     · obtain rfl : i = on := by omega
       have i1 : ¬ (i : Int) < (i : Int) := by omega
       have k2 : wr.cell? ⟨w2.heap.size, 2, none⟩ = some (.bool S.2) := HG.box.cell 2
       have F := Lib.hid (show AnsTs w (reachI d.1 d.2 t (N : Int)) (allI d.1 d.2 t (N : Int)) (.returned (.tuple #[.slice A i ac, .bool S.2])) wr from by
         refine ⟨A, i, ac, by rw [HS.out.2], ?_, HVV.out.2.2.1.trans (HG.bel.mono HVV.out.2.2.1.size)⟩
         obtain ⟨vs', hrow, hvs⟩ := HG.row
         have hG := HVV.out.2.1.below (HG.bel.mono (by have := HVV.out.2.2.2.1; omega))
         rw [HS.out.1]
         refine (OwnL.owned (pick (s' := sI) (σ := fun j => j) hG (row_lower hrow (by have := HVV.out.2.2.2.1; omega)) HG.nil (HVV.out.2.2.2.2.2) (fun j hj => hj) (fun _ _ _ _ e => e) (by rw [termsF_len]; exact HN.out.1) fun j hj => ?_)).wider HVV.out.2.2.2.2.1 (Nat.le_refl _)
         obtain ⟨f, hf⟩ : ∃ f, S.1[j]? = some f := ⟨_, List.getElem?_eq_getElem (by rw [HN.out.1]; exact hj)⟩
         obtain ⟨u, q1, q2⟩ := hvs j f hj hf
         rw [show (termsF S.1).getD j (dft sI) = termF f from term_get hf]
         show Ow wr sI (cellsOf 1 vs' j) (termF f) (G j)
         rw [cells_one q1]
         exact q2.keep fun q hq => HG.bel.block q (q2.lt q hq))
       clear HG HGG
       go_wp2
       go_quiet (fail)
       go_wp2
       go_ret2
       exact F.out.next (Go.Proofs.YtifckjchmjmhoabGreat.kinds.drewN_below wr nq)
end reachImplB
end
section
namespace reachX
open Go.RowKit base sig term marks app sym segs shape kindsR kindsW kindsT varsOf ruleMath ruleSpec stepMath walkMath stepSpec termFacts term reachMath reachSpec reachImplB
theorem lists_sz {L : List (List Int)} {C : Nat} (h : ∀ s ∈ L, s.length ≤ C) : sz sInt64SS L ≤ L.length * (C + 1) := by
 induction L with
 | nil => exact Nat.zero_le _
 | cons x r ih =>
   have h1 := ih (fun s hs => h s (List.mem_cons_of_mem _ hs))
   have h2 := h x (List.mem_cons_self ..)
   have e : sz sInt64SS (x :: r) = (r.length + 1) + (sz sI x + (r.map (sz sI)).sum) := rfl
   have e2 : sz sInt64SS r = r.length + (r.map (sz sI)).sum := rfl
   rw [e, sz_ints, List.length_cons, Nat.add_mul]
   rw [e2] at h1
   omega
theorem reach_sz {sg : List Int} {rs : List Rl} {t : List Int} {x : Int} : sz sInt64SS (reachI sg rs t x) ≤ 1048576 := by
 cases h : right9 sg rs t x with
 | false => rw [(reach_no h).1]; exact Nat.zero_le _
 | true =>
   have h1 := (longest.r9_parts h).1
   unfold reachI
   rw [if_pos h]
   have hI := fd_inv (sg := sg) (rs := rs) (t := t) (n := x.toNat)
   have h2 := h1
   unfold rightB at h2
   rw [Bool.and_eq_true] at h2
   have a := lists_sz (L := termsF (fdA sg rs t x.toNat).1) (C := 60) (fun s hs => by
     obtain ⟨f, hf, rfl⟩ := List.mem_map.1 hs
     exact (term_len (find_ok h2.1 h2.2 hI hf)).2)
   rw [termsF_len] at a
   have b : (fdA sg rs t x.toNat).1.length * (60 + 1) ≤ 60 * 61 := Nat.mul_le_mul hI.len60 (Nat.le_refl _)
   omega
end reachX
end
section
namespace normsImpl
open Go.RowKit Go.Shelf base ints sig term termOk marks app appAt sym sub segs segsHelp inside termFacts varsOf shape kindsR kindsW ruleMath ruleSpec ruleImpl stepMath walkMath stepSpec stepImpl reachMath findW findSpec iter longest ownL pickOwn reachSpec reachImplB delFunc reachX
set_option maxRecDepth 100000
set_option maxHeartbeats 1000000 in
theorem normTest (a v : Value) (sb lo : Nat) (d : Dat sSystem) (w : World) (hr : Row w sb 29 #[a, v]) (hsb : sb < lo) (h : Rd w sb sSystem [a, v] d) (hz : sz sSystem d ≤ 1048576) : TestsL 44 #[.pointer (some ⟨sb, 0, none⟩)] lo w (fun y => !normalB d.1 d.2 y) := by
 intro W D dn dc ys hb hs hn hc
 have k0 : W.cell? ⟨sb, 0, none⟩ = some a := (hr.below hb hsb).cell 0
 have k1 : W.cell? ⟨sb, 1, none⟩ = some v := (hr.below hb hsb).cell 1
 have zW : sb < W.heap.size := (hr.below hb hsb).lt
 have LN := Lib.hid (implNormalIn a v (.slice D dn dc) d ys W ((h.below (hb.mono (by omega))).more (by omega)) (rd_ints.2 ⟨D, dn, dc, rfl, hs, hc⟩) hz (by rw [sz_ints, hs.1]; exact hn))
 obtain ⟨b, hbv⟩ : ∃ b, normalB d.1 d.2 ys = b := ⟨_, rfl⟩
 show Calls _ _ _ W (Tells W (!normalB d.1 d.2 ys))
 rw [hbv] at LN ⊢
 clear hr h hs hc hbv hb
 go_enter Tryz.func44, Tryz.ntmps44
 cases b <;> go_wp2_with (first | (go_at_call 45; refine LN.out.mono ?_; rintro e w1 ⟨rfl, bb⟩))
 · go_ret
   exact ⟨rfl, bb⟩
 · go_ret
   exact ⟨rfl, bb⟩
set_option maxHeartbeats 1000000 in
theorem implNormalsOf (a v u : Value) (d : Dat sSystem) (t : List Int) (n : Int) (w : World) (h : Rd w w.heap.size sSystem [a, v] d) (ht : Rd w w.heap.size sI [u] t) (hz : sz sSystem d ≤ 1048576) (hz' : sz sI t ≤ 1048576) :
   Calls Tryz.prog 22 #[.agg #[a, v], u, .int .i64 n] w (Copy1 w sTs (normsI d.1 d.2 t n)) := by
 obtain ⟨W, hW, rA, bel⟩ := box1 w 29 #[a, v]
 have HW := Lib.hid hW
 have zW : W.heap.size = w.heap.size + 1 := by rw [hW]; simp
 have LR := Lib.hid (implReachOfB a v u d t n W (h.next bel) (ht.next bel) hz hz')
 have HH := Lib.hid (show Rd w w.heap.size sSystem [a, v] d ∧ sz sSystem d ≤ 1048576 ∧ Below w.heap.size w W ∧ Row W w.heap.size 29 #[a, v] ∧ W.heap.size = w.heap.size + 1 from ⟨h, hz, bel, rA, zW⟩)
 have eg := enters_of Tryz.func44 (by kernel_rfl) rfl
 clear hW h ht zW bel rA
 obtain ⟨al, hal⟩ : ∃ b, allI d.1 d.2 t n = b := ⟨_, rfl⟩
 rw [hal] at LR
 clear hal
 go_enter Tryz.func22, Tryz.ntmps22
 go_wp2_with fail
 rw [← HW.out]
 refine LR.out.mono ?_
 rintro e w2 ⟨A, m, c, rfl, oD, bb⟩
 have oL := owned_ownL (e := 24) oD
 have hml : (reachI d.1 d.2 t n).length = m := oL.1
 have hsz := reach_sz (sg := d.1) (rs := d.2) (t := t) (x := n)
 have LD := Lib.hid (delFunc 44 #[.pointer (some ⟨w.heap.size, 0, none⟩)] eg (fun y => !normalB d.1 d.2 y) A m c W.heap.size w2.heap.size (reachI d.1 d.2 t n) w2
   (normTest a v w.heap.size W.heap.size d w2 (HH.out.2.2.2.1.next bb) (by have := HH.out.2.2.2.2; omega) (HH.out.1.below (next_trans HH.out.2.2.1 bb)) HH.out.2.1) oL
   (by have := sz_len hsz; rw [hml] at this; exact this) (fun j => by
     by_cases hj : j < (reachI d.1 d.2 t n).length
     · have := sz_each (e := 24) (s := sI) hsz hj
       have h9 : sz sI ((reachI d.1 d.2 t n).getD j []) ≤ 1048576 := this
       rwa [sz_ints] at h9
     · simp [List.getD, List.getElem?_eq_none (show (reachI d.1 d.2 t n).length ≤ j by omega)]) bb.size)
 have H2 := Lib.hid (show Below w.heap.size w w2 ∧ w.heap.size ≤ W.heap.size from ⟨next_trans HH.out.2.2.1 bb, HH.out.2.2.1.size⟩)
 clear oD oL hml hsz bb LR HH eg
 go_wp2_with fail
 refine LD.out.mono ?_
 rintro e w3 ⟨k, rfl, oL, bb⟩
 have F := Lib.hid (show Copy1 w sTs (normsI d.1 d.2 t n) (.returned (.slice A k c)) w3 from ⟨A, k, c, rfl, by
   have e : ((reachI d.1 d.2 t n).filter fun x => !(!normalB d.1 d.2 x)) = normsI d.1 d.2 t n := by
     unfold normsI
     congr 1
     funext x
     simp
   have := oL.owned
   rw [e] at this
   exact this.wider H2.out.2 (Nat.le_refl _), H2.out.1.trans (bb.mono H2.out.2)⟩)
 clear oL bb LD H2
 go_wp2
 go_ret
 exact F.out
end normsImpl
end
section
namespace places
open sig term termOk ruleMath stepMath walkMath iter orderMath sortedC varsMath
def atL (ps : List (Nat × Nat)) : List Int := ps.map fun p => (p.1 : Int)
theorem atL_snoc (ps : List (Nat × Nat)) (x : Nat × Nat) : atL (ps ++ [x]) = atL ps ++ [(x.1 : Int)] := by unfold atL; simp
section
variable {sg : List Int} {rs : List Rl} {t : List Int}
theorem row_mem {x k : Nat} {p : Nat × Nat} : p ∈ rowL sg rs t x k ↔ p.1 = x ∧ p.2 < k ∧ redB sg (rs.getD p.2 ([], [])) t x = true := by
 unfold rowL
 rw [List.mem_filterMap]
 constructor
 · rintro ⟨r, hr, h⟩
   split at h
   · rename_i hb
     injection h with h
     subst h
     exact ⟨rfl, List.mem_range.1 hr, hb⟩
   · cases h
 · rintro ⟨rfl, h2, h3⟩
   exact ⟨p.2, List.mem_range.2 h2, by rw [if_pos h3]⟩
theorem come_mem {x : Nat} {p : Nat × Nat} : p ∈ comeL sg rs t x ↔ p.1 < x ∧ p.2 < rs.length ∧ redB sg (rs.getD p.2 ([], [])) t p.1 = true := by
 unfold comeL
 rw [List.mem_flatMap]
 constructor
 · rintro ⟨a, ha, h⟩
   obtain ⟨h1, h2, h3⟩ := row_mem.1 h
   subst h1
   exact ⟨List.mem_range.1 ha, h2, h3⟩
 · rintro ⟨h1, h2, h3⟩
   exact ⟨p.1, List.mem_range.2 h1, row_mem.2 ⟨rfl, h2, h3⟩⟩
theorem come_sorted : ∀ x, (atL (comeL sg rs t x)).Pairwise (· ≤ ·)
 | 0 => List.Pairwise.nil
 | x + 1 => by
   rw [come_succ]
   unfold atL
   rw [List.map_append, List.pairwise_append]
   refine ⟨come_sorted x, ?_, ?_⟩
   · rw [List.pairwise_map]
     have : ∀ p ∈ rowL sg rs t x rs.length, p.1 = x := fun p hp => (row_mem.1 hp).1
     exact List.Pairwise.imp_of_mem (fun {a b} ha hb _ => by rw [this a ha, this b hb]; exact Int.le_refl _) (List.pairwise_of_forall (R := fun _ _ => True) fun _ _ => trivial)
   · intro a ha b hb
     obtain ⟨p, hp, rfl⟩ := List.mem_map.1 ha
     obtain ⟨q, hq, rfl⟩ := List.mem_map.1 hb
     have h1 := (come_mem.1 hp).1
     have h2 := (row_mem.1 hq).1
     omega
theorem row_len (x k : Nat) : (rowL sg rs t x k).length ≤ k := by
 unfold rowL
 exact Nat.le_trans (List.length_filterMap_le _ _) (by simp)
theorem come_len : ∀ x, (comeL sg rs t x).length ≤ x * rs.length
 | 0 => Nat.zero_le _
 | x + 1 => by
   rw [come_succ, List.length_append, Nat.add_mul]
   have h1 := come_len x
   have h2 := row_len (sg := sg) (rs := rs) (t := t) x rs.length
   omega
theorem red_len : (redL sg rs t).length ≤ t.length * rs.length := come_len _
theorem has_iff {a : Nat} : hasR sg rs t a = true ↔ ∃ k, k < rs.length ∧ redB sg (rs.getD k ([], [])) t a = true := by
 constructor
 · intro h
   obtain ⟨k, hk, -, h3, -⟩ := has_rule h
   exact ⟨k, hk, h3⟩
 · rintro ⟨k, hk, h⟩
   unfold hasR
   rw [List.any_eq_true]
   have e : rs.getD k ([], []) = rs[k] := by rw [List.getD_eq_getElem?_getD, List.getElem?_eq_getElem hk, Option.getD_some]
   rw [e] at h
   exact ⟨rs[k], List.getElem_mem hk, h⟩
theorem compact_places : Lib.compact (atL (redL sg rs t)) = placesL sg rs t := by
 obtain ⟨h1, h2⟩ := compact_sorted (come_sorted (sg := sg) (rs := rs) (t := t) t.length)
 refine rises_unique h1 (pl_sorted _) fun x => ?_
 show x ∈ Lib.compact (atL (comeL sg rs t t.length)) ↔ x ∈ plN sg rs t t.length
 rw [h2, pl_mem]
 constructor
 · intro h
   obtain ⟨p, hp, rfl⟩ := List.mem_map.1 h
   obtain ⟨a, b, c⟩ := come_mem.1 hp
   exact ⟨p.1, a, has_iff.2 ⟨p.2, b, c⟩, rfl⟩
 · rintro ⟨a, h3, h4, rfl⟩
   obtain ⟨k, hk, hr⟩ := has_iff.1 h4
   exact List.mem_map.2 ⟨(a, k), come_mem.2 ⟨h3, hk, hr⟩, rfl⟩
end
end places
end
section
namespace iter
open Go.RowKit Go.Shelf base ints sig term termOk endAt endOf marks app sym sub segs segsHelp kinds shifted termFacts varsOf shape kindsR ruleMath ruleSpec stepMath walkMath stepSpec stepImpl rangeGive ownL orderMath sortedC places
set_option maxRecDepth 100000
attribute [local go_sem] Oper.semAt_some
theorem owned_num (w : World) (lo hi : Nat) (x : Int) : Owned w lo hi .num [.int .i64 x] x := ⟨[], ⟨rfl, rfl⟩, List.nodup_nil, fun k hk => by cases hk⟩
def AccI (w : World) (B q : Nat) (L : List Int) (X : World) : Prop := ∃ O on oc, Row X B 24 #[.slice O on oc] ∧ OwnL X q X.heap.size 2 .num O on oc L ∧ Below w.heap.size w X
theorem accI_turn {w X Y : World} {B q B0 : Nat} {L : List Int} {row : Option Nat} (hB0 : w.heap.size ≤ B0) (hs : AccI w B q L X) (hg : X.grownBy Y row) (hr : ∀ r, row = some r → B0 ≤ r ∧ ∃ o : Obj, X.heap[r]? = some o ∧ o.isCells = false) : AccI w B q L Y := by
 obtain ⟨O, on, oc, h1, h2, h3⟩ := hs
 have hr' : ∀ r, row = some r → ∃ o : Obj, X.heap[r]? = some o ∧ o.isCells = false := fun r e => (hr r e).2
 exact ⟨O, on, oc, (row_turn hg hr' h1).trans h1, (ownL_turn h2 hg hr').wider (Nat.le_refl _) hg.size, h3.grown hg h3.size (fun k e => by have := (hr k e).1; omega)⟩
theorem ownL_ints {w : World} {lo hi : Nat} {O : Option Addr} {on oc : Nat} {L : List Int} (h : OwnL w lo hi 2 .num O on oc L) : marks.Own w lo (.slice O on oc) L := by
 have h1 : Owned w lo hi sI [.slice O on oc] L := h.owned
 exact (ow_ints.1 h1).1
set_option maxHeartbeats 4000000 in
theorem places (a v u : Value) (d : Dat sSystem) (t : List Int) (w : World) (h : Rd w w.heap.size sSystem [a, v] d) (ht : Rd w w.heap.size sI [u] t) (hz : sz sSystem d ≤ 1048576) (hok : rightB d.1 d.2 t = true) :
   Calls Tryz.prog 121 #[.agg #[a, v], u] w (AnsList w (placesL d.1 d.2 t)) := by
 refine (callsIn_wide (n := 5)).1 ?_
 obtain ⟨T, m, c, rfl, hT, hcT⟩ := rd_ints.1 ht
 obtain ⟨A, n, cs, V, q, cv, rfl, rfl, -, -, -, hq, -, hq1, -, -, -⟩ := rd_sys h hz
 have hlen : (redL d.1 d.2 t).length ≤ 1048576 := by
   have h60 := (term_len (right_parts hok).2).2
   have h12 := (sys_parts (right_parts hok).1).2.1
   have := red_len (sg := d.1) (rs := d.2) (t := t)
   have : t.length * d.2.length ≤ 60 * 12 := Nat.mul_le_mul h60 h12
   omega
 have HLEN := Lib.hid hlen
 obtain ⟨W, hW, rA, rF, bel⟩ := box2 w 60 24 #[.slice A n cs, .slice V q cv] #[.slice none 0 0]
 have HH := Lib.hid (show Rd w w.heap.size sSystem [.slice A n cs, .slice V q cv] d ∧ Rd w w.heap.size sI [.slice T m c] t from ⟨h, ht⟩)
 have HOK := Lib.hid hok
 have HW := Lib.hid hW
 have hsz : w.heap.size + 2 = W.heap.size := by rw [hW]; simp
 clear hW h ht hT hcT hok hq hlen
 refine callsIn_of_wp_marks Tryz.func121 rfl trivial ?_ rfl
 simp only [Tryz.ntmps121, List.size_toArray, List.length_cons, List.length_nil, Nat.reduceAdd, Nat.reduceSub, Array.replicate_succ, Array.replicate_zero, List.push_toArray, List.append_toArray, List.nil_append, List.cons_append]
 gi_wp2_with (refine ⟨trivial, ?_⟩; gi_at_call 70; rw [← HW.out]; refine (callsIn_wide.2 (redexesFn (.slice A n cs) (.slice V q cv) T m c W)).mono ?_; rintro e w3 ⟨rfl, hw3⟩; subst hw3)
 obtain ⟨W3, hW3, r4, r5, b34⟩ := box2 W 60 24 #[.slice A n cs, .slice V q cv] #[.slice T m c]
 rw [← hW3]
 have hsz3 : W.heap.size + 2 = W3.heap.size := by rw [hW3]; simp
 have b4 := next_trans bel b34
 have rF4 := rF.next b34
 have z3 : W.heap.size + 1 < W3.heap.size := r5.lt
 have HPRE := redexes_stopsK 4 (by decide) W.heap.size (W.heap.size + 1) w.heap.size (.slice A n cs) (.slice V q cv) (.slice T m c) d t W3 b4.size r4 r5 (HH.out.1.below b4) (HH.out.2.below b4) hz HOK.out
 clear hW3 r4 r5 b34 rA rF HW HH
 refine rangePre (gf := 99) (lb := #[.pointer (some ⟨W.heap.size + 1, 0, none⟩), .pointer (some ⟨W.heap.size, 0, none⟩)]) rfl (enters_of Tryz.func99 (by kernel_rfl) rfl) HPRE (Below.refl _ _) (fun _ => rfl) Kr.trans
   (fun X o o' ho => ⟨(Below.refl _ X).grown (grownBy_putObj' X _ o') (by have := (Array.getElem?_eq_some_iff.1 ho).1; omega) (fun k e => by cases e; omega), World.putObj_heap_other (by omega), World.putObj_heap_other (by omega)⟩)
   (fun pre X => AccI w (w.heap.size + 1) W3.heap.size (atL pre) X)
   (fun s X Y row hs hg hr => accI_turn (B0 := W3.heap.size) b4.size hs hg hr)
   ⟨none, 0, 0, rF4, OwnL.nil _ _ _ _ _, b4⟩
   (fun x => { tmps := #[.agg #[.slice A n cs, .slice V q cv], .slice T m c, .pointer (some ⟨w.heap.size, 0, none⟩), undef, .slice none 0 0, .pointer (some ⟨w.heap.size + 1, 0, none⟩), .int .i64 (x.1 : Int), .agg #[.slice A n cs, .slice V q cv], .slice T m c, .func (.func 99) #[] #[.pointer (some ⟨W.heap.size + 1, 0, none⟩), .pointer (some ⟨W.heap.size, 0, none⟩)], .int .i64 (x.1 : Int), .int .i64 (x.2 : Int), undef, undef, undef, undef, undef, undef], defers := [] }) ?assign ?body ?done
 case assign =>
   intro l x X K hK
   gi_wp2
   first | exact hK | simpa using hK
 case body =>
   rintro l pre x X ⟨O, on, oc, rO, oO, bO⟩ hX hpre
   have c0 : X.cell? ⟨w.heap.size + 1, 0, none⟩ = some (.slice O on oc) := rO.cell 0
   have hon : on ≤ 1048576 := by
     have h1 : (atL pre).length = on := oO.1
     have h2 := hpre.length_le
     have h3 := HLEN.out
     unfold atL at h1
     rw [List.length_map] at h1
     rw [List.length_append, List.length_singleton] at h2
     omega
   have b1 : Below X.heap.size X (X.alloc (.cells #[.int .i64 (x.1 : Int)] 2)) := (Below.refl _ _).alloc (Nat.le_refl _) _
   have o1 := oO.next b1
   have o2 : OwnL (X.alloc (.cells #[.int .i64 (x.1 : Int)] 2)) X.heap.size (X.heap.size + 1) 2 .num (some ⟨X.heap.size, 0, none⟩) 1 1 [(x.1 : Int)] := OwnL.single (e := 2) (s := .num) (Row.new X 2 #[.int .i64 (x.1 : Int)]) (owned_num _ X.heap.size X.heap.size _) (Nat.le_refl _) (Nat.le_refl _)
   have rX1 := rO.next b1
   have HRX := Lib.hid rX1
   clear rO
   gi_wp2_with (gi_at_builtin; refine appLmIn rfl _ _ 24 2 .num _ _ Tryz.underlying24 info_i64 rfl (by decide) rfl W3.heap.size X.heap.size X.heap.size (X.heap.size + 1) O on oc X.heap.size 1 1 (atL pre) [(x.1 : Int)] rfl o1 rfl o2 (Nat.le_refl _) (by omega) hon (by omega) (by simp; omega) (by omega) ?_; intro g' c' w4 oL4 hg4 b4; have r4 := HRX.out.below b4 (show w.heap.size + 1 < W3.heap.size by omega); have y1 : w4.cell? ⟨w.heap.size + 1, 0, none⟩ = some (.slice O on oc) := r4.cell 0; have f1 := r4.free 0)
   have z4 : X.heap.size + 1 ≤ w4.heap.size := by have := b4.size; simpa using hg4.size
   have hkeep : ∀ (k : Nat) (o : Obj), W3.heap.size ≤ k → X.heap[k]? = some o → o.isCells = false → (w4.setCell ⟨w.heap.size + 1, 0, none⟩ (.slice (some ⟨g', 0, none⟩) (on + 1) c')).heap[k]? = some o := fun k o hk ho hc => by
     have hkX := (Array.getElem?_eq_some_iff.1 ho).1
     rw [Below.heap_setCell w4 _ _ k (by show k ≠ w.heap.size + 1; omega)]
     refine (hg4.block k (by simp; omega) (fun e => ?_)).trans ((b1.block k hkX).trans ho)
     obtain ⟨cs, hrow⟩ := ownL_cells oO e.symm
     unfold Row at hrow
     rw [hrow] at ho
     injection ho with ho
     rw [← ho] at hc
     cases hc
   have hk4 : ∀ k, k < W3.heap.size → (w4.setCell ⟨w.heap.size + 1, 0, none⟩ (.slice (some ⟨g', 0, none⟩) (on + 1) c')).heap[k]? = if k = w.heap.size + 1 then (w4.setCell ⟨w.heap.size + 1, 0, none⟩ (.slice (some ⟨g', 0, none⟩) (on + 1) c')).heap[k]? else X.heap[k]? := fun k hk => by
     by_cases e : k = w.heap.size + 1
     · rw [if_pos e]
     · rw [if_neg e, Below.heap_setCell w4 _ _ k (by show k ≠ w.heap.size + 1; exact e)]
       exact (b4.block k hk).trans (b1.block k (by omega))
   have hkr : Kr w.heap.size W.heap.size (W.heap.size + 1) X (w4.setCell ⟨w.heap.size + 1, 0, none⟩ (.slice (some ⟨g', 0, none⟩) (on + 1) c')) :=
     ⟨((b1.mono (by omega)).trans (b4.mono (by omega))).setCell (show w.heap.size ≤ w.heap.size + 1 by omega) _, by rw [hk4 _ (by omega), if_neg (by omega)], by rw [hk4 _ (by omega), if_neg (by omega)]⟩
   have F := Lib.hid (show KeepsFrom W3.heap.size X (w4.setCell ⟨w.heap.size + 1, 0, none⟩ (.slice (some ⟨g', 0, none⟩) (on + 1) c')) ∧ Kr w.heap.size W.heap.size (W.heap.size + 1) X (w4.setCell ⟨w.heap.size + 1, 0, none⟩ (.slice (some ⟨g', 0, none⟩) (on + 1) c')) ∧ AccI w (w.heap.size + 1) W3.heap.size (atL (pre ++ [x])) (w4.setCell ⟨w.heap.size + 1, 0, none⟩ (.slice (some ⟨g', 0, none⟩) (on + 1) c')) from by
     refine ⟨⟨by simp; omega, hkeep⟩, hkr, some ⟨g', 0, none⟩, on + 1, c', r4.put 0 _, ?_, ((next_trans bO b1).trans (b4.mono (by omega))).setCell (show w.heap.size ≤ w.heap.size + 1 by omega) _⟩
     rw [atL_snoc]
     have o5 : OwnL (w4.setCell ⟨w.heap.size + 1, 0, none⟩ (.slice (some ⟨g', 0, none⟩) (on + 1) c')) W3.heap.size w4.heap.size 2 .num (some ⟨g', 0, none⟩) (on + 1) c' (atL pre ++ [(x.1 : Int)]) := oL4.btw (lo' := w.heap.size + 1) (hi' := w.heap.size + 1 + 1) ⟨rfl, rfl, rfl, by simp, fun k hk ho => Below.heap_setCell w4 _ _ k (by show k ≠ w.heap.size + 1; omega)⟩ (.inr (by omega))
     exact o5.wider (Nat.le_refl _) (by simp))
   clear hkeep hk4 hkr oL4 hg4 b4 r4 o1 o2 rX1 b1 c0 oO
   gi_wp2
   exact F.out
 case done =>
   rintro D X hD hacc hd
   have hDw : w.heap.size + 2 ≤ D := by omega
   obtain ⟨O, on, oc, rO, oO, bO⟩ := hacc
   have K0 : X.cell? ⟨w.heap.size + 1, 0, none⟩ = some (.slice O on oc) := rO.cell 0
   have hon : on ≤ 1048576 := by
     have h1 : (atL (redL d.1 d.2 t)).length = on := oO.1
     have h3 := HLEN.out
     unfold atL at h1
     rw [List.length_map] at h1
     omega
   have LC := Lib.hid (compactOwn W3.heap.size O on oc (atL (redL d.1 d.2 t)) X (ownL_ints oO) hon)
   have hblk : ∀ k, blk O = some k → W3.heap.size ≤ k ∧ k ≠ D := fun k hk => ⟨(oO.ge k hk).1, fun e => by
     obtain ⟨cs, hrow⟩ := ownL_cells oO hk
     unfold Row at hrow
     rw [e, hd] at hrow
     cases hrow⟩
   have hDX := (Array.getElem?_eq_some_iff.1 hd).1
   clear rO hon oO
   gi_wp2_with (refine ⟨trivial, ?_⟩; gi_at_call 132; refine (callsIn_wide.2 LC.out).mono ?_; rintro e w5 ⟨c5, rfl, o5, hg5⟩; refine (?_ : Hid _).out)
   have hd5 : w5.heap[D]? = some (.deferred (some [])) := (hg5.block D hDX (fun e => (hblk D e.symm).2 rfl)).trans hd
   have b5 : Below w.heap.size w w5 := bO.grown hg5 bO.size (fun k e => by have := (hblk k e).1; omega)
   have hgP := grownBy_putObj' w5 D (.deferred none)
   have F := Lib.hid (show AnsList w (placesL d.1 d.2 t) (.returned (.slice O (Lib.compact (atL (redL d.1 d.2 t))).length c5)) (w5.putObj D (.deferred none)) from by
     refine ⟨O, _, c5, rfl, ?_, b5.grown hgP b5.size (fun k e => by cases e; omega)⟩
     rw [← compact_places]
     refine Own.lower (Go.Proofs.YtifckjchmjmhoabGreat.appAt.Own.kept o5 hgP ?_) (by omega)
     cases hA : blk O with
     | none => exact .inl rfl
     | some k => exact .inr (fun e => by injection e with e; exact (hblk k hA).2 e))
   clear o5 hg5 bO b5 hgP LC
   refine Lib.hid ?_
   gi_wp2
   refine ⟨by simp, .inl ⟨_, _, rfl, run_takeDeferred hd5, ?_⟩⟩
   exact ⟨.slice O (Lib.compact (atL (redL d.1 d.2 t))).length c5, by simp [results, Tryz.results121, go_sem], F.out⟩
end iter
end
section
namespace orderImpl
open Go.RowKit base ints sig term termOk endAt endOf marks app sym sub segs segsHelp kinds termFacts shifted shape kindsR ruleMath ruleSpec stepMath walkMath stepsMath varsOf stepSpec orderMath appAt orderSpec sortedC
set_option maxRecDepth 100000
structure Li (w : World) (a v : Value) (A : Option Addr) (n c : Nat) (all : List Int) (O : Option Addr) (on oc : Nat) (L : List Int) (wr : World) : Prop where
 r : Row wr w.heap.size 60 #[a, v]
 o : marks.Own wr (w.heap.size + 1) (.slice O on oc) L
 b : Below w.heap.size w wr
 s : marks.Own wr (w.heap.size + 1) (.slice A n c) all
 ne : ∀ k, blk A = some k → blk O ≠ some k
section
variable {w wr w' : World} {a v : Value} {A O : Option Addr} {n c on oc : Nat} {all L : List Int}
theorem Li.next (h : Li w a v A n c all O on oc L wr) (hb : Below wr.heap.size wr w') : Li w a v A n c all O on oc L w' := ⟨h.r.next hb, Own.next h.o hb, next_trans h.b hb, Own.next h.s hb, h.ne⟩
theorem Li.app {O' : Option Addr} {oc' : Nat} {y : Int} {o : Obj} (h : Li w a v A n c all O on oc L wr) (ho : marks.Own w' (w.heap.size + 1) (.slice O' (on + 1) oc') (L ++ [y])) (hg : (wr.alloc o).grownBy w' (blk O)) (hat : blk O' = blk O ∨ blk O' = some (wr.alloc o).heap.size) : Li w a v A n c all O' (on + 1) oc' (L ++ [y]) w' := by
 have z1 : w.heap.size < wr.heap.size := h.r.lt
 have hb : Below (w.heap.size + 1) wr w' := ((Below.refl (w.heap.size + 1) wr).alloc z1 o).trans ((Below.refl _ _).grown hg (by simp; omega) (fun k hk => (ownLt h.o k hk).1))
 refine ⟨h.r.below hb (Nat.lt_succ_self _), ho, h.b.trans (hb.mono (Nat.le_succ _)), Go.Proofs.YtifckjchmjmhoabGreat.appAt.Own.kept (Go.Proofs.YtifckjchmjmhoabGreat.sym.Own.alloc h.s o) hg ?_, fun k hk e => ?_⟩
 · cases hA : blk A with
   | none => exact .inl rfl
   | some k => exact .inr fun e => h.ne k hA e.symm
 · rcases hat with hat | hat
   · exact h.ne k hk (by rw [← hat]; exact e)
   · rw [hat] at e
     injection e with e
     have := (ownLt h.s k hk).2
     simp at e
     omega
theorem Li.list (h : Li w a v A n c all O on oc L wr) {L' : List Int} (e : L = L') : AnsList w L' (.returned (.slice O on oc)) wr := ⟨O, on, oc, rfl, by rw [← e]; exact Own.lower h.o (Nat.le_succ _), h.b⟩
end
theorem endIn {W : World} {A T : Option Addr} {n cs m c p : Nat} {sg t : List Int} (h : Seg W W.heap.size A n sg) (h' : Seg W W.heap.size T m t) (hn : n ≤ 1048576) (hm : m ≤ 1048576) (ht : termOkB sg t = true) (hp : p < t.length) :
   Calls Tryz.prog 122 #[.agg #[.slice A n cs], .slice T m c, .int .i64 (p : Int)] W fun e w' => e = .returned (.int .i64 (endR sg t (p : Int))) ∧ Below W.heap.size W w' := by
 have hl := h'.1
 refine (implEndOf A T n cs m c sg t (p : Int) W h h' hn hm (by omega) (by omega)).mono ?_
 rintro e w' ⟨he, hb⟩
 refine ⟨?_, hb⟩
 rw [he]
 unfold endOfI
 rw [if_pos (there_yes ht (by omega) (by omega))]
 rfl
theorem wrap_small {x : Int} (h1 : -1048576 ≤ x) (h2 : x ≤ 1048576) : IntKind.i64.wrap x = x := by
 simp [IntKind.wrap, IntKind.signed, IntKind.bits]
 omega
theorem placesL_eq {sg : List Int} {rs : List Rl} {t : List Int} (h : rightB sg rs t = true) : placesL sg rs t = placesI sg rs t := by unfold placesI; rw [if_pos h]
set_option maxHeartbeats 4000000 in
theorem inmost (a v u : Value) (d : Dat sSystem) (t : List Int) (w : World) (h : Rd w w.heap.size sSystem [a, v] d) (ht : Rd w w.heap.size sI [u] t) (hz : sz sSystem d ≤ 1048576) (hok : rightB d.1 d.2 t = true) :
   Calls Tryz.prog 101 #[.agg #[a, v], u] w (AnsList w (inmostI d.1 d.2 t)) := by
 have htv := ht
 have h0 := h
 obtain ⟨T, m, c, rfl, hT, hcT⟩ := rd_ints.1 ht
 obtain ⟨A0, n0, cs0, V, q, cv, rfl, rfl, hs, hc, hcv, hq, hn, hq1, hrs, hsg, hE⟩ := rd_sys h hz
 have hm : m ≤ 1048576 := by have := (term_len (right_parts hok).2).2; have := hT.1; omega
 obtain ⟨W, hW, rA, bel⟩ := box1 w 60 #[.slice A0 n0 cs0, .slice V q cv]
 have LA := Lib.hid (iter.places _ _ _ d t W (h0.next bel) (htv.next bel) hz hok)
 rw [placesL_eq hok] at LA
 have LE := Lib.hid (fun (w1 : World) (bb : Below w.heap.size w w1) p hok (hp : p < t.length) => endIn (cs := cs0) (c := c) (hs.next bb) (hT.next bb) hn hm hok hp)
 have K0 : W.cell? ⟨w.heap.size, 0, none⟩ = some (.slice A0 n0 cs0) := rA.cell 0
 have K1 : W.cell? ⟨w.heap.size, 1, none⟩ = some (.slice V q cv) := rA.cell 1
 have HW := Lib.hid hW
 clear hW h h0 ht htv hT hcT hs hc hcv hq hrs hsg hE
 go_enter Tryz.func101, Tryz.ntmps101
 go_wp2_with fail
 rw [← HW.out]
 go_wp2_with fail
 refine LA.out.mono ?_
 rintro e w1 ⟨A, n, cA, rfl, oA, bb⟩
 have hnl : (placesI d.1 d.2 t).length = n := (Own.len oA).symm
 have hn60 : n ≤ 60 := by rw [← hnl]; exact placesI_len
 have HNL := Lib.hid hnl
 have H1 := Lib.hid (show Li w (.slice A0 n0 cs0) (.slice V q cv) A n cA (placesI d.1 d.2 t) none 0 0 [] w1 from
   ⟨rA.next bb, Own.nil _ _, next_trans bel bb, Own.lower oA rA.lt, fun k hk e => by cases e⟩)
 clear oA bb rA bel K0 K1 HW LA hnl
 go_wp2_with fail
 go_loopg [6, 14] n (fun g out i_ wr => ∃ (i on oc : Nat) (O : Option Addr), i_ = .int .i64 i ∧ i + g = n ∧ out = .slice O on oc ∧ on ≤ i ∧ Li w (.slice A0 n0 cs0) (.slice V q cv) A n cA (placesI d.1 d.2 t) O on oc (inN (endR d.1 t) (placesI d.1 d.2 t) i) wr)
 case atStart => exact ⟨0, 0, 0, none, rfl, by omega, rfl, Nat.le_refl _, H1.out⟩
 case round =>
   clear H1
   obtain ⟨i, on, oc, O, rfl, hig, rfl, hon, S⟩ := hrel
   have HI := Lib.hid hig
   have HS := Lib.hid S
   have K0 : wr.cell? ⟨w.heap.size, 0, none⟩ = some (.slice A0 n0 cs0) := S.r.cell 0
   have K1 : wr.cell? ⟨w.heap.size, 1, none⟩ = some (.slice V q cv) := S.r.cell 1
   by_cases hi : i < n
   · have h1 : (i : Int) < (n : Int) := by omega
     have h2 : (0 : Int) ≤ (i : Int) := by omega
     obtain ⟨b, off, eA, hbl, ci⟩ := (Own.seg S.s).round hi
     subst eA
     obtain ⟨p, hp, hpt, htok, e, he, he60, hp60⟩ := place_at HNL.out hi
     rw [hp] at ci
     have HP := Lib.hid hp
     have HEE := Lib.hid he
     have LE1 := Lib.hid (fun w1 bb => LE.out w1 bb p htok hpt)
     have zA : w.heap.size < wr.heap.size := S.r.lt
     have zB : b < wr.heap.size := hbl
     obtain ⟨y, hy⟩ : ∃ y, (placesI d.1 d.2 t).getD (i + 1) 0 = y := ⟨_, rfl⟩
     have HY := Lib.hid hy
     have hcn : i + 1 < n → wr.cell? ⟨b, off + (i + 1), none⟩ = some (.int .i64 y) := fun hlt => seg_cell (Own.seg S.s) hlt hy
     have HB := Lib.hid S.b
     clear S hp he hpt htok hig LE hy
     by_cases hl : i + 1 = n
     · have qw : IntKind.i64.wrap ((i : Int) + 1) = (i : Int) + 1 := wrap_small (by omega) (by omega)
       have qd : ((i : Int) + 1 == (n : Int)) = true := by simp; omega
       have HC := Lib.hid (show i + 1 = (placesI d.1 d.2 t).length ∨ endR d.1 t ((placesI d.1 d.2 t).getD i 0) ≤ (placesI d.1 d.2 t).getD (i + 1) 0 from .inl (by rw [HNL.out]; exact hl))
       clear hcn LE1
       go_wp2_with fail
       go_quiet (fail)
       have S2 := Lib.hid (HS.out.next (drewN_below wr nq))
       clear K0 K1 HS HB
       have ho : marks.Own (wr.drewN nq) (w.heap.size + 1) (.slice O on oc) (inN (endR d.1 t) (placesI d.1 d.2 t) i) := S2.out.o
       have hsz : w.heap.size < (wr.drewN nq).heap.size := S2.out.r.lt
       go_wp2_with (at_builtin; refine app1Q rfl _ _ rfl (w.heap.size + 1) O on oc _ rfl (Go.Proofs.YtifckjchmjmhoabGreat.sym.Own.alloc ho _) (wr.drewN nq).heap.size 1 (p : Int) rfl ((Row.new _ _ _).cell 0) (by omega) (by simp; omega) ?_; intro O' oc' w4 ho4 hg4 hat4)
       have F := Lib.hid (show Li w (.slice A0 n0 cs0) (.slice V q cv) (some ⟨b, off, none⟩) n cA (placesI d.1 d.2 t) O' (on + 1) oc' (inN (endR d.1 t) (placesI d.1 d.2 t) (i + 1)) w4 from by rw [in_yes HC.out, HP.out]; exact S2.out.app ho4 hg4 hat4)
       clear ho4 hg4 hat4 ho S2 HC
       go_wp2
       go_roundg (gk - 1)
       case measure => have := HI.out; omega
       case rel => exact ⟨i + 1, on + 1, oc', O', by (first | (simp; done) | (simp; omega)), by have := HI.out; omega, rfl, by omega, F.out⟩
     · have qw : IntKind.i64.wrap ((i : Int) + 1) = (i : Int) + 1 := wrap_small (by omega) (by omega)
       have qd : ((i : Int) + 1 == (n : Int)) = false := by simp; omega
       have q2 : (i : Int) + 1 < (n : Int) := by omega
       have q3 : (0 : Int) ≤ (i : Int) + 1 := by omega
       have cy := hcn (by omega)
       have LE2 := Lib.hid (LE1.out wr.drew HB.out.drew)
       clear LE1
       go_wp2_with fail
       go_region_held3 (fun w' => w'.cell? ⟨w.heap.size, 0, none⟩ = some (.slice A0 n0 cs0) ∧ w'.cell? ⟨b, off + (i + 1), none⟩ = some (.int .i64 y))
         (go_keep)
         (first
           | (go_at_call 122; refine LE2.out.mono ?_; rintro e' w2 ⟨rfl, bb⟩; rw [HEE.out]; have k0 : w2.cell? ⟨w.heap.size, 0, none⟩ = some (.slice A0 n0 cs0) := (bb.cell (p := ⟨w.heap.size, 0, none⟩) zA).trans K0; have cy2 : w2.cell? ⟨b, off + (i + 1), none⟩ = some (.int .i64 y) := (bb.cell (p := ⟨b, off + (i + 1), none⟩) zB).trans cy))
       have S2 := Lib.hid ((HS.out.next (drew_below wr)).next bb)
       clear K0 K1 HS HB k0 bb LE2 cy hcn
       by_cases hye : (e : Int) ≤ y
       · have HC := Lib.hid (show i + 1 = (placesI d.1 d.2 t).length ∨ endR d.1 t ((placesI d.1 d.2 t).getD i 0) ≤ (placesI d.1 d.2 t).getD (i + 1) 0 from .inr (by rw [HP.out, HEE.out, HY.out]; exact hye))
         have ho : marks.Own w2 (w.heap.size + 1) (.slice O on oc) (inN (endR d.1 t) (placesI d.1 d.2 t) i) := S2.out.o
         have hsz : w.heap.size < w2.heap.size := S2.out.r.lt
         go_wp2_with (at_builtin; refine app1Q rfl _ _ rfl (w.heap.size + 1) O on oc _ rfl (Go.Proofs.YtifckjchmjmhoabGreat.sym.Own.alloc ho _) w2.heap.size 1 (p : Int) rfl ((Row.new _ _ _).cell 0) (by omega) (by simp; omega) ?_; intro O' oc' w4 ho4 hg4 hat4)
         have F := Lib.hid (show Li w (.slice A0 n0 cs0) (.slice V q cv) (some ⟨b, off, none⟩) n cA (placesI d.1 d.2 t) O' (on + 1) oc' (inN (endR d.1 t) (placesI d.1 d.2 t) (i + 1)) w4 from by rw [in_yes HC.out, HP.out]; exact S2.out.app ho4 hg4 hat4)
         clear ho4 hg4 hat4 ho S2 HC
         go_wp2
         go_roundg (gk - 1)
         case measure => have := HI.out; omega
         case rel => exact ⟨i + 1, on + 1, oc', O', by (first | (simp; done) | (simp; omega)), by have := HI.out; omega, rfl, by omega, F.out⟩
       · have HC := Lib.hid (show ¬ (i + 1 = (placesI d.1 d.2 t).length ∨ endR d.1 t ((placesI d.1 d.2 t).getD i 0) ≤ (placesI d.1 d.2 t).getD (i + 1) 0) from by rw [HNL.out, HP.out, HEE.out, HY.out]; omega)
         have F := Lib.hid (show Li w (.slice A0 n0 cs0) (.slice V q cv) (some ⟨b, off, none⟩) n cA (placesI d.1 d.2 t) O on oc (inN (endR d.1 t) (placesI d.1 d.2 t) (i + 1)) w2 from by rw [in_no HC.out]; exact S2.out)
         clear S2 HC
         go_wp2
         go_roundg (gk - 1)
         case measure => have := HI.out; omega
         case rel => exact ⟨i + 1, on, oc, O, by (first | (simp; done) | (simp; omega)), by have := HI.out; omega, rfl, by omega, F.out⟩
   · have e1 : i = n := by have := HI.out; omega
     subst e1
     have h1 : ¬ (i : Int) < (i : Int) := by omega
     have F := Lib.hid (HS.out.list (show _ = inmostI d.1 d.2 t by unfold inmostI inL; rw [HNL.out]))
     clear HS LE K0 K1 S
     go_wp2
     go_ret
     exact F.out
set_option maxHeartbeats 4000000 in
theorem outmost (a v u : Value) (d : Dat sSystem) (t : List Int) (w : World) (h : Rd w w.heap.size sSystem [a, v] d) (ht : Rd w w.heap.size sI [u] t) (hz : sz sSystem d ≤ 1048576) (hok : rightB d.1 d.2 t = true) :
   Calls Tryz.prog 102 #[.agg #[a, v], u] w (AnsList w (outmostI d.1 d.2 t)) := by
 have htv := ht
 have h0 := h
 obtain ⟨T, m, c, rfl, hT, hcT⟩ := rd_ints.1 ht
 obtain ⟨A0, n0, cs0, V, q, cv, rfl, rfl, hs, hc, hcv, hq, hn, hq1, hrs, hsg, hE⟩ := rd_sys h hz
 have hm : m ≤ 1048576 := by have := (term_len (right_parts hok).2).2; have := hT.1; omega
 obtain ⟨W, hW, rA, bel⟩ := box1 w 60 #[.slice A0 n0 cs0, .slice V q cv]
 have LA := Lib.hid (iter.places _ _ _ d t W (h0.next bel) (htv.next bel) hz hok)
 rw [placesL_eq hok] at LA
 have LE := Lib.hid (fun (w1 : World) (bb : Below w.heap.size w w1) p hok (hp : p < t.length) => endIn (cs := cs0) (c := c) (hs.next bb) (hT.next bb) hn hm hok hp)
 have K0 : W.cell? ⟨w.heap.size, 0, none⟩ = some (.slice A0 n0 cs0) := rA.cell 0
 have K1 : W.cell? ⟨w.heap.size, 1, none⟩ = some (.slice V q cv) := rA.cell 1
 have HW := Lib.hid hW
 clear hW h h0 ht htv hT hcT hs hc hcv hq hrs hsg hE
 go_enter Tryz.func102, Tryz.ntmps102
 go_wp2_with fail
 rw [← HW.out]
 go_wp2_with fail
 refine LA.out.mono ?_
 rintro e w1 ⟨A, n, cA, rfl, oA, bb⟩
 have hnl : (placesI d.1 d.2 t).length = n := (Own.len oA).symm
 have hn60 : n ≤ 60 := by rw [← hnl]; exact placesI_len
 have HNL := Lib.hid hnl
 have H1 := Lib.hid (show Li w (.slice A0 n0 cs0) (.slice V q cv) A n cA (placesI d.1 d.2 t) none 0 0 [] w1 from
   ⟨rA.next bb, Own.nil _ _, next_trans bel bb, Own.lower oA rA.lt, fun k hk e => by cases e⟩)
 clear oA bb rA bel K0 K1 HW LA hnl
 go_wp2_with fail
 go_loopg [5, 6, 13] n (fun g out end_ i_ wr => ∃ (i on oc : Nat) (O : Option Addr), i_ = .int .i64 i ∧ i + g = n ∧ out = .slice O on oc ∧ on ≤ i ∧ end_ = .int .i64 (outN (endR d.1 t) (placesI d.1 d.2 t) i).2 ∧ Li w (.slice A0 n0 cs0) (.slice V q cv) A n cA (placesI d.1 d.2 t) O on oc (outN (endR d.1 t) (placesI d.1 d.2 t) i).1 wr)
 case atStart => exact ⟨0, 0, 0, none, rfl, by omega, rfl, Nat.le_refl _, rfl, H1.out⟩
 case round =>
   clear H1
   obtain ⟨i, on, oc, O, rfl, hig, rfl, hon, rfl, S⟩ := hrel
   have HI := Lib.hid hig
   have HS := Lib.hid S
   have K0 : wr.cell? ⟨w.heap.size, 0, none⟩ = some (.slice A0 n0 cs0) := S.r.cell 0
   have K1 : wr.cell? ⟨w.heap.size, 1, none⟩ = some (.slice V q cv) := S.r.cell 1
   obtain ⟨e0, he0⟩ : ∃ e0, (outN (endR d.1 t) (placesI d.1 d.2 t) i).2 = e0 := ⟨_, rfl⟩
   rw [he0]
   have HE0 := Lib.hid he0
   clear he0
   by_cases hi : i < n
   · have h1 : (i : Int) < (n : Int) := by omega
     have h2 : (0 : Int) ≤ (i : Int) := by omega
     obtain ⟨b, off, eA, hbl, ci⟩ := (Own.seg S.s).round hi
     subst eA
     obtain ⟨p, hp, hpt, htok, e, he, he60, hp60⟩ := place_at HNL.out hi
     rw [hp] at ci
     have HP := Lib.hid hp
     have HEE := Lib.hid he
     have LE1 := Lib.hid (fun w1 bb => LE.out w1 bb p htok hpt)
     clear S hp he hpt htok hig LE
     by_cases hye : e0 ≤ (p : Int)
     · have HC := Lib.hid (show (outN (endR d.1 t) (placesI d.1 d.2 t) i).2 ≤ (placesI d.1 d.2 t).getD i 0 from by rw [HE0.out, HP.out]; exact hye)
       have ho : marks.Own wr (w.heap.size + 1) (.slice O on oc) (outN (endR d.1 t) (placesI d.1 d.2 t) i).1 := HS.out.o
       have hsz : w.heap.size < wr.heap.size := HS.out.r.lt
       have HAPP := Lib.hid (fun (O' : Option Addr) (oc' : Nat) (o : Obj) (w4 : World) ho4 (hg4 : (wr.alloc o).grownBy w4 (blk O)) hat4 => (HS.out.app (y := (p : Int)) (O' := O') (oc' := oc') ho4 hg4 hat4))
       go_wp2_with (at_builtin; refine app1Q rfl _ _ rfl (w.heap.size + 1) O on oc _ rfl (Go.Proofs.YtifckjchmjmhoabGreat.sym.Own.alloc ho _) wr.heap.size 1 (p : Int) rfl ((Row.new _ _ _).cell 0) (by omega) (by simp; omega) ?_; intro O' oc' w4 ho4 hg4 hat4; have S4 := HAPP.out _ _ _ _ ho4 hg4 hat4; have k0 : w4.cell? ⟨w.heap.size, 0, none⟩ = some (.slice A0 n0 cs0) := S4.r.cell 0)
       have HS4 := Lib.hid S4
       have LE2 := Lib.hid (LE1.out w4 S4.b)
       clear ho4 hg4 hat4 S4 HS ho HAPP K0 K1 ci LE1
       refine LE2.out.mono ?_
       rintro e' w5 ⟨rfl, bb⟩
       rw [HEE.out]
       have F := Lib.hid (show outN (endR d.1 t) (placesI d.1 d.2 t) (i + 1) = ((outN (endR d.1 t) (placesI d.1 d.2 t) i).1 ++ [(p : Int)], (e : Int)) ∧ Li w (.slice A0 n0 cs0) (.slice V q cv) (some ⟨b, off, none⟩) n cA (placesI d.1 d.2 t) O' (on + 1) oc' ((outN (endR d.1 t) (placesI d.1 d.2 t) i).1 ++ [(p : Int)]) w5 from ⟨by rw [out_yes HC.out, HP.out, HEE.out], HS4.out.next bb⟩)
       clear bb HS4 k0 LE2
       go_wp2
       go_roundg (gk - 1)
       case measure => have := HI.out; omega
       case rel => exact ⟨i + 1, on + 1, oc', O', by simp, by have := HI.out; omega, rfl, by omega, by rw [F.out.1], by rw [F.out.1]; exact F.out.2⟩
     · have HC := Lib.hid (show ¬ (outN (endR d.1 t) (placesI d.1 d.2 t) i).2 ≤ (placesI d.1 d.2 t).getD i 0 from by rw [HE0.out, HP.out]; exact hye)
       have F := Lib.hid (show Li w (.slice A0 n0 cs0) (.slice V q cv) (some ⟨b, off, none⟩) n cA (placesI d.1 d.2 t) O on oc (outN (endR d.1 t) (placesI d.1 d.2 t) (i + 1)).1 wr from by rw [out_no HC.out]; exact HS.out)
       have F2 := Lib.hid (show (outN (endR d.1 t) (placesI d.1 d.2 t) (i + 1)).2 = e0 from by rw [out_no HC.out]; exact HE0.out)
       clear HS HC
       go_wp2
       go_roundg (gk - 1)
       case measure => have := HI.out; omega
       case rel => exact ⟨i + 1, on, oc, O, by simp, by have := HI.out; omega, rfl, by omega, by rw [F2.out], F.out⟩
   · have e1 : i = n := by have := HI.out; omega
     subst e1
     have h1 : ¬ (i : Int) < (i : Int) := by omega
     have F := Lib.hid (HS.out.list (show _ = outmostI d.1 d.2 t by unfold outmostI outL; rw [HNL.out]))
     clear HS LE K0 K1 S
     go_wp2
     go_ret
     exact F.out
set_option maxHeartbeats 2000000 in
theorem backward (a v u : Value) (d : Dat sSystem) (t : List Int) (w : World) (h : Rd w w.heap.size sSystem [a, v] d) (ht : Rd w w.heap.size sI [u] t) (hz : sz sSystem d ≤ 1048576) (hok : rightB d.1 d.2 t = true) :
   Calls Tryz.prog 103 #[.agg #[a, v], u] w (AnsList w (placesI d.1 d.2 t).reverse) := by
 obtain ⟨W, hW, rA, bel⟩ := box1 w 60 #[a, v]
 have LA := Lib.hid (iter.places _ _ _ d t W (h.next bel) (ht.next bel) hz hok)
 rw [placesL_eq hok] at LA
 have K0 : W.cell? ⟨w.heap.size, 0, none⟩ = some a := rA.cell 0
 have K1 : W.cell? ⟨w.heap.size, 1, none⟩ = some v := rA.cell 1
 have HW := Lib.hid hW
 obtain ⟨T, m, c, rfl, -, -⟩ := rd_ints.1 ht
 clear hW h ht
 go_enter Tryz.func103, Tryz.ntmps103
 go_wp2_with fail
 rw [← HW.out]
 go_wp2_with fail
 refine LA.out.mono ?_
 rintro e w1 ⟨A, n, cA, rfl, oA, bb⟩
 have hn60 : n ≤ 60 := by rw [Own.len oA]; exact placesI_len
 have b1 := next_trans bel bb
 have zW : w.heap.size < W.heap.size := rA.lt
 have LR := Lib.hid (reverseOwn W.heap.size A n cA _ w1 oA (by omega))
 clear bb bel rA K0 K1 LA oA
 go_wp2_with fail
 refine LR.out.mono ?_
 rintro e w2 ⟨rfl, oA, hg⟩
 have F := Lib.hid (show AnsList w (placesI d.1 d.2 t).reverse (.returned (.slice A n cA)) w2 from ⟨A, n, cA, rfl, Own.lower oA (by omega), b1.grown hg b1.size (fun k e => by have := (ownLt oA k e).1; omega)⟩)
 clear oA hg b1 LR
 go_wp2
 go_ret
 exact F.out
end orderImpl
end
end Go.Proofs.YtifckjchmjmhoabGreat
