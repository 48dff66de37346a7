/-
  MERGED: my texts WalkImplB, WalkSpecD, WalkX2, WalkX3, one behind the other, as they are. By an AI agent.
-/
import Derived.Test.YthdmhhmnipoceaaGreatMFnExactJoinedWalk7
namespace Go.Proofs.YthdmhhmnipoceaaGreat
section
open Go.Lib (hid)
open List (setIfInBounds_toArray set_cons_zero set_cons_succ getElem_toArray getElem_cons_zero getElem_cons_succ)
namespace walkImpl
open Go.RowKit base ints sig term termOk endAt endOf marks app sym sub segs segsHelp kinds termFacts same shifted shape drawX kindsR kindsW varsOf ruleMath ruleSpec stepMath walkMath stepSpec walkSpec ownL concatS heldT
set_option maxRecDepth 100000
theorem OwnL.put {w : World} {lo hi g i c q : Nat} {e : TypeId} {s : Sh} {D : List (Dat s)} {u : Value} (h : OwnL w lo hi e s (some ⟨g, 0, none⟩) i c D) (hq : i * nc s ≤ q) : OwnL (w.setCell ⟨g, q, none⟩ u) lo hi e s (some ⟨g, 0, none⟩) i c D := by
 obtain ⟨h1, h2, vs, G, h3, h4, h5, h6⟩ := h
 refine ⟨h1, h2, vs, G, ⟨h3.1, ?_⟩, h4, h5, fun j hj => ⟨(h6 j hj).1.keep fun k hk => Below.heap_setCell w _ _ k (fun e => ((h6 j hj).2 k hk).2.2 (by have e : k = g := e; rw [e]; rfl)), (h6 j hj).2⟩⟩
 rcases h3.2 with ⟨e1, _⟩ | ⟨g', cap, cur, e1, hg, hr, hn, hm, hs, ht⟩
 ·cases e1
 ·injection e1 with a1 a2 a3
  injection a1 with a1
  injection a1 with a1
  subst a1 a3
  refine .inr ⟨g, c, cur.setIfInBounds q u, rfl, hg, Row.put (t := e) hr q u, hn, hm, by simpa using hs, ?_⟩
  rw [← ht]
  refine List.ext_getElem? fun z => ?_
  rw [List.getElem?_take, List.getElem?_take]
  split
  ·rename_i hz
   rw [Array.getElem?_toList, Array.getElem?_toList, Array.getElem?_setIfInBounds, if_neg (by omega)]
  ·rfl
theorem OwnL.ext {w : World} {lo hi mid hi2 g i c : Nat} {e : TypeId} {s : Sh} {D : List (Dat s)} {es : List Value} {y : Dat s} {cur : Array Value} (h : OwnL w lo hi e s (some ⟨g, 0, none⟩) i c D) (hc : i + 1 ≤ c) (hrow : Row w g e cur) (hcell : ∀ q, q < nc s → cur[i * nc s + q]? = es[q]?) (ho : Owned w mid hi2 s es y) (hmid : hi ≤ mid) (hlo : lo ≤ mid) :
  OwnL w lo w.heap.size e s (some ⟨g, 0, none⟩) (i + 1) c (D ++ [y]) := by
 obtain ⟨h1, h2, vs, G, h3, h4, h5, h6⟩ := h
 obtain ⟨F, hF, hFn, hFb⟩ := ho
 have hel := hF.len
 have c1 : cellsOf (nc s) es 0 = es := by unfold cellsOf; rw [Nat.zero_mul, List.drop_zero, List.take_of_length_le (by omega)]
 refine ownL_app (w' := w) (hi2 := hi2) (mid := mid) (es := es) (E := [y]) (H := fun _ => F) (m := 1) h1 h2 h3 h5 h6 hmid hlo rfl (by simpa using hFn) (fun j hj => ?_) ?_ (World.grownBy.refl _ _) (.inl rfl) (fun e => by cases e)
 ·obtain rfl : j = 0 := by omega
  rw [c1]; exact ⟨hF, fun q hq => hFb q hq⟩
 ·refine ⟨by rw [List.length_append, h3.1, hel, Nat.add_mul, Nat.one_mul], ?_⟩
  rcases h3.2 with ⟨e1, _⟩ | ⟨g', cap, cur', e1, hg, hr, hn, hm, hs, ht⟩
  ·cases e1
  ·injection e1 with a1 a2 a3
   injection a1 with a1
   injection a1 with a1
   subst a1 a3
   have ecur : cur' = cur := by
    unfold Row at hrow
    rw [hr] at hrow
    injection hrow with hrow
    injection hrow
   subst ecur
   refine .inr ⟨g, c, cur', rfl, hg, hr, hc, hm, hs, ?_⟩
   have hvl : vs.length = i * nc s := h3.1
   refine List.ext_getElem? fun z => ?_
   rw [List.getElem?_take, Nat.add_mul, Nat.one_mul]
   by_cases hz : z < i * nc s
   ·rw [if_pos (by omega), List.getElem?_append_left (by omega), ← ht, List.getElem?_take, if_pos hz]
   ·by_cases hz2 : z < i * nc s + nc s
    ·rw [if_pos hz2, List.getElem?_append_right (by omega), hvl, Array.getElem?_toList]
     have := hcell (z - i * nc s) (by omega)
     rwa [show i * nc s + (z - i * nc s) = z by omega] at this
    ·rw [if_neg hz2, List.getElem?_eq_none (by rw [List.length_append]; omega)]
theorem owned_walk2 {w : World} {lo lo2 mid hi : Nat} {X O : Option Addr} {xn xc n c : Nat} {f : List Int} {L : List St} (h : Ownd w mid hi X xn xc f) (h2 : OwnL w lo2 mid 74 sStep O n c L) (h3 : lo ≤ lo2) (h4 : lo ≤ mid) (h5 : mid ≤ hi) : Owned w lo hi sWalk [.slice X xn xc, .slice O n c] (f, L) := by
 obtain ⟨F1, o1, n1, b1⟩ := ow_ints.2 h
 obtain ⟨F2, o2, n2, b2⟩ := h2.owned
 refine ⟨F1 ++ F2, ⟨[.slice X xn xc], [.slice O n c], F1, F2, rfl, rfl, o1, o2⟩, List.nodup_append.2 ⟨n1, n2, fun x hx y hy e => ?_⟩, fun q hq => ?_⟩
 ·have := b1 x hx; have := b2 y hy; omega
 ·rcases List.mem_append.1 hq with hq | hq
  ·have := b1 q hq; omega
  ·have := b2 q hq; omega
def Suf (wr : World) (A : Option Addr) (n cc B : Nat) (L : List St) (i : Nat) : Prop := ∀ j, i ≤ j → j < n → ∃ g cur U un uc, A = some ⟨g, 0, none⟩ ∧ Row wr g 74 cur ∧ cur.size = cc * 3 ∧ n ≤ cc ∧ cur[j * 3]? = some (.int .i64 (L.getD j (0, 0, [])).1) ∧ cur[j * 3 + 1]? = some (.int .i64 (L.getD j (0, 0, [])).2.1) ∧ cur[j * 3 + 2]? = some (.slice U un uc) ∧ Rd wr B sI [.slice U un uc] (L.getD j (0, 0, [])).2.2
theorem Suf.next {wr w' : World} {A : Option Addr} {n cc B : Nat} {L : List St} {i : Nat} (h : Suf wr A n cc B L i) (hb : Below wr.heap.size wr w') (hB : B ≤ wr.heap.size) : Suf w' A n cc B L i := fun j h1 h2 => by
 obtain ⟨g, cur, U, un, uc, q1, q2, q3, q4, q5, q6, q7, q8⟩ := h j h1 h2
 exact ⟨g, cur, U, un, uc, q1, q2.next hb, q3, q4, q5, q6, q7, q8.below (hb.mono hB)⟩
theorem Suf.put {wr : World} {g n cc B : Nat} {L : List St} {i : Nat} {u : Value} (h : Suf wr (some ⟨g, 0, none⟩) n cc B L i) (hB : B ≤ g) : Suf (wr.setCell ⟨g, i * 3 + 2, none⟩ u) (some ⟨g, 0, none⟩) n cc B L (i + 1) := fun j h1 h2 => by
 obtain ⟨g', cur, U, un, uc, q1, q2, q3, q4, q5, q6, q7, q8⟩ := h j (by omega) h2
 injection q1 with q1
 injection q1 with q1
 subst q1
 refine ⟨g, _, U, un, uc, rfl, q2.put (i * 3 + 2) u, by simpa using q3, q4, ?_, ?_, ?_, q8.keep fun p hp => World.cell?_setCell_far _ _ _ _ (by show g ≠ p.block; omega)⟩
 ·rw [Array.getElem?_setIfInBounds, if_neg (by omega)]; exact q5
 ·rw [Array.getElem?_setIfInBounds, if_neg (by omega)]; exact q6
 ·rw [Array.getElem?_setIfInBounds, if_neg (by omega)]; exact q7
theorem concat_start {w' : World} {lo B n cc : Nat} {A : Option Addr} {vs : List Value} {L : List St} (ho : w'.ownsRow lo 74 3 (.slice A n cc) n vs) (hf : Flat w' B sStep vs n L) : OwnL w' lo w'.heap.size 74 sStep A 0 cc (L.take 0) ∧ Suf w' A n cc B L 0 ∧ (∀ g, A = some ⟨g, 0, none⟩ → lo ≤ g ∧ g < w'.heap.size) := by
 rcases ho.2 with ⟨e1, h0⟩ | ⟨g, cap, cur, e1, hg, hr, hn, hm, hs, ht⟩
 ·injection e1 with a1 a2 a3
  subst a1 a2 a3
  exact ⟨OwnL.nil _ _ _ _ _, fun j _ hj => absurd hj (Nat.not_lt_zero _), fun g e => by cases e⟩
 ·injection e1 with a1 a2 a3
  subst a1 a3
  have hlt : g < w'.heap.size := (Array.getElem?_eq_some_iff.1 hr).1
  refine ⟨⟨rfl, fun k hk => by injection hk with hk; have hk : g = k := hk; omega, [], fun _ => [], ⟨by simp, .inr ⟨g, cc, cur, rfl, hg, hr, Nat.zero_le _, hm, hs, by simp⟩⟩, (fun e => by cases e), by simp, fun j hj => absurd hj (Nat.not_lt_zero _)⟩, fun j _ hj => ?_, fun g' e => by injection e with e; injection e with e; subst e; exact ⟨hg, hlt⟩⟩
  have hrd := hf.2.2 j hj
  obtain ⟨v0, hes⟩ := cells_Step hrd
  rw [hes] at hrd
  obtain ⟨-, -, p2⟩ := parts_Step hrd
  obtain ⟨U, un, uc, rfl, -, -⟩ := rd_ints.1 p2
  have hcell : ∀ q, q < 3 → cur[j * 3 + q]? = (cellsOf (nc sStep) vs j)[q]? := fun q hq => by
   have hjn : j * 3 + 3 ≤ n * 3 := by omega
   have h7 : cur.toList[j * 3 + q]? = vs[j * 3 + q]? := by rw [← ht, List.getElem?_take, if_pos (by omega)]
   rw [← Array.getElem?_toList, h7]
   show vs[j * 3 + q]? = ((vs.drop (j * 3)).take 3)[q]?
   rw [List.getElem?_take, if_pos hq, List.getElem?_drop]
  refine ⟨g, cur, U, un, uc, rfl, hr, hs, hn, ?_, ?_, ?_, p2⟩
  ·have := hcell 0 (by omega); rw [hes] at this; exact this
  ·have := hcell 1 (by omega); rw [hes] at this; exact this
  ·have := hcell 2 (by omega); rw [hes] at this; exact this
theorem join_terms {sg : List Int} {rs : List Rl} {a b : Wk} {j : Nat} (ha : walkB sg rs a = true) (hb : walkB sg rs b = true) (hj : j < (a.2 ++ b.2).length) : termOkB sg ((a.2 ++ b.2).getD j (0, 0, [])).2.2 = true := by
 have hm : (a.2 ++ b.2).getD j (0, 0, []) ∈ a.2 ++ b.2 := by
  have e : (a.2 ++ b.2).getD j (0, 0, []) = (a.2 ++ b.2)[j] := by simp only [List.getD, List.getElem?_eq_getElem hj, Option.getD_some]
  rw [e]; exact List.getElem_mem hj
 rcases List.mem_append.1 hm with h | h
 ·obtain ⟨-, q2, -, q4⟩ := walk_parts ha
  exact (go_ok q2 q4).2 _ h
 ·obtain ⟨-, q2, -, q4⟩ := walk_parts hb
  exact (go_ok q2 q4).2 _ h
set_option maxHeartbeats 8000000 in
theorem implJoinedWalk (a v f s f' s' : Value) (d : Dat sSystem) (k k' : Dat sWalk) (w : World) (h : Rd w w.heap.size sSystem [a, v] d) (h1 : Rd w w.heap.size sWalk [f, s] k) (h2 : Rd w w.heap.size sWalk [f', s'] k') (hz : sz sSystem d ≤ 1048576) (hz1 : sz sWalk k ≤ 1048576) (hz2 : sz sWalk k' ≤ 1048576) :
  Calls Tryz.prog 10 #[.agg #[a, v], .agg #[f, s], .agg #[f', s']] w (AnsWalk w (joinW d.1 d.2 k k') (joinB d.1 d.2 k k')) := by
 obtain ⟨F, fn, fc, S, sn, sc, rfl, rfl, hF, hcF, hfn, hsn0, hsn, hcS, hrF, hrS, hzF, hzS⟩ := rd_walk h1 hz1
 obtain ⟨F', fn', fc', S', sn', sc', rfl, rfl, hF', hcF', hfn', hsn0', hsn', hcS', hrF', hrS', hzF', hzS'⟩ := rd_walk h2 hz2
 have L1 := hid (fun (wr : World) (J : Jn w a v (.slice F fn fc) (.slice S sn sc) (.slice F' fn' fc') (.slice S' sn' sc') wr) => implWalkOk a v _ _ d k wr (h.next J.b) (h1.next J.b) hz hz1)
 have L2 := hid (fun (wr : World) (J : Jn w a v (.slice F fn fc) (.slice S sn sc) (.slice F' fn' fc') (.slice S' sn' sc') wr) => implWalkOk a v _ _ d k' wr (h.next J.b) (h2.next J.b) hz hz2)
 have L3 := hid (fun (wr : World) (J : Jn w a v (.slice F fn fc) (.slice S sn sc) (.slice F' fn' fc') (.slice S' sn' sc') wr) => endImpl _ _ k wr (h1.next J.b) hz1)
 have L4 := hid (fun (wr : World) (J : Jn w a v (.slice F fn fc) (.slice S sn sc) (.slice F' fn' fc') (.slice S' sn' sc') wr) (X : Option Addr) (xn xc : Nat) (hX : Rd wr wr.heap.size sI [.slice X xn xc] (endL k)) => (implSame X F' xn fn' xc fc' (endL k) k'.1 wr hX.seg (hF'.next J.b) (by rw [← hX.seg.1]; exact end_len hz1) hfn').mono (R' := fun e w' => e = .returned (.bool (decide (endL k = k'.1))) ∧ Below wr.heap.size wr w') (fun _ _ hh => ⟨hh.1, by obtain ⟨dd, e2⟩ := hh.2; rw [e2]; exact drewN_below wr dd⟩))
 have HSEG := hid (show Seg w w.heap.size F fn k.1 ∧ Rd w w.heap.size sStepS [.slice S sn sc] k.2 ∧ Rd w w.heap.size sStepS [.slice S' sn' sc'] k'.2 from ⟨hF, hrS, hrS'⟩)
 have HL1 := hid hsn0
 have HL2 := hid hsn0'
 clear h h1 h2 hz hz1 hz2 hF hcF hcS hrF hrS hzF hzS hF' hcF' hcS' hrF' hrS' hzF' hzS' hsn0 hsn0' hfn'
 obtain ⟨W, hW, J⟩ := jn_new w a v (.slice F fn fc) (.slice S sn sc) (.slice F' fn' fc') (.slice S' sn' sc')
 have HW := hid hW
 clear hW
 cases ha : walkB d.1 d.2 k with
 | false =>
  have HA := hid ha
  clear ha
  go_enter Tryz.func10, Tryz.ntmps10
  go_wp2_with fail
  rw [← HW.out]
  have c00 : W.cell? ⟨w.heap.size, 0, none⟩ = some (a) := J.r0.cell 0
  have c01 : W.cell? ⟨w.heap.size, 1, none⟩ = some (v) := J.r0.cell 1
  have c10 : W.cell? ⟨w.heap.size + 1, 0, none⟩ = some (.slice F fn fc) := J.r1.cell 0
  have c11 : W.cell? ⟨w.heap.size + 1, 1, none⟩ = some (.slice S sn sc) := J.r1.cell 1
  have c20 : W.cell? ⟨w.heap.size + 1 + 1, 0, none⟩ = some (.slice F' fn' fc') := J.r2.cell 0
  have c21 : W.cell? ⟨w.heap.size + 1 + 1, 1, none⟩ = some (.slice S' sn' sc') := J.r2.cell 1
  replace J := J.drew
  refine AnyT.start (S := (fun w' => w'.cell? ⟨w.heap.size, 0, none⟩ = some (a) ∧ w'.cell? ⟨w.heap.size, 1, none⟩ = some (v) ∧ w'.cell? ⟨w.heap.size + 1, 0, none⟩ = some (.slice F fn fc) ∧ w'.cell? ⟨w.heap.size + 1, 1, none⟩ = some (.slice S sn sc) ∧ w'.cell? ⟨w.heap.size + 1 + 1, 0, none⟩ = some (.slice F' fn' fc') ∧ w'.cell? ⟨w.heap.size + 1 + 1, 1, none⟩ = some (.slice S' sn' sc'))) (fun _ => false) (by kernel_rfl) ⟨c00, c01, c10, c11, c20, c21⟩ (fun hHeld => ?_)
  refine AnyT.take (i := 0) (v := ?_) rfl (by kernel_rfl) (by kernel_rfl) (by kernel_rfl) (by kernel_rfl) (fun _ _ _ h => h) (Or.inl ⟨by rfl, ?_⟩) (by assumption) ?_
  rotate_left 1
  ·(intro w0 hSw; (try dsimp only at hSw); go_simp; try with_reducible rfl)
  try simp only [Act.put, setIfInBounds_toArray, set_cons_zero, set_cons_succ, getElem_toArray, getElem_cons_zero, getElem_cons_succ]
  refine AnyT.take (i := 1) (v := ?_) rfl (by kernel_rfl) (by kernel_rfl) (by kernel_rfl) (by kernel_rfl) (fun _ _ _ h => h) (Or.inl ⟨by rfl, ?_⟩) (by assumption) ?_
  rotate_left 1
  ·(intro w0 hSw; (try dsimp only at hSw); go_simp; try with_reducible rfl)
  try simp only [Act.put, setIfInBounds_toArray, set_cons_zero, set_cons_succ, getElem_toArray, getElem_cons_zero, getElem_cons_succ]
  refine AnyT.call (i := 2) (by kernel_rfl) rfl (fun K hK => ?_)
  try simp only [Act.put, setIfInBounds_toArray, set_cons_zero, set_cons_succ, getElem_toArray, getElem_cons_zero, getElem_cons_succ]
  rw [if_pos (by rfl)]
  go_simp
  (go_at_call 35; refine (L1.out _ J).mono ?_; rintro e q1 ⟨he, bb⟩; rw [HA.out] at he; subst he; replace J := J.next bb; have k00_1 : q1.cell? ⟨w.heap.size, 0, none⟩ = some (a) := J.r0.cell 0; have k01_1 : q1.cell? ⟨w.heap.size, 1, none⟩ = some (v) := J.r0.cell 1; have k10_1 : q1.cell? ⟨w.heap.size + 1, 0, none⟩ = some (.slice F fn fc) := J.r1.cell 0; have k11_1 : q1.cell? ⟨w.heap.size + 1, 1, none⟩ = some (.slice S sn sc) := J.r1.cell 1; have k20_1 : q1.cell? ⟨w.heap.size + 1 + 1, 0, none⟩ = some (.slice F' fn' fc') := J.r2.cell 0; have k21_1 : q1.cell? ⟨w.heap.size + 1 + 1, 1, none⟩ = some (.slice S' sn' sc') := J.r2.cell 1; clear bb; go_wp2_with fail)
  refine hK.out _ _ (fun _ _ => ?_) (fun hKeep => ?_)
  ·exact ⟨k00_1,k01_1,k10_1,k11_1,k20_1,k21_1⟩
  replace hHeld := hKeep (by first | rfl | trivial) hHeld
  clear hK K hKeep
  try simp only [Act.put, setIfInBounds_toArray, set_cons_zero, set_cons_succ, getElem_toArray, getElem_cons_zero, getElem_cons_succ]
  refine AnyT.takeA (i := 3) (v := ?_) rfl (by kernel_rfl) (by kernel_rfl) (by kernel_rfl) (fun _ _ _ h => h) (Or.inl ⟨by rfl, ?_⟩) ?_
  rotate_left 1
  ·(intro w0 _; go_simp; try with_reducible rfl)
  try simp only [Act.put, setIfInBounds_toArray, set_cons_zero, set_cons_succ, getElem_toArray, getElem_cons_zero, getElem_cons_succ]
  refine AnyT.takeA (i := 4) (v := ?_) rfl (by kernel_rfl) (by kernel_rfl) (by kernel_rfl) (fun _ _ _ h => h) (Or.inl ⟨by rfl, ?_⟩) ?_
  rotate_left 1
  ·(intro w0 _; go_simp; try with_reducible rfl)
  try simp only [Act.put, setIfInBounds_toArray, set_cons_zero, set_cons_succ, getElem_toArray, getElem_cons_zero, getElem_cons_succ]
  refine AnyT.takeA (i := 5) (v := undef) rfl (by kernel_rfl) (by kernel_rfl) (by kernel_rfl) (fun _ _ _ h => h) (Or.inr ⟨by rfl, rfl⟩) ?_
  try simp only [Act.put, setIfInBounds_toArray, set_cons_zero, set_cons_succ, getElem_toArray, getElem_cons_zero, getElem_cons_succ]
  refine AnyT.takeA (i := 6) (v := undef) rfl (by kernel_rfl) (by kernel_rfl) (by kernel_rfl) (fun _ _ _ h => h) (Or.inr ⟨by rfl, rfl⟩) ?_
  try simp only [Act.put, setIfInBounds_toArray, set_cons_zero, set_cons_succ, getElem_toArray, getElem_cons_zero, getElem_cons_succ]
  refine AnyT.call (i := 7) (by kernel_rfl) rfl (fun K hK => ?_)
  try simp only [Act.put, setIfInBounds_toArray, set_cons_zero, set_cons_succ, getElem_toArray, getElem_cons_zero, getElem_cons_succ]
  rw [if_neg (by intro h; cases h)]
  refine hK.out _ _ (fun _ h => h) (fun _ => ?_)
  clear hK K
  try simp only [Act.put, setIfInBounds_toArray, set_cons_zero, set_cons_succ, getElem_toArray, getElem_cons_zero, getElem_cons_succ]
  refine AnyT.takeA (i := 8) (v := undef) rfl (by kernel_rfl) (by kernel_rfl) (by kernel_rfl) (fun _ _ _ h => h) (Or.inr ⟨by rfl, rfl⟩) ?_
  try simp only [Act.put, setIfInBounds_toArray, set_cons_zero, set_cons_succ, getElem_toArray, getElem_cons_zero, getElem_cons_succ]
  refine AnyT.takeA (i := 9) (v := ?_) rfl (by kernel_rfl) (by kernel_rfl) (by kernel_rfl) (fun _ _ _ h => h) (Or.inl ⟨by rfl, ?_⟩) ?_
  rotate_left 1
  ·(intro w0 _; go_simp; try with_reducible rfl)
  try simp only [Act.put, setIfInBounds_toArray, set_cons_zero, set_cons_succ, getElem_toArray, getElem_cons_zero, getElem_cons_succ]
  refine AnyT.takeA (i := 10) (v := ?_) rfl (by kernel_rfl) (by kernel_rfl) (by kernel_rfl) (fun _ _ _ h => h) (Or.inl ⟨by rfl, ?_⟩) ?_
  rotate_left 1
  ·(intro w0 _; go_simp; try with_reducible rfl)
  try simp only [Act.put, setIfInBounds_toArray, set_cons_zero, set_cons_succ, getElem_toArray, getElem_cons_zero, getElem_cons_succ]
  refine AnyT.takeA (i := 11) (v := undef) rfl (by kernel_rfl) (by kernel_rfl) (by kernel_rfl) (fun _ _ _ h => h) (Or.inr ⟨by rfl, rfl⟩) ?_
  try simp only [Act.put, setIfInBounds_toArray, set_cons_zero, set_cons_succ, getElem_toArray, getElem_cons_zero, getElem_cons_succ]
  refine AnyT.takeA (i := 13) (v := undef) rfl (by kernel_rfl) (by kernel_rfl) (by kernel_rfl) (fun _ _ _ h => h) (Or.inr ⟨by rfl, rfl⟩) ?_
  try simp only [Act.put, setIfInBounds_toArray, set_cons_zero, set_cons_succ, getElem_toArray, getElem_cons_zero, getElem_cons_succ]
  refine AnyT.takeA (i := 14) (v := undef) rfl (by kernel_rfl) (by kernel_rfl) (by kernel_rfl) (fun _ _ _ h => h) (Or.inr ⟨by rfl, rfl⟩) ?_
  try simp only [Act.put, setIfInBounds_toArray, set_cons_zero, set_cons_succ, getElem_toArray, getElem_cons_zero, getElem_cons_succ]
  refine AnyT.call (i := 12) (by kernel_rfl) rfl (fun K hK => ?_)
  try simp only [Act.put, setIfInBounds_toArray, set_cons_zero, set_cons_succ, getElem_toArray, getElem_cons_zero, getElem_cons_succ]
  rw [if_neg (by intro h; cases h)]
  refine hK.out _ _ (fun _ h => h) (fun _ => ?_)
  clear hK K
  try simp only [Act.put, setIfInBounds_toArray, set_cons_zero, set_cons_succ, getElem_toArray, getElem_cons_zero, getElem_cons_succ]
  refine AnyT.call (i := 15) (by kernel_rfl) rfl (fun K hK => ?_)
  try simp only [Act.put, setIfInBounds_toArray, set_cons_zero, set_cons_succ, getElem_toArray, getElem_cons_zero, getElem_cons_succ]
  rw [if_neg (by intro h; cases h)]
  refine hK.out _ _ (fun _ h => h) (fun _ => ?_)
  clear hK K
  try simp only [Act.put, setIfInBounds_toArray, set_cons_zero, set_cons_succ, getElem_toArray, getElem_cons_zero, getElem_cons_succ]
  refine AnyT.takeA (i := 16) (v := undef) rfl (by kernel_rfl) (by kernel_rfl) (by kernel_rfl) (fun _ _ _ h => h) (Or.inr ⟨by rfl, rfl⟩) ?_
  try simp only [Act.put, setIfInBounds_toArray, set_cons_zero, set_cons_succ, getElem_toArray, getElem_cons_zero, getElem_cons_succ]
  refine AnyT.takeA (i := 17) (v := ?_) rfl (by kernel_rfl) (by kernel_rfl) (by kernel_rfl) (fun _ _ _ h => h) (Or.inl ⟨by rfl, ?_⟩) ?_
  rotate_left 1
  ·(intro w0 _; go_simp; try with_reducible rfl)
  try simp only [Act.put, setIfInBounds_toArray, set_cons_zero, set_cons_succ, getElem_toArray, getElem_cons_zero, getElem_cons_succ]
  refine AnyT.done (by kernel_rfl) ?_ _
  clear c00 c01 c10 c11 c20 c21
  have y0 : q1.cell? ⟨w.heap.size + 1 + 1 + 1, 0, none⟩ = some (.slice none 0 0) := J.r3.cell 0
  have y1 : q1.cell? ⟨w.heap.size + 1 + 1 + 1, 1, none⟩ = some (.slice none 0 0) := J.r3.cell 1
  have g0 := J.r3.free 0
  have g1 := J.r3.free 1
  have ra := J.r3.put 0 (.slice none 0 0)
  have y2 : (q1.setCell ⟨w.heap.size + 1 + 1 + 1, 0, none⟩ (.slice none 0 0)).cell? ⟨w.heap.size + 1 + 1 + 1, 1, none⟩ = some (.slice none 0 0) := ra.cell 1
  have g2 := ra.free 1
  have rb := ra.put 1 (.slice none 0 0)
  have u0 : ((q1.setCell ⟨w.heap.size + 1 + 1 + 1, 0, none⟩ (.slice none 0 0)).setCell ⟨w.heap.size + 1 + 1 + 1, 1, none⟩ (.slice none 0 0)).cell? ⟨w.heap.size + 1 + 1 + 1, 0, none⟩ = some (.slice none 0 0) := rb.cell 0
  have u1 : ((q1.setCell ⟨w.heap.size + 1 + 1 + 1, 0, none⟩ (.slice none 0 0)).setCell ⟨w.heap.size + 1 + 1 + 1, 1, none⟩ (.slice none 0 0)).cell? ⟨w.heap.size + 1 + 1 + 1, 1, none⟩ = some (.slice none 0 0) := rb.cell 1
  have FZ : AnsWalk w (joinW d.1 d.2 k k') (joinB d.1 d.2 k k') (.returned (.tuple #[.agg #[.slice none 0 0, .slice none 0 0], .bool false])) ((q1.setCell ⟨w.heap.size + 1 + 1 + 1, 0, none⟩ (.slice none 0 0)).setCell ⟨w.heap.size + 1 + 1 + 1, 1, none⟩ (.slice none 0 0)) := ansWalk_no (join_no1 HA.out) (((J.b).setCell (show w.heap.size ≤ w.heap.size + 1 + 1 + 1 by omega) _).setCell (show w.heap.size ≤ w.heap.size + 1 + 1 + 1 by omega) _)
  have HFZ := hid FZ
  clear FZ ra rb k00_1 k01_1 k10_1 k11_1 k20_1 k21_1 J
  go_wp2
  exact bodyPost_ret (v := .tuple #[.agg #[.slice none 0 0, .slice none 0 0], .bool false]) (by simp [results, Tryz.results10, go_sem, u0, u1]) rfl HFZ.out
 | true =>
  have HA := hid ha
  clear ha
  cases hb : walkB d.1 d.2 k' with
  | false =>
   have HB := hid hb
   clear hb
   go_enter Tryz.func10, Tryz.ntmps10
   go_wp2_with fail
   rw [← HW.out]
   have c00 : W.cell? ⟨w.heap.size, 0, none⟩ = some (a) := J.r0.cell 0
   have c01 : W.cell? ⟨w.heap.size, 1, none⟩ = some (v) := J.r0.cell 1
   have c10 : W.cell? ⟨w.heap.size + 1, 0, none⟩ = some (.slice F fn fc) := J.r1.cell 0
   have c11 : W.cell? ⟨w.heap.size + 1, 1, none⟩ = some (.slice S sn sc) := J.r1.cell 1
   have c20 : W.cell? ⟨w.heap.size + 1 + 1, 0, none⟩ = some (.slice F' fn' fc') := J.r2.cell 0
   have c21 : W.cell? ⟨w.heap.size + 1 + 1, 1, none⟩ = some (.slice S' sn' sc') := J.r2.cell 1
   replace J := J.drew
   refine AnyT.start (S := (fun w' => w'.cell? ⟨w.heap.size, 0, none⟩ = some (a) ∧ w'.cell? ⟨w.heap.size, 1, none⟩ = some (v) ∧ w'.cell? ⟨w.heap.size + 1, 0, none⟩ = some (.slice F fn fc) ∧ w'.cell? ⟨w.heap.size + 1, 1, none⟩ = some (.slice S sn sc) ∧ w'.cell? ⟨w.heap.size + 1 + 1, 0, none⟩ = some (.slice F' fn' fc') ∧ w'.cell? ⟨w.heap.size + 1 + 1, 1, none⟩ = some (.slice S' sn' sc'))) (fun _ => false) (by kernel_rfl) ⟨c00, c01, c10, c11, c20, c21⟩ (fun hHeld => ?_)
   refine AnyT.take (i := 0) (v := ?_) rfl (by kernel_rfl) (by kernel_rfl) (by kernel_rfl) (by kernel_rfl) (fun _ _ _ h => h) (Or.inl ⟨by rfl, ?_⟩) (by assumption) ?_
   rotate_left 1
   ·(intro w0 hSw; (try dsimp only at hSw); go_simp; try with_reducible rfl)
   try simp only [Act.put, setIfInBounds_toArray, set_cons_zero, set_cons_succ, getElem_toArray, getElem_cons_zero, getElem_cons_succ]
   refine AnyT.take (i := 1) (v := ?_) rfl (by kernel_rfl) (by kernel_rfl) (by kernel_rfl) (by kernel_rfl) (fun _ _ _ h => h) (Or.inl ⟨by rfl, ?_⟩) (by assumption) ?_
   rotate_left 1
   ·(intro w0 hSw; (try dsimp only at hSw); go_simp; try with_reducible rfl)
   try simp only [Act.put, setIfInBounds_toArray, set_cons_zero, set_cons_succ, getElem_toArray, getElem_cons_zero, getElem_cons_succ]
   refine AnyT.call (i := 2) (by kernel_rfl) rfl (fun K hK => ?_)
   try simp only [Act.put, setIfInBounds_toArray, set_cons_zero, set_cons_succ, getElem_toArray, getElem_cons_zero, getElem_cons_succ]
   rw [if_pos (by rfl)]
   go_simp
   (go_at_call 35; refine (L1.out _ J).mono ?_; rintro e q1 ⟨he, bb⟩; rw [HA.out] at he; subst he; replace J := J.next bb; have k00_1 : q1.cell? ⟨w.heap.size, 0, none⟩ = some (a) := J.r0.cell 0; have k01_1 : q1.cell? ⟨w.heap.size, 1, none⟩ = some (v) := J.r0.cell 1; have k10_1 : q1.cell? ⟨w.heap.size + 1, 0, none⟩ = some (.slice F fn fc) := J.r1.cell 0; have k11_1 : q1.cell? ⟨w.heap.size + 1, 1, none⟩ = some (.slice S sn sc) := J.r1.cell 1; have k20_1 : q1.cell? ⟨w.heap.size + 1 + 1, 0, none⟩ = some (.slice F' fn' fc') := J.r2.cell 0; have k21_1 : q1.cell? ⟨w.heap.size + 1 + 1, 1, none⟩ = some (.slice S' sn' sc') := J.r2.cell 1; clear bb; go_wp2_with fail)
   refine hK.out _ _ (fun _ _ => ?_) (fun hKeep => ?_)
   ·exact ⟨k00_1,k01_1,k10_1,k11_1,k20_1,k21_1⟩
   replace hHeld := hKeep (by first | rfl | trivial) hHeld
   clear hK K hKeep
   try simp only [Act.put, setIfInBounds_toArray, set_cons_zero, set_cons_succ, getElem_toArray, getElem_cons_zero, getElem_cons_succ]
   refine AnyT.takeA (i := 3) (v := ?_) rfl (by kernel_rfl) (by kernel_rfl) (by kernel_rfl) (fun _ _ _ h => h) (Or.inl ⟨by rfl, ?_⟩) ?_
   rotate_left 1
   ·(intro w0 _; go_simp; try with_reducible rfl)
   try simp only [Act.put, setIfInBounds_toArray, set_cons_zero, set_cons_succ, getElem_toArray, getElem_cons_zero, getElem_cons_succ]
   refine AnyT.takeA (i := 4) (v := ?_) rfl (by kernel_rfl) (by kernel_rfl) (by kernel_rfl) (fun _ _ _ h => h) (Or.inl ⟨by rfl, ?_⟩) ?_
   rotate_left 1
   ·(intro w0 _; go_simp; try with_reducible rfl)
   try simp only [Act.put, setIfInBounds_toArray, set_cons_zero, set_cons_succ, getElem_toArray, getElem_cons_zero, getElem_cons_succ]
   refine AnyT.take (i := 5) (v := ?_) rfl (by kernel_rfl) (by kernel_rfl) (by kernel_rfl) (by kernel_rfl) (fun _ _ _ h => h) (Or.inl ⟨by rfl, ?_⟩) (by assumption) ?_
   rotate_left 1
   ·(intro w0 hSw; (try dsimp only at hSw); go_simp; try with_reducible rfl)
   try simp only [Act.put, setIfInBounds_toArray, set_cons_zero, set_cons_succ, getElem_toArray, getElem_cons_zero, getElem_cons_succ]
   refine AnyT.take (i := 6) (v := ?_) rfl (by kernel_rfl) (by kernel_rfl) (by kernel_rfl) (by kernel_rfl) (fun _ _ _ h => h) (Or.inl ⟨by rfl, ?_⟩) (by assumption) ?_
   rotate_left 1
   ·(intro w0 hSw; (try dsimp only at hSw); go_simp; try with_reducible rfl)
   try simp only [Act.put, setIfInBounds_toArray, set_cons_zero, set_cons_succ, getElem_toArray, getElem_cons_zero, getElem_cons_succ]
   refine AnyT.call (i := 7) (by kernel_rfl) rfl (fun K hK => ?_)
   try simp only [Act.put, setIfInBounds_toArray, set_cons_zero, set_cons_succ, getElem_toArray, getElem_cons_zero, getElem_cons_succ]
   rw [if_pos (by rfl)]
   go_simp
   (go_at_call 35; refine (L2.out _ J).mono ?_; rintro e q2 ⟨he, bb⟩; rw [HB.out] at he; subst he; replace J := J.next bb; have k00_2 : q2.cell? ⟨w.heap.size, 0, none⟩ = some (a) := J.r0.cell 0; have k01_2 : q2.cell? ⟨w.heap.size, 1, none⟩ = some (v) := J.r0.cell 1; have k10_2 : q2.cell? ⟨w.heap.size + 1, 0, none⟩ = some (.slice F fn fc) := J.r1.cell 0; have k11_2 : q2.cell? ⟨w.heap.size + 1, 1, none⟩ = some (.slice S sn sc) := J.r1.cell 1; have k20_2 : q2.cell? ⟨w.heap.size + 1 + 1, 0, none⟩ = some (.slice F' fn' fc') := J.r2.cell 0; have k21_2 : q2.cell? ⟨w.heap.size + 1 + 1, 1, none⟩ = some (.slice S' sn' sc') := J.r2.cell 1; clear bb; go_wp2_with fail)
   refine hK.out _ _ (fun _ _ => ?_) (fun hKeep => ?_)
   ·exact ⟨k00_2,k01_2,k10_2,k11_2,k20_2,k21_2⟩
   replace hHeld := hKeep (by first | rfl | trivial) hHeld
   clear hK K hKeep
   try simp only [Act.put, setIfInBounds_toArray, set_cons_zero, set_cons_succ, getElem_toArray, getElem_cons_zero, getElem_cons_succ]
   refine AnyT.takeA (i := 8) (v := ?_) rfl (by kernel_rfl) (by kernel_rfl) (by kernel_rfl) (fun _ _ _ h => h) (Or.inl ⟨by rfl, ?_⟩) ?_
   rotate_left 1
   ·(intro w0 _; go_simp; try with_reducible rfl)
   try simp only [Act.put, setIfInBounds_toArray, set_cons_zero, set_cons_succ, getElem_toArray, getElem_cons_zero, getElem_cons_succ]
   refine AnyT.takeA (i := 9) (v := ?_) rfl (by kernel_rfl) (by kernel_rfl) (by kernel_rfl) (fun _ _ _ h => h) (Or.inl ⟨by rfl, ?_⟩) ?_
   rotate_left 1
   ·(intro w0 _; go_simp; try with_reducible rfl)
   try simp only [Act.put, setIfInBounds_toArray, set_cons_zero, set_cons_succ, getElem_toArray, getElem_cons_zero, getElem_cons_succ]
   refine AnyT.takeA (i := 10) (v := ?_) rfl (by kernel_rfl) (by kernel_rfl) (by kernel_rfl) (fun _ _ _ h => h) (Or.inl ⟨by rfl, ?_⟩) ?_
   rotate_left 1
   ·(intro w0 _; go_simp; try with_reducible rfl)
   try simp only [Act.put, setIfInBounds_toArray, set_cons_zero, set_cons_succ, getElem_toArray, getElem_cons_zero, getElem_cons_succ]
   refine AnyT.takeA (i := 11) (v := undef) rfl (by kernel_rfl) (by kernel_rfl) (by kernel_rfl) (fun _ _ _ h => h) (Or.inr ⟨by rfl, rfl⟩) ?_
   try simp only [Act.put, setIfInBounds_toArray, set_cons_zero, set_cons_succ, getElem_toArray, getElem_cons_zero, getElem_cons_succ]
   refine AnyT.takeA (i := 13) (v := undef) rfl (by kernel_rfl) (by kernel_rfl) (by kernel_rfl) (fun _ _ _ h => h) (Or.inr ⟨by rfl, rfl⟩) ?_
   try simp only [Act.put, setIfInBounds_toArray, set_cons_zero, set_cons_succ, getElem_toArray, getElem_cons_zero, getElem_cons_succ]
   refine AnyT.takeA (i := 14) (v := undef) rfl (by kernel_rfl) (by kernel_rfl) (by kernel_rfl) (fun _ _ _ h => h) (Or.inr ⟨by rfl, rfl⟩) ?_
   try simp only [Act.put, setIfInBounds_toArray, set_cons_zero, set_cons_succ, getElem_toArray, getElem_cons_zero, getElem_cons_succ]
   refine AnyT.call (i := 12) (by kernel_rfl) rfl (fun K hK => ?_)
   try simp only [Act.put, setIfInBounds_toArray, set_cons_zero, set_cons_succ, getElem_toArray, getElem_cons_zero, getElem_cons_succ]
   rw [if_neg (by intro h; cases h)]
   refine hK.out _ _ (fun _ h => h) (fun _ => ?_)
   clear hK K
   try simp only [Act.put, setIfInBounds_toArray, set_cons_zero, set_cons_succ, getElem_toArray, getElem_cons_zero, getElem_cons_succ]
   refine AnyT.call (i := 15) (by kernel_rfl) rfl (fun K hK => ?_)
   try simp only [Act.put, setIfInBounds_toArray, set_cons_zero, set_cons_succ, getElem_toArray, getElem_cons_zero, getElem_cons_succ]
   rw [if_neg (by intro h; cases h)]
   refine hK.out _ _ (fun _ h => h) (fun _ => ?_)
   clear hK K
   try simp only [Act.put, setIfInBounds_toArray, set_cons_zero, set_cons_succ, getElem_toArray, getElem_cons_zero, getElem_cons_succ]
   refine AnyT.takeA (i := 16) (v := undef) rfl (by kernel_rfl) (by kernel_rfl) (by kernel_rfl) (fun _ _ _ h => h) (Or.inr ⟨by rfl, rfl⟩) ?_
   try simp only [Act.put, setIfInBounds_toArray, set_cons_zero, set_cons_succ, getElem_toArray, getElem_cons_zero, getElem_cons_succ]
   refine AnyT.takeA (i := 17) (v := ?_) rfl (by kernel_rfl) (by kernel_rfl) (by kernel_rfl) (fun _ _ _ h => h) (Or.inl ⟨by rfl, ?_⟩) ?_
   rotate_left 1
   ·(intro w0 _; go_simp; try with_reducible rfl)
   try simp only [Act.put, setIfInBounds_toArray, set_cons_zero, set_cons_succ, getElem_toArray, getElem_cons_zero, getElem_cons_succ]
   refine AnyT.done (by kernel_rfl) ?_ _
   clear c00 c01 c10 c11 c20 c21
   have y0 : q2.cell? ⟨w.heap.size + 1 + 1 + 1, 0, none⟩ = some (.slice none 0 0) := J.r3.cell 0
   have y1 : q2.cell? ⟨w.heap.size + 1 + 1 + 1, 1, none⟩ = some (.slice none 0 0) := J.r3.cell 1
   have g0 := J.r3.free 0
   have g1 := J.r3.free 1
   have ra := J.r3.put 0 (.slice none 0 0)
   have y2 : (q2.setCell ⟨w.heap.size + 1 + 1 + 1, 0, none⟩ (.slice none 0 0)).cell? ⟨w.heap.size + 1 + 1 + 1, 1, none⟩ = some (.slice none 0 0) := ra.cell 1
   have g2 := ra.free 1
   have rb := ra.put 1 (.slice none 0 0)
   have u0 : ((q2.setCell ⟨w.heap.size + 1 + 1 + 1, 0, none⟩ (.slice none 0 0)).setCell ⟨w.heap.size + 1 + 1 + 1, 1, none⟩ (.slice none 0 0)).cell? ⟨w.heap.size + 1 + 1 + 1, 0, none⟩ = some (.slice none 0 0) := rb.cell 0
   have u1 : ((q2.setCell ⟨w.heap.size + 1 + 1 + 1, 0, none⟩ (.slice none 0 0)).setCell ⟨w.heap.size + 1 + 1 + 1, 1, none⟩ (.slice none 0 0)).cell? ⟨w.heap.size + 1 + 1 + 1, 1, none⟩ = some (.slice none 0 0) := rb.cell 1
   have FZ : AnsWalk w (joinW d.1 d.2 k k') (joinB d.1 d.2 k k') (.returned (.tuple #[.agg #[.slice none 0 0, .slice none 0 0], .bool false])) ((q2.setCell ⟨w.heap.size + 1 + 1 + 1, 0, none⟩ (.slice none 0 0)).setCell ⟨w.heap.size + 1 + 1 + 1, 1, none⟩ (.slice none 0 0)) := ansWalk_no (join_no2 HB.out) (((J.b).setCell (show w.heap.size ≤ w.heap.size + 1 + 1 + 1 by omega) _).setCell (show w.heap.size ≤ w.heap.size + 1 + 1 + 1 by omega) _)
   have HFZ := hid FZ
   clear FZ ra rb k00_1 k01_1 k10_1 k11_1 k20_1 k21_1 k00_2 k01_2 k10_2 k11_2 k20_2 k21_2 J
   go_wp2
   exact bodyPost_ret (v := .tuple #[.agg #[.slice none 0 0, .slice none 0 0], .bool false]) (by simp [results, Tryz.results10, go_sem, u0, u1]) rfl HFZ.out
  | true =>
   have HB := hid hb
   clear hb
   cases hc : decide (endL k = k'.1) with
   | false =>
    have HC := hid hc
    clear hc
    go_enter Tryz.func10, Tryz.ntmps10
    go_wp2_with fail
    rw [← HW.out]
    have c00 : W.cell? ⟨w.heap.size, 0, none⟩ = some (a) := J.r0.cell 0
    have c01 : W.cell? ⟨w.heap.size, 1, none⟩ = some (v) := J.r0.cell 1
    have c10 : W.cell? ⟨w.heap.size + 1, 0, none⟩ = some (.slice F fn fc) := J.r1.cell 0
    have c11 : W.cell? ⟨w.heap.size + 1, 1, none⟩ = some (.slice S sn sc) := J.r1.cell 1
    have c20 : W.cell? ⟨w.heap.size + 1 + 1, 0, none⟩ = some (.slice F' fn' fc') := J.r2.cell 0
    have c21 : W.cell? ⟨w.heap.size + 1 + 1, 1, none⟩ = some (.slice S' sn' sc') := J.r2.cell 1
    replace J := J.drew
    refine AnyT.start (S := (fun w' => w'.cell? ⟨w.heap.size, 0, none⟩ = some (a) ∧ w'.cell? ⟨w.heap.size, 1, none⟩ = some (v) ∧ w'.cell? ⟨w.heap.size + 1, 0, none⟩ = some (.slice F fn fc) ∧ w'.cell? ⟨w.heap.size + 1, 1, none⟩ = some (.slice S sn sc) ∧ w'.cell? ⟨w.heap.size + 1 + 1, 0, none⟩ = some (.slice F' fn' fc') ∧ w'.cell? ⟨w.heap.size + 1 + 1, 1, none⟩ = some (.slice S' sn' sc'))) (fun _ => false) (by kernel_rfl) ⟨c00, c01, c10, c11, c20, c21⟩ (fun hHeld => ?_)
    refine AnyT.take (i := 0) (v := ?_) rfl (by kernel_rfl) (by kernel_rfl) (by kernel_rfl) (by kernel_rfl) (fun _ _ _ h => h) (Or.inl ⟨by rfl, ?_⟩) (by assumption) ?_
    rotate_left 1
    ·(intro w0 hSw; (try dsimp only at hSw); go_simp; try with_reducible rfl)
    try simp only [Act.put, setIfInBounds_toArray, set_cons_zero, set_cons_succ, getElem_toArray, getElem_cons_zero, getElem_cons_succ]
    refine AnyT.take (i := 1) (v := ?_) rfl (by kernel_rfl) (by kernel_rfl) (by kernel_rfl) (by kernel_rfl) (fun _ _ _ h => h) (Or.inl ⟨by rfl, ?_⟩) (by assumption) ?_
    rotate_left 1
    ·(intro w0 hSw; (try dsimp only at hSw); go_simp; try with_reducible rfl)
    try simp only [Act.put, setIfInBounds_toArray, set_cons_zero, set_cons_succ, getElem_toArray, getElem_cons_zero, getElem_cons_succ]
    refine AnyT.call (i := 2) (by kernel_rfl) rfl (fun K hK => ?_)
    try simp only [Act.put, setIfInBounds_toArray, set_cons_zero, set_cons_succ, getElem_toArray, getElem_cons_zero, getElem_cons_succ]
    rw [if_pos (by rfl)]
    go_simp
    (go_at_call 35; refine (L1.out _ J).mono ?_; rintro e q1 ⟨he, bb⟩; rw [HA.out] at he; subst he; replace J := J.next bb; have k00_1 : q1.cell? ⟨w.heap.size, 0, none⟩ = some (a) := J.r0.cell 0; have k01_1 : q1.cell? ⟨w.heap.size, 1, none⟩ = some (v) := J.r0.cell 1; have k10_1 : q1.cell? ⟨w.heap.size + 1, 0, none⟩ = some (.slice F fn fc) := J.r1.cell 0; have k11_1 : q1.cell? ⟨w.heap.size + 1, 1, none⟩ = some (.slice S sn sc) := J.r1.cell 1; have k20_1 : q1.cell? ⟨w.heap.size + 1 + 1, 0, none⟩ = some (.slice F' fn' fc') := J.r2.cell 0; have k21_1 : q1.cell? ⟨w.heap.size + 1 + 1, 1, none⟩ = some (.slice S' sn' sc') := J.r2.cell 1; clear bb; go_wp2_with fail)
    refine hK.out _ _ (fun _ _ => ?_) (fun hKeep => ?_)
    ·exact ⟨k00_1,k01_1,k10_1,k11_1,k20_1,k21_1⟩
    replace hHeld := hKeep (by first | rfl | trivial) hHeld
    clear hK K hKeep
    try simp only [Act.put, setIfInBounds_toArray, set_cons_zero, set_cons_succ, getElem_toArray, getElem_cons_zero, getElem_cons_succ]
    refine AnyT.takeA (i := 3) (v := ?_) rfl (by kernel_rfl) (by kernel_rfl) (by kernel_rfl) (fun _ _ _ h => h) (Or.inl ⟨by rfl, ?_⟩) ?_
    rotate_left 1
    ·(intro w0 _; go_simp; try with_reducible rfl)
    try simp only [Act.put, setIfInBounds_toArray, set_cons_zero, set_cons_succ, getElem_toArray, getElem_cons_zero, getElem_cons_succ]
    refine AnyT.takeA (i := 4) (v := ?_) rfl (by kernel_rfl) (by kernel_rfl) (by kernel_rfl) (fun _ _ _ h => h) (Or.inl ⟨by rfl, ?_⟩) ?_
    rotate_left 1
    ·(intro w0 _; go_simp; try with_reducible rfl)
    try simp only [Act.put, setIfInBounds_toArray, set_cons_zero, set_cons_succ, getElem_toArray, getElem_cons_zero, getElem_cons_succ]
    refine AnyT.take (i := 5) (v := ?_) rfl (by kernel_rfl) (by kernel_rfl) (by kernel_rfl) (by kernel_rfl) (fun _ _ _ h => h) (Or.inl ⟨by rfl, ?_⟩) (by assumption) ?_
    rotate_left 1
    ·(intro w0 hSw; (try dsimp only at hSw); go_simp; try with_reducible rfl)
    try simp only [Act.put, setIfInBounds_toArray, set_cons_zero, set_cons_succ, getElem_toArray, getElem_cons_zero, getElem_cons_succ]
    refine AnyT.take (i := 6) (v := ?_) rfl (by kernel_rfl) (by kernel_rfl) (by kernel_rfl) (by kernel_rfl) (fun _ _ _ h => h) (Or.inl ⟨by rfl, ?_⟩) (by assumption) ?_
    rotate_left 1
    ·(intro w0 hSw; (try dsimp only at hSw); go_simp; try with_reducible rfl)
    try simp only [Act.put, setIfInBounds_toArray, set_cons_zero, set_cons_succ, getElem_toArray, getElem_cons_zero, getElem_cons_succ]
    refine AnyT.call (i := 7) (by kernel_rfl) rfl (fun K hK => ?_)
    try simp only [Act.put, setIfInBounds_toArray, set_cons_zero, set_cons_succ, getElem_toArray, getElem_cons_zero, getElem_cons_succ]
    rw [if_pos (by rfl)]
    go_simp
    (go_at_call 35; refine (L2.out _ J).mono ?_; rintro e q2 ⟨he, bb⟩; rw [HB.out] at he; subst he; replace J := J.next bb; have k00_2 : q2.cell? ⟨w.heap.size, 0, none⟩ = some (a) := J.r0.cell 0; have k01_2 : q2.cell? ⟨w.heap.size, 1, none⟩ = some (v) := J.r0.cell 1; have k10_2 : q2.cell? ⟨w.heap.size + 1, 0, none⟩ = some (.slice F fn fc) := J.r1.cell 0; have k11_2 : q2.cell? ⟨w.heap.size + 1, 1, none⟩ = some (.slice S sn sc) := J.r1.cell 1; have k20_2 : q2.cell? ⟨w.heap.size + 1 + 1, 0, none⟩ = some (.slice F' fn' fc') := J.r2.cell 0; have k21_2 : q2.cell? ⟨w.heap.size + 1 + 1, 1, none⟩ = some (.slice S' sn' sc') := J.r2.cell 1; clear bb; go_wp2_with fail)
    refine hK.out _ _ (fun _ _ => ?_) (fun hKeep => ?_)
    ·exact ⟨k00_2,k01_2,k10_2,k11_2,k20_2,k21_2⟩
    replace hHeld := hKeep (by first | rfl | trivial) hHeld
    clear hK K hKeep
    try simp only [Act.put, setIfInBounds_toArray, set_cons_zero, set_cons_succ, getElem_toArray, getElem_cons_zero, getElem_cons_succ]
    refine AnyT.takeA (i := 8) (v := ?_) rfl (by kernel_rfl) (by kernel_rfl) (by kernel_rfl) (fun _ _ _ h => h) (Or.inl ⟨by rfl, ?_⟩) ?_
    rotate_left 1
    ·(intro w0 _; go_simp; try with_reducible rfl)
    try simp only [Act.put, setIfInBounds_toArray, set_cons_zero, set_cons_succ, getElem_toArray, getElem_cons_zero, getElem_cons_succ]
    refine AnyT.takeA (i := 9) (v := ?_) rfl (by kernel_rfl) (by kernel_rfl) (by kernel_rfl) (fun _ _ _ h => h) (Or.inl ⟨by rfl, ?_⟩) ?_
    rotate_left 1
    ·(intro w0 _; go_simp; try with_reducible rfl)
    try simp only [Act.put, setIfInBounds_toArray, set_cons_zero, set_cons_succ, getElem_toArray, getElem_cons_zero, getElem_cons_succ]
    refine AnyT.takeA (i := 10) (v := ?_) rfl (by kernel_rfl) (by kernel_rfl) (by kernel_rfl) (fun _ _ _ h => h) (Or.inl ⟨by rfl, ?_⟩) ?_
    rotate_left 1
    ·(intro w0 _; go_simp; try with_reducible rfl)
    try simp only [Act.put, setIfInBounds_toArray, set_cons_zero, set_cons_succ, getElem_toArray, getElem_cons_zero, getElem_cons_succ]
    refine AnyT.take (i := 11) (v := ?_) rfl (by kernel_rfl) (by kernel_rfl) (by kernel_rfl) (by kernel_rfl) (fun _ _ _ h => h) (Or.inl ⟨by rfl, ?_⟩) (by assumption) ?_
    rotate_left 1
    ·(intro w0 hSw; (try dsimp only at hSw); go_simp; try with_reducible rfl)
    try simp only [Act.put, setIfInBounds_toArray, set_cons_zero, set_cons_succ, getElem_toArray, getElem_cons_zero, getElem_cons_succ]
    refine AnyT.takeA (i := 13) (v := ?_) rfl (by kernel_rfl) (by kernel_rfl) (by kernel_rfl) (fun _ _ _ h => h) (Or.inl ⟨by rfl, ?_⟩) ?_
    rotate_left 1
    ·(intro w0 _; go_simp; try with_reducible rfl)
    try simp only [Act.put, setIfInBounds_toArray, set_cons_zero, set_cons_succ, getElem_toArray, getElem_cons_zero, getElem_cons_succ]
    refine AnyT.take (i := 14) (v := ?_) rfl (by kernel_rfl) (by kernel_rfl) (by kernel_rfl) (by kernel_rfl) (fun _ _ _ h => h) (Or.inl ⟨by rfl, ?_⟩) (by assumption) ?_
    rotate_left 1
    ·(intro w0 hSw; (try dsimp only at hSw); go_simp; try with_reducible rfl)
    try simp only [Act.put, setIfInBounds_toArray, set_cons_zero, set_cons_succ, getElem_toArray, getElem_cons_zero, getElem_cons_succ]
    refine AnyT.call (i := 12) (by kernel_rfl) rfl (fun K hK => ?_)
    try simp only [Act.put, setIfInBounds_toArray, set_cons_zero, set_cons_succ, getElem_toArray, getElem_cons_zero, getElem_cons_succ]
    rw [if_pos (by rfl)]
    go_simp
    (go_at_call 37; refine (L3.out _ J).mono ?_; rintro e q3 ⟨X, xn, xc, rfl, hX, bb⟩; replace hX := hX.more bb.size; replace J := J.next bb; have k00_3 : q3.cell? ⟨w.heap.size, 0, none⟩ = some (a) := J.r0.cell 0; have k01_3 : q3.cell? ⟨w.heap.size, 1, none⟩ = some (v) := J.r0.cell 1; have k10_3 : q3.cell? ⟨w.heap.size + 1, 0, none⟩ = some (.slice F fn fc) := J.r1.cell 0; have k11_3 : q3.cell? ⟨w.heap.size + 1, 1, none⟩ = some (.slice S sn sc) := J.r1.cell 1; have k20_3 : q3.cell? ⟨w.heap.size + 1 + 1, 0, none⟩ = some (.slice F' fn' fc') := J.r2.cell 0; have k21_3 : q3.cell? ⟨w.heap.size + 1 + 1, 1, none⟩ = some (.slice S' sn' sc') := J.r2.cell 1; clear bb; go_wp2_with fail)
    refine hK.out _ _ (fun _ _ => ?_) (fun hKeep => ?_)
    ·exact ⟨k00_3,k01_3,k10_3,k11_3,k20_3,k21_3⟩
    replace hHeld := hKeep (by first | rfl | trivial) hHeld
    clear hK K hKeep
    try simp only [Act.put, setIfInBounds_toArray, set_cons_zero, set_cons_succ, getElem_toArray, getElem_cons_zero, getElem_cons_succ]
    refine AnyT.call (i := 15) (by kernel_rfl) rfl (fun K hK => ?_)
    try simp only [Act.put, setIfInBounds_toArray, set_cons_zero, set_cons_succ, getElem_toArray, getElem_cons_zero, getElem_cons_succ]
    rw [if_pos (by rfl)]
    go_simp
    (go_at_call 36; refine (L4.out _ J X xn xc hX).mono ?_; rintro e q4 ⟨he, bb⟩; rw [HC.out] at he; subst he; replace J := J.next bb; have k00_4 : q4.cell? ⟨w.heap.size, 0, none⟩ = some (a) := J.r0.cell 0; have k01_4 : q4.cell? ⟨w.heap.size, 1, none⟩ = some (v) := J.r0.cell 1; have k10_4 : q4.cell? ⟨w.heap.size + 1, 0, none⟩ = some (.slice F fn fc) := J.r1.cell 0; have k11_4 : q4.cell? ⟨w.heap.size + 1, 1, none⟩ = some (.slice S sn sc) := J.r1.cell 1; have k20_4 : q4.cell? ⟨w.heap.size + 1 + 1, 0, none⟩ = some (.slice F' fn' fc') := J.r2.cell 0; have k21_4 : q4.cell? ⟨w.heap.size + 1 + 1, 1, none⟩ = some (.slice S' sn' sc') := J.r2.cell 1; clear bb; go_wp2_with fail)
    refine hK.out _ _ (fun _ _ => ?_) (fun hKeep => ?_)
    ·exact ⟨k00_4,k01_4,k10_4,k11_4,k20_4,k21_4⟩
    replace hHeld := hKeep (by first | rfl | trivial) hHeld
    clear hK K hKeep
    try simp only [Act.put, setIfInBounds_toArray, set_cons_zero, set_cons_succ, getElem_toArray, getElem_cons_zero, getElem_cons_succ]
    refine AnyT.takeA (i := 16) (v := ?_) rfl (by kernel_rfl) (by kernel_rfl) (by kernel_rfl) (fun _ _ _ h => h) (Or.inl ⟨by rfl, ?_⟩) ?_
    rotate_left 1
    ·(intro w0 _; go_simp; try with_reducible rfl)
    try simp only [Act.put, setIfInBounds_toArray, set_cons_zero, set_cons_succ, getElem_toArray, getElem_cons_zero, getElem_cons_succ]
    refine AnyT.takeA (i := 17) (v := ?_) rfl (by kernel_rfl) (by kernel_rfl) (by kernel_rfl) (fun _ _ _ h => h) (Or.inl ⟨by rfl, ?_⟩) ?_
    rotate_left 1
    ·(intro w0 _; go_simp; try with_reducible rfl)
    try simp only [Act.put, setIfInBounds_toArray, set_cons_zero, set_cons_succ, getElem_toArray, getElem_cons_zero, getElem_cons_succ]
    refine AnyT.done (by kernel_rfl) ?_ _
    clear c00 c01 c10 c11 c20 c21
    have y0 : q4.cell? ⟨w.heap.size + 1 + 1 + 1, 0, none⟩ = some (.slice none 0 0) := J.r3.cell 0
    have y1 : q4.cell? ⟨w.heap.size + 1 + 1 + 1, 1, none⟩ = some (.slice none 0 0) := J.r3.cell 1
    have g0 := J.r3.free 0
    have g1 := J.r3.free 1
    have ra := J.r3.put 0 (.slice none 0 0)
    have y2 : (q4.setCell ⟨w.heap.size + 1 + 1 + 1, 0, none⟩ (.slice none 0 0)).cell? ⟨w.heap.size + 1 + 1 + 1, 1, none⟩ = some (.slice none 0 0) := ra.cell 1
    have g2 := ra.free 1
    have rb := ra.put 1 (.slice none 0 0)
    have u0 : ((q4.setCell ⟨w.heap.size + 1 + 1 + 1, 0, none⟩ (.slice none 0 0)).setCell ⟨w.heap.size + 1 + 1 + 1, 1, none⟩ (.slice none 0 0)).cell? ⟨w.heap.size + 1 + 1 + 1, 0, none⟩ = some (.slice none 0 0) := rb.cell 0
    have u1 : ((q4.setCell ⟨w.heap.size + 1 + 1 + 1, 0, none⟩ (.slice none 0 0)).setCell ⟨w.heap.size + 1 + 1 + 1, 1, none⟩ (.slice none 0 0)).cell? ⟨w.heap.size + 1 + 1 + 1, 1, none⟩ = some (.slice none 0 0) := rb.cell 1
    have FZ : AnsWalk w (joinW d.1 d.2 k k') (joinB d.1 d.2 k k') (.returned (.tuple #[.agg #[.slice none 0 0, .slice none 0 0], .bool false])) ((q4.setCell ⟨w.heap.size + 1 + 1 + 1, 0, none⟩ (.slice none 0 0)).setCell ⟨w.heap.size + 1 + 1 + 1, 1, none⟩ (.slice none 0 0)) := ansWalk_no (join_no3 HC.out) (((J.b).setCell (show w.heap.size ≤ w.heap.size + 1 + 1 + 1 by omega) _).setCell (show w.heap.size ≤ w.heap.size + 1 + 1 + 1 by omega) _)
    have HFZ := hid FZ
    clear FZ ra rb k00_1 k01_1 k10_1 k11_1 k20_1 k21_1 k00_2 k01_2 k10_2 k11_2 k20_2 k21_2 k00_3 k01_3 k10_3 k11_3 k20_3 k21_3 k00_4 k01_4 k10_4 k11_4 k20_4 k21_4 J
    go_wp2
    exact bodyPost_ret (v := .tuple #[.agg #[.slice none 0 0, .slice none 0 0], .bool false]) (by simp [results, Tryz.results10, go_sem, u0, u1]) rfl HFZ.out
   | true =>
    have HC := hid hc
    clear hc
    go_enter Tryz.func10, Tryz.ntmps10
    go_wp2_with fail
    rw [← HW.out]
    have c00 : W.cell? ⟨w.heap.size, 0, none⟩ = some (a) := J.r0.cell 0
    have c01 : W.cell? ⟨w.heap.size, 1, none⟩ = some (v) := J.r0.cell 1
    have c10 : W.cell? ⟨w.heap.size + 1, 0, none⟩ = some (.slice F fn fc) := J.r1.cell 0
    have c11 : W.cell? ⟨w.heap.size + 1, 1, none⟩ = some (.slice S sn sc) := J.r1.cell 1
    have c20 : W.cell? ⟨w.heap.size + 1 + 1, 0, none⟩ = some (.slice F' fn' fc') := J.r2.cell 0
    have c21 : W.cell? ⟨w.heap.size + 1 + 1, 1, none⟩ = some (.slice S' sn' sc') := J.r2.cell 1
    replace J := J.drew
    refine AnyT.start (S := (fun w' => w'.cell? ⟨w.heap.size, 0, none⟩ = some (a) ∧ w'.cell? ⟨w.heap.size, 1, none⟩ = some (v) ∧ w'.cell? ⟨w.heap.size + 1, 0, none⟩ = some (.slice F fn fc) ∧ w'.cell? ⟨w.heap.size + 1, 1, none⟩ = some (.slice S sn sc) ∧ w'.cell? ⟨w.heap.size + 1 + 1, 0, none⟩ = some (.slice F' fn' fc') ∧ w'.cell? ⟨w.heap.size + 1 + 1, 1, none⟩ = some (.slice S' sn' sc'))) (fun _ => false) (by kernel_rfl) ⟨c00, c01, c10, c11, c20, c21⟩ (fun hHeld => ?_)
    refine AnyT.take (i := 0) (v := ?_) rfl (by kernel_rfl) (by kernel_rfl) (by kernel_rfl) (by kernel_rfl) (fun _ _ _ h => h) (Or.inl ⟨by rfl, ?_⟩) (by assumption) ?_
    rotate_left 1
    ·(intro w0 hSw; (try dsimp only at hSw); go_simp; try with_reducible rfl)
    try simp only [Act.put, setIfInBounds_toArray, set_cons_zero, set_cons_succ, getElem_toArray, getElem_cons_zero, getElem_cons_succ]
    refine AnyT.take (i := 1) (v := ?_) rfl (by kernel_rfl) (by kernel_rfl) (by kernel_rfl) (by kernel_rfl) (fun _ _ _ h => h) (Or.inl ⟨by rfl, ?_⟩) (by assumption) ?_
    rotate_left 1
    ·(intro w0 hSw; (try dsimp only at hSw); go_simp; try with_reducible rfl)
    try simp only [Act.put, setIfInBounds_toArray, set_cons_zero, set_cons_succ, getElem_toArray, getElem_cons_zero, getElem_cons_succ]
    refine AnyT.call (i := 2) (by kernel_rfl) rfl (fun K hK => ?_)
    try simp only [Act.put, setIfInBounds_toArray, set_cons_zero, set_cons_succ, getElem_toArray, getElem_cons_zero, getElem_cons_succ]
    rw [if_pos (by rfl)]
    go_simp
    (go_at_call 35; refine (L1.out _ J).mono ?_; rintro e q1 ⟨he, bb⟩; rw [HA.out] at he; subst he; replace J := J.next bb; have k00_1 : q1.cell? ⟨w.heap.size, 0, none⟩ = some (a) := J.r0.cell 0; have k01_1 : q1.cell? ⟨w.heap.size, 1, none⟩ = some (v) := J.r0.cell 1; have k10_1 : q1.cell? ⟨w.heap.size + 1, 0, none⟩ = some (.slice F fn fc) := J.r1.cell 0; have k11_1 : q1.cell? ⟨w.heap.size + 1, 1, none⟩ = some (.slice S sn sc) := J.r1.cell 1; have k20_1 : q1.cell? ⟨w.heap.size + 1 + 1, 0, none⟩ = some (.slice F' fn' fc') := J.r2.cell 0; have k21_1 : q1.cell? ⟨w.heap.size + 1 + 1, 1, none⟩ = some (.slice S' sn' sc') := J.r2.cell 1; clear bb; go_wp2_with fail)
    refine hK.out _ _ (fun _ _ => ?_) (fun hKeep => ?_)
    ·exact ⟨k00_1,k01_1,k10_1,k11_1,k20_1,k21_1⟩
    replace hHeld := hKeep (by first | rfl | trivial) hHeld
    clear hK K hKeep
    try simp only [Act.put, setIfInBounds_toArray, set_cons_zero, set_cons_succ, getElem_toArray, getElem_cons_zero, getElem_cons_succ]
    refine AnyT.takeA (i := 3) (v := ?_) rfl (by kernel_rfl) (by kernel_rfl) (by kernel_rfl) (fun _ _ _ h => h) (Or.inl ⟨by rfl, ?_⟩) ?_
    rotate_left 1
    ·(intro w0 _; go_simp; try with_reducible rfl)
    try simp only [Act.put, setIfInBounds_toArray, set_cons_zero, set_cons_succ, getElem_toArray, getElem_cons_zero, getElem_cons_succ]
    refine AnyT.takeA (i := 4) (v := ?_) rfl (by kernel_rfl) (by kernel_rfl) (by kernel_rfl) (fun _ _ _ h => h) (Or.inl ⟨by rfl, ?_⟩) ?_
    rotate_left 1
    ·(intro w0 _; go_simp; try with_reducible rfl)
    try simp only [Act.put, setIfInBounds_toArray, set_cons_zero, set_cons_succ, getElem_toArray, getElem_cons_zero, getElem_cons_succ]
    refine AnyT.take (i := 5) (v := ?_) rfl (by kernel_rfl) (by kernel_rfl) (by kernel_rfl) (by kernel_rfl) (fun _ _ _ h => h) (Or.inl ⟨by rfl, ?_⟩) (by assumption) ?_
    rotate_left 1
    ·(intro w0 hSw; (try dsimp only at hSw); go_simp; try with_reducible rfl)
    try simp only [Act.put, setIfInBounds_toArray, set_cons_zero, set_cons_succ, getElem_toArray, getElem_cons_zero, getElem_cons_succ]
    refine AnyT.take (i := 6) (v := ?_) rfl (by kernel_rfl) (by kernel_rfl) (by kernel_rfl) (by kernel_rfl) (fun _ _ _ h => h) (Or.inl ⟨by rfl, ?_⟩) (by assumption) ?_
    rotate_left 1
    ·(intro w0 hSw; (try dsimp only at hSw); go_simp; try with_reducible rfl)
    try simp only [Act.put, setIfInBounds_toArray, set_cons_zero, set_cons_succ, getElem_toArray, getElem_cons_zero, getElem_cons_succ]
    refine AnyT.call (i := 7) (by kernel_rfl) rfl (fun K hK => ?_)
    try simp only [Act.put, setIfInBounds_toArray, set_cons_zero, set_cons_succ, getElem_toArray, getElem_cons_zero, getElem_cons_succ]
    rw [if_pos (by rfl)]
    go_simp
    (go_at_call 35; refine (L2.out _ J).mono ?_; rintro e q2 ⟨he, bb⟩; rw [HB.out] at he; subst he; replace J := J.next bb; have k00_2 : q2.cell? ⟨w.heap.size, 0, none⟩ = some (a) := J.r0.cell 0; have k01_2 : q2.cell? ⟨w.heap.size, 1, none⟩ = some (v) := J.r0.cell 1; have k10_2 : q2.cell? ⟨w.heap.size + 1, 0, none⟩ = some (.slice F fn fc) := J.r1.cell 0; have k11_2 : q2.cell? ⟨w.heap.size + 1, 1, none⟩ = some (.slice S sn sc) := J.r1.cell 1; have k20_2 : q2.cell? ⟨w.heap.size + 1 + 1, 0, none⟩ = some (.slice F' fn' fc') := J.r2.cell 0; have k21_2 : q2.cell? ⟨w.heap.size + 1 + 1, 1, none⟩ = some (.slice S' sn' sc') := J.r2.cell 1; clear bb; go_wp2_with fail)
    refine hK.out _ _ (fun _ _ => ?_) (fun hKeep => ?_)
    ·exact ⟨k00_2,k01_2,k10_2,k11_2,k20_2,k21_2⟩
    replace hHeld := hKeep (by first | rfl | trivial) hHeld
    clear hK K hKeep
    try simp only [Act.put, setIfInBounds_toArray, set_cons_zero, set_cons_succ, getElem_toArray, getElem_cons_zero, getElem_cons_succ]
    refine AnyT.takeA (i := 8) (v := ?_) rfl (by kernel_rfl) (by kernel_rfl) (by kernel_rfl) (fun _ _ _ h => h) (Or.inl ⟨by rfl, ?_⟩) ?_
    rotate_left 1
    ·(intro w0 _; go_simp; try with_reducible rfl)
    try simp only [Act.put, setIfInBounds_toArray, set_cons_zero, set_cons_succ, getElem_toArray, getElem_cons_zero, getElem_cons_succ]
    refine AnyT.takeA (i := 9) (v := ?_) rfl (by kernel_rfl) (by kernel_rfl) (by kernel_rfl) (fun _ _ _ h => h) (Or.inl ⟨by rfl, ?_⟩) ?_
    rotate_left 1
    ·(intro w0 _; go_simp; try with_reducible rfl)
    try simp only [Act.put, setIfInBounds_toArray, set_cons_zero, set_cons_succ, getElem_toArray, getElem_cons_zero, getElem_cons_succ]
    refine AnyT.takeA (i := 10) (v := ?_) rfl (by kernel_rfl) (by kernel_rfl) (by kernel_rfl) (fun _ _ _ h => h) (Or.inl ⟨by rfl, ?_⟩) ?_
    rotate_left 1
    ·(intro w0 _; go_simp; try with_reducible rfl)
    try simp only [Act.put, setIfInBounds_toArray, set_cons_zero, set_cons_succ, getElem_toArray, getElem_cons_zero, getElem_cons_succ]
    refine AnyT.take (i := 11) (v := ?_) rfl (by kernel_rfl) (by kernel_rfl) (by kernel_rfl) (by kernel_rfl) (fun _ _ _ h => h) (Or.inl ⟨by rfl, ?_⟩) (by assumption) ?_
    rotate_left 1
    ·(intro w0 hSw; (try dsimp only at hSw); go_simp; try with_reducible rfl)
    try simp only [Act.put, setIfInBounds_toArray, set_cons_zero, set_cons_succ, getElem_toArray, getElem_cons_zero, getElem_cons_succ]
    refine AnyT.takeA (i := 13) (v := ?_) rfl (by kernel_rfl) (by kernel_rfl) (by kernel_rfl) (fun _ _ _ h => h) (Or.inl ⟨by rfl, ?_⟩) ?_
    rotate_left 1
    ·(intro w0 _; go_simp; try with_reducible rfl)
    try simp only [Act.put, setIfInBounds_toArray, set_cons_zero, set_cons_succ, getElem_toArray, getElem_cons_zero, getElem_cons_succ]
    refine AnyT.take (i := 14) (v := ?_) rfl (by kernel_rfl) (by kernel_rfl) (by kernel_rfl) (by kernel_rfl) (fun _ _ _ h => h) (Or.inl ⟨by rfl, ?_⟩) (by assumption) ?_
    rotate_left 1
    ·(intro w0 hSw; (try dsimp only at hSw); go_simp; try with_reducible rfl)
    try simp only [Act.put, setIfInBounds_toArray, set_cons_zero, set_cons_succ, getElem_toArray, getElem_cons_zero, getElem_cons_succ]
    refine AnyT.call (i := 12) (by kernel_rfl) rfl (fun K hK => ?_)
    try simp only [Act.put, setIfInBounds_toArray, set_cons_zero, set_cons_succ, getElem_toArray, getElem_cons_zero, getElem_cons_succ]
    rw [if_pos (by rfl)]
    go_simp
    (go_at_call 37; refine (L3.out _ J).mono ?_; rintro e q3 ⟨X, xn, xc, rfl, hX, bb⟩; replace hX := hX.more bb.size; replace J := J.next bb; have k00_3 : q3.cell? ⟨w.heap.size, 0, none⟩ = some (a) := J.r0.cell 0; have k01_3 : q3.cell? ⟨w.heap.size, 1, none⟩ = some (v) := J.r0.cell 1; have k10_3 : q3.cell? ⟨w.heap.size + 1, 0, none⟩ = some (.slice F fn fc) := J.r1.cell 0; have k11_3 : q3.cell? ⟨w.heap.size + 1, 1, none⟩ = some (.slice S sn sc) := J.r1.cell 1; have k20_3 : q3.cell? ⟨w.heap.size + 1 + 1, 0, none⟩ = some (.slice F' fn' fc') := J.r2.cell 0; have k21_3 : q3.cell? ⟨w.heap.size + 1 + 1, 1, none⟩ = some (.slice S' sn' sc') := J.r2.cell 1; clear bb; go_wp2_with fail)
    refine hK.out _ _ (fun _ _ => ?_) (fun hKeep => ?_)
    ·exact ⟨k00_3,k01_3,k10_3,k11_3,k20_3,k21_3⟩
    replace hHeld := hKeep (by first | rfl | trivial) hHeld
    clear hK K hKeep
    try simp only [Act.put, setIfInBounds_toArray, set_cons_zero, set_cons_succ, getElem_toArray, getElem_cons_zero, getElem_cons_succ]
    refine AnyT.call (i := 15) (by kernel_rfl) rfl (fun K hK => ?_)
    try simp only [Act.put, setIfInBounds_toArray, set_cons_zero, set_cons_succ, getElem_toArray, getElem_cons_zero, getElem_cons_succ]
    rw [if_pos (by rfl)]
    go_simp
    (go_at_call 36; refine (L4.out _ J X xn xc hX).mono ?_; rintro e q4 ⟨he, bb⟩; rw [HC.out] at he; subst he; replace J := J.next bb; have k00_4 : q4.cell? ⟨w.heap.size, 0, none⟩ = some (a) := J.r0.cell 0; have k01_4 : q4.cell? ⟨w.heap.size, 1, none⟩ = some (v) := J.r0.cell 1; have k10_4 : q4.cell? ⟨w.heap.size + 1, 0, none⟩ = some (.slice F fn fc) := J.r1.cell 0; have k11_4 : q4.cell? ⟨w.heap.size + 1, 1, none⟩ = some (.slice S sn sc) := J.r1.cell 1; have k20_4 : q4.cell? ⟨w.heap.size + 1 + 1, 0, none⟩ = some (.slice F' fn' fc') := J.r2.cell 0; have k21_4 : q4.cell? ⟨w.heap.size + 1 + 1, 1, none⟩ = some (.slice S' sn' sc') := J.r2.cell 1; clear bb; go_wp2_with fail)
    refine hK.out _ _ (fun _ _ => ?_) (fun hKeep => ?_)
    ·exact ⟨k00_4,k01_4,k10_4,k11_4,k20_4,k21_4⟩
    replace hHeld := hKeep (by first | rfl | trivial) hHeld
    clear hK K hKeep
    try simp only [Act.put, setIfInBounds_toArray, set_cons_zero, set_cons_succ, getElem_toArray, getElem_cons_zero, getElem_cons_succ]
    refine AnyT.takeA (i := 16) (v := ?_) rfl (by kernel_rfl) (by kernel_rfl) (by kernel_rfl) (fun _ _ _ h => h) (Or.inl ⟨by rfl, ?_⟩) ?_
    rotate_left 1
    ·(intro w0 _; go_simp; try with_reducible rfl)
    try simp only [Act.put, setIfInBounds_toArray, set_cons_zero, set_cons_succ, getElem_toArray, getElem_cons_zero, getElem_cons_succ]
    refine AnyT.takeA (i := 17) (v := ?_) rfl (by kernel_rfl) (by kernel_rfl) (by kernel_rfl) (fun _ _ _ h => h) (Or.inl ⟨by rfl, ?_⟩) ?_
    rotate_left 1
    ·(intro w0 _; go_simp; try with_reducible rfl)
    try simp only [Act.put, setIfInBounds_toArray, set_cons_zero, set_cons_succ, getElem_toArray, getElem_cons_zero, getElem_cons_succ]
    refine AnyT.done (by kernel_rfl) ?_ _
    clear c00 c01 c10 c11 c20 c21
    clear k00_1 k01_1 k10_1 k11_1 k20_1 k21_1 k00_2 k01_2 k10_2 k11_2 k20_2 k21_2 k00_3 k01_3 k10_3 k11_3 k20_3 k21_3 k00_4 k01_4 k10_4 k11_4 k20_4 k21_4
    have m0 : q4.cell? ⟨w.heap.size + 1, 1, none⟩ = some (.slice S sn sc) := J.r1.cell 1
    have m1 : q4.cell? ⟨w.heap.size + 1 + 1, 1, none⟩ = some (.slice S' sn' sc') := J.r2.cell 1
    obtain ⟨q5, hq5⟩ : ∃ q5, q5 = q4.alloc (.cells #[.slice S sn sc, .slice S' sn' sc'] 33) := ⟨_, rfl⟩
    have b5 : Below q4.heap.size q4 q5 := by rw [hq5]; exact (Below.refl _ _).alloc (Nat.le_refl _) _
    have J5 := J.next b5
    have z6 := J5.size
    have r5 : Row q5 q4.heap.size 33 #[.slice S sn sc, .slice S' sn' sc'] := by rw [hq5]; exact Row.new _ _ _
    have LC := hid (concat2 q4.heap.size S S' sn sc sn' sc' w.heap.size k.2 k'.2 q5 r5.lt (r5.cell 0) (r5.cell 1) (HSEG.out.2.1.below J5.b) (HSEG.out.2.2.below J5.b) J5.b.size hsn hsn')
    have HQ5 := hid hq5
    clear hq5 r5 b5 J
    go_wp2_with fail
    rw [← HQ5.out]
    refine LC.out.mono ?_
    rintro e q6 ⟨A, cc, vs, rfl, ho, hf, bb⟩
    replace J5 := J5.next bb
    have st := concat_start ho hf
    have zJ := J5.size
    have z56 := bb.size
    clear ho hf bb LC m0 m1
    by_cases hlen : sn + sn' ≤ 60
    ·have HLEN := hid (show k.2.length + k'.2.length ≤ 60 by rw [HL1.out, HL2.out]; exact hlen)
     obtain ⟨N, hN⟩ : ∃ N, sn + sn' = N := ⟨_, rfl⟩
     rw [hN] at st hlen ⊢
     have HNL := hid (show (k.2 ++ k'.2).length = N by rw [List.length_append, HL1.out, HL2.out, hN])
     have hle : ¬ (60 : Int) < (N : Int) := by omega
     have H0 := hid (show Jn w a v (.slice F fn fc) (.slice S sn sc) (.slice F' fn' fc') (.slice S' sn' sc') q6 ∧ OwnL q6 q5.heap.size q6.heap.size 74 sStep A 0 cc ((k.2 ++ k'.2).take 0) ∧ Suf q6 A N cc w.heap.size (k.2 ++ k'.2) 0 ∧ ∀ g, A = some ⟨g, 0, none⟩ → q5.heap.size ≤ g ∧ g < q6.heap.size from ⟨J5, st.1, st.2.1, st.2.2⟩)
     clear J5 st hN
     go_wp2_with fail
     go_loopg [9, 41] N (fun g i9 i_ wr => ∃ i : Nat, i_ = .int .i64 i ∧ i + g = N ∧ Jn w a v (.slice F fn fc) (.slice S sn sc) (.slice F' fn' fc') (.slice S' sn' sc') wr ∧ OwnL wr q5.heap.size wr.heap.size 74 sStep A i cc ((k.2 ++ k'.2).take i) ∧ Suf wr A N cc w.heap.size (k.2 ++ k'.2) i ∧ (∀ g, A = some ⟨g, 0, none⟩ → q5.heap.size ≤ g ∧ g < q6.heap.size) ∧ q6.heap.size ≤ wr.heap.size)
     case atStart => exact ⟨0, rfl, by omega, H0.out.1, H0.out.2.1, H0.out.2.2.1, H0.out.2.2.2, Nat.le_refl _⟩
     case round =>
      clear H0
      obtain ⟨i, rfl, hg, J, oL, sf, hA, hsz⟩ := hrel
      have HG := hid hg
      clear hg
      by_cases hi : i < N
      ·obtain ⟨g, cur, U, un, uc, rfl, hrow, hcs, hNc, e0, e1, e2, hU⟩ := sf i (Nat.le_refl _) hi
       have hgA := hA g rfl
       obtain ⟨x, hx⟩ : ∃ x, (k.2 ++ k'.2).getD i (0, 0, []) = x := ⟨_, rfl⟩
       have hil : i < (k.2 ++ k'.2).length := by rw [HNL.out]; exact hi
       have htm := join_terms HA.out HB.out hil
       rw [hx] at e0 e1 hU htm
       obtain ⟨xa, xr, ys⟩ := x
       have hun : 1 ≤ un ∧ un ≤ 60 := by have := term_len htm; have := hU.seg.1; omega
       obtain ⟨b, off, y, rfl, hbB, -, -⟩ := hU.seg.spot (k := 0) (by omega)
       have zg : g < wr.heap.size := by omega
       have zw : w.heap.size ≤ wr.heap.size := J.b.size
       have LCl := hid (cloneInts b off un uc ys wr (hU.seg.more zw) (by omega))
       have c2 : wr.cell? ⟨g, i * 3 + 2, none⟩ = some (.slice (some ⟨b, off, none⟩) un uc) := by rw [hrow.cell]; exact e2
       have EX := hid (take_step hil hx)
       have HE := hid (And.intro e0 e1)
       have i0 : (0 : Int) ≤ (i : Int) := by omega
       have i1 : (i : Int) < (N : Int) := by omega
       have HS := hid sf
       clear sf e0 e1 e2 hU htm hx
       go_wp2_with fail
       refine LCl.out.mono ?_
       rintro e w2 ⟨X, xn, xc, rfl, oX, bb⟩
       have row2 := hrow.next bb
       have k2 : w2.cell? ⟨g, i * 3 + 2, none⟩ = some (.slice (some ⟨b, off, none⟩) un uc) := (bb.cell (p := ⟨g, i * 3 + 2, none⟩) zg).trans c2
       have f2 := row2.free (i * 3 + 2)
       have J2 := J.next bb
       have zz := bb.size
       have oL2 : OwnL (w2.setCell ⟨g, i * 3 + 2, none⟩ (.slice X xn xc)) q5.heap.size wr.heap.size 74 sStep (some ⟨g, 0, none⟩) i cc ((k.2 ++ k'.2).take i) := OwnL.put (oL.next bb) (show i * 3 ≤ i * 3 + 2 by omega)
       have row3 := row2.put (i * 3 + 2) (.slice X xn xc)
       have oS : Owned (w2.setCell ⟨g, i * 3 + 2, none⟩ (.slice X xn xc)) wr.heap.size w2.heap.size sStep [.int .i64 xa, .int .i64 xr, .slice X xn xc] (xa, xr, ys) := (owned_step oX xa xr).put (by omega)
       have F := hid (show Jn w a v (.slice F fn fc) (.slice S sn sc) (.slice F' fn' fc') (.slice S' sn' sc') (w2.setCell ⟨g, i * 3 + 2, none⟩ (.slice X xn xc)) ∧ OwnL (w2.setCell ⟨g, i * 3 + 2, none⟩ (.slice X xn xc)) q5.heap.size (w2.setCell ⟨g, i * 3 + 2, none⟩ (.slice X xn xc)).heap.size 74 sStep (some ⟨g, 0, none⟩) (i + 1) cc ((k.2 ++ k'.2).take (i + 1)) ∧ Suf (w2.setCell ⟨g, i * 3 + 2, none⟩ (.slice X xn xc)) (some ⟨g, 0, none⟩) N cc w.heap.size (k.2 ++ k'.2) (i + 1) ∧ q6.heap.size ≤ (w2.setCell ⟨g, i * 3 + 2, none⟩ (.slice X xn xc)).heap.size from by
        refine ⟨⟨J2.r0.far (show w.heap.size ≠ g by omega) _, J2.r1.far (show w.heap.size + 1 ≠ g by omega) _, J2.r2.far (show w.heap.size + 1 + 1 ≠ g by omega) _, J2.r3.far (show w.heap.size + 1 + 1 + 1 ≠ g by omega) _, J2.b.setCell (show w.heap.size ≤ g by omega) _⟩, ?_, Suf.put (HS.out.next bb zw) (by omega), by simp; omega⟩
        rw [← EX.out]
        refine OwnL.ext oL2 (by omega) row3 (fun q hq => ?_) oS (Nat.le_refl _) (by omega)
        have hq : q < 3 := hq
        have hn : nc sStep = 3 := rfl
        rw [hn]
        have hcases : q = 0 ∨ q = 1 ∨ q = 2 := by omega
        rcases hcases with rfl | rfl | rfl
        ·rw [Array.getElem?_setIfInBounds, if_neg (by omega)]; exact HE.out.1
        ·rw [Array.getElem?_setIfInBounds, if_neg (by omega)]; exact HE.out.2
        ·rw [Array.getElem?_setIfInBounds, if_pos rfl, if_pos (by omega)]; rfl)
       clear oX bb J J2 oL oL2 hrow row2 row3 oS HS c2 LCl
       go_wp2
       go_roundg (gk - 1)
       case measure => have := HG.out; omega
       case rel => exact ⟨i + 1, by simp, by have := HG.out; omega, F.out.1, F.out.2.1, F.out.2.2.1, hA, F.out.2.2.2⟩
      ·have e1 : i = N := by have := HG.out; omega
       subst e1
       have hfn60 : 1 ≤ fn ∧ fn ≤ 60 := by have := term_len (walk_parts HA.out).2.1; have := HSEG.out.1.1; omega
       obtain ⟨b, off, y, rfl, -, -, -⟩ := HSEG.out.1.spot (k := 0) (by omega)
       have LCl := hid (cloneInts b off fn fc k.1 wr (HSEG.out.1.next J.b) (by omega))
       have K0 : wr.cell? ⟨w.heap.size + 1, 0, none⟩ = some (.slice (some ⟨b, off, none⟩) fn fc) := J.r1.cell 0
       have HJ := hid (join_yes HA.out HB.out HC.out HLEN.out)
       have OL := hid oL
       have HNN := hid (show (k.2 ++ k'.2).take i = k.2 ++ k'.2 from List.take_of_length_le (by rw [HNL.out]; exact Nat.le_refl _))
       clear oL sf
       go_wp2_with fail
       refine LCl.out.mono ?_
       rintro e w2 ⟨X, xn, xc, rfl, oX, bb⟩
       have zz := bb.size
       have ow : Owned w2 (w.heap.size + 1 + 1 + 1 + 1) w2.heap.size sWalk [.slice X xn xc, .slice A i cc] (k.1, k.2 ++ k'.2) := by
        have o2 := OL.out.next bb
        rw [HNN.out] at o2
        exact owned_walk2 (Ownd.of_own oX) o2 (by omega) (by omega) zz
       have J2 := J.next bb
       have j3 := J2.r3
       have jb := J2.b
       clear J J2 K0 LCl OL
       have y0 : w2.cell? ⟨w.heap.size + 1 + 1 + 1, 0, none⟩ = some (.slice none 0 0) := j3.cell 0
       have y1 : w2.cell? ⟨w.heap.size + 1 + 1 + 1, 1, none⟩ = some (.slice none 0 0) := j3.cell 1
       have g0 := j3.free 0
       have g1 := j3.free 1
       have ra := j3.put 0 (.slice X xn xc)
       have y2 : (w2.setCell ⟨w.heap.size + 1 + 1 + 1, 0, none⟩ (.slice X xn xc)).cell? ⟨w.heap.size + 1 + 1 + 1, 1, none⟩ = some (.slice none 0 0) := ra.cell 1
       have g2 := ra.free 1
       have rb := ra.put 1 (.slice A i cc)
       have u0 : ((w2.setCell ⟨w.heap.size + 1 + 1 + 1, 0, none⟩ (.slice X xn xc)).setCell ⟨w.heap.size + 1 + 1 + 1, 1, none⟩ (.slice A i cc)).cell? ⟨w.heap.size + 1 + 1 + 1, 0, none⟩ = some (.slice X xn xc) := rb.cell 0
       have u1 : ((w2.setCell ⟨w.heap.size + 1 + 1 + 1, 0, none⟩ (.slice X xn xc)).setCell ⟨w.heap.size + 1 + 1 + 1, 1, none⟩ (.slice A i cc)).cell? ⟨w.heap.size + 1 + 1 + 1, 1, none⟩ = some (.slice A i cc) := rb.cell 1
       have FZ : AnsWalk w (joinW d.1 d.2 k k') (joinB d.1 d.2 k k') (.returned (.tuple #[.agg #[.slice X xn xc, .slice A i cc], .bool true])) ((w2.setCell ⟨w.heap.size + 1 + 1 + 1, 0, none⟩ (.slice X xn xc)).setCell ⟨w.heap.size + 1 + 1 + 1, 1, none⟩ (.slice A i cc)) := ⟨_, _, _, _, _, _, by rw [HJ.out.2], by rw [HJ.out.1]; exact ((ow.put (g := w.heap.size + 1 + 1 + 1) (i := 0) (by omega)).put (g := w.heap.size + 1 + 1 + 1) (i := 1) (by omega)).wider (by omega) (by simp), (jb.setCell (show w.heap.size ≤ w.heap.size + 1 + 1 + 1 by omega) _).setCell (show w.heap.size ≤ w.heap.size + 1 + 1 + 1 by omega) _⟩
       have HFZ := hid FZ
       clear FZ ra rb ow jb j3 oX bb
       go_wp2
       exact bodyPost_ret (v := .tuple #[.agg #[.slice X xn xc, .slice A i cc], .bool true]) (by simp [results, Tryz.results10, go_sem, u0, u1]) rfl HFZ.out
    ·have HLEN := hid (show ¬ k.2.length + k'.2.length ≤ 60 by rw [HL1.out, HL2.out]; exact hlen)
     have hgt : (60 : Int) < ((sn + sn' : Nat) : Int) := by omega
     have hgt2 : (60 : Int) < (sn : Int) + (sn' : Int) := by omega
     have J := J5
     clear hlen st J5
     have y0 : q6.cell? ⟨w.heap.size + 1 + 1 + 1, 0, none⟩ = some (.slice none 0 0) := J.r3.cell 0
     have y1 : q6.cell? ⟨w.heap.size + 1 + 1 + 1, 1, none⟩ = some (.slice none 0 0) := J.r3.cell 1
     have g0 := J.r3.free 0
     have g1 := J.r3.free 1
     have ra := J.r3.put 0 (.slice none 0 0)
     have y2 : (q6.setCell ⟨w.heap.size + 1 + 1 + 1, 0, none⟩ (.slice none 0 0)).cell? ⟨w.heap.size + 1 + 1 + 1, 1, none⟩ = some (.slice none 0 0) := ra.cell 1
     have g2 := ra.free 1
     have rb := ra.put 1 (.slice none 0 0)
     have u0 : ((q6.setCell ⟨w.heap.size + 1 + 1 + 1, 0, none⟩ (.slice none 0 0)).setCell ⟨w.heap.size + 1 + 1 + 1, 1, none⟩ (.slice none 0 0)).cell? ⟨w.heap.size + 1 + 1 + 1, 0, none⟩ = some (.slice none 0 0) := rb.cell 0
     have u1 : ((q6.setCell ⟨w.heap.size + 1 + 1 + 1, 0, none⟩ (.slice none 0 0)).setCell ⟨w.heap.size + 1 + 1 + 1, 1, none⟩ (.slice none 0 0)).cell? ⟨w.heap.size + 1 + 1 + 1, 1, none⟩ = some (.slice none 0 0) := rb.cell 1
     have FZ : AnsWalk w (joinW d.1 d.2 k k') (joinB d.1 d.2 k k') (.returned (.tuple #[.agg #[.slice none 0 0, .slice none 0 0], .bool false])) ((q6.setCell ⟨w.heap.size + 1 + 1 + 1, 0, none⟩ (.slice none 0 0)).setCell ⟨w.heap.size + 1 + 1 + 1, 1, none⟩ (.slice none 0 0)) := ansWalk_no (join_no4 HLEN.out) (((J.b).setCell (show w.heap.size ≤ w.heap.size + 1 + 1 + 1 by omega) _).setCell (show w.heap.size ≤ w.heap.size + 1 + 1 + 1 by omega) _)
     have HFZ := hid FZ
     clear FZ ra rb  J
     go_wp2
     exact bodyPost_ret (v := .tuple #[.agg #[.slice none 0 0, .slice none 0 0], .bool false]) (by simp [results, Tryz.results10, go_sem, u0, u1]) rfl HFZ.out
end walkImpl
end
section
namespace walkSpec
open Go.RowKit base ints sig term termOk endAt endOf marks app sym sub segs segsHelp kinds termFacts same shifted shape kindsR kindsW varsOf ruleMath ruleSpec stepMath walkMath stepSpec ownL heldT
set_option maxRecDepth 100000
section
variable {sg : List Int} {rs : List Rl} {k : Wk} {t : List Int} {x : Int}
end
structure Wi (w : World) (a v f s : Value) (B : Nat) (X O : Option Addr) (xn xc on oc : Nat) (fr : List Int) (L : List St) (wr : World) : Prop where
 r0 : Row wr w.heap.size 41 #[a, v]
 r1 : Row wr (w.heap.size + 1) 35 #[f, s]
 r2 : Row wr (w.heap.size + 1 + 1) 35 #[.slice none 0 0, .slice none 0 0]
 r3 : Row wr B 35 #[.slice X xn xc, .slice O on oc]
 x : Ownd wr (w.heap.size + 1 + 1 + 1) B X xn xc fr
 o : OwnL wr (B + 1) wr.heap.size 74 sStep O on oc L
 b : Below w.heap.size w wr
 z : w.heap.size + 1 + 1 + 1 ≤ B
theorem Wi.next {w wr w' : World} {a v f s : Value} {B : Nat} {X O : Option Addr} {xn xc on oc : Nat} {fr : List Int} {L : List St} (h : Wi w a v f s B X O xn xc on oc fr L wr) (hb : Below wr.heap.size wr w') : Wi w a v f s B X O xn xc on oc fr L w' :=
 ⟨h.r0.next hb, h.r1.next hb, h.r2.next hb, h.r3.next hb, h.x.next hb, (h.o.next hb).wider (Nat.le_refl _) hb.size, next_trans h.b hb, h.z⟩
end walkSpec
end
section
namespace walkX
open Go.RowKit base sig term termOk termFacts segs shape kindsR kindsW ruleMath stepMath walkMath walkSpec
theorem steps_sz {L : List St} {C : Nat} (h : ∀ s ∈ L, s.2.2.length ≤ C) : sz sStepS L ≤ L.length * (C + 1) := by
 induction L with
 | nil => exact Nat.zero_le _
 | cons x r ih =>
  have h1 := ih (fun s hs => h s (List.mem_cons_of_mem _ hs))
  have h2 := h x (List.mem_cons_self ..)
  have e : sz sStepS (x :: r) = (r.length + 1) + ((0 + (0 + sz sI x.2.2)) + (r.map (sz sStep)).sum) := rfl
  have e2 : sz sStepS r = r.length + (r.map (sz sStep)).sum := rfl
  rw [e, sz_ints, List.length_cons, Nat.add_mul]
  rw [e2] at h1
  omega
theorem walk_sz {k : Wk} (h1 : k.1.length ≤ 60) (h2 : k.2.length ≤ 60) (h3 : ∀ s ∈ k.2, s.2.2.length ≤ 60) : sz sWalk k ≤ 1048576 := by
 show sz sI k.1 + sz sStepS k.2 ≤ 1048576
 have a := steps_sz h3
 have b : k.2.length * (60 + 1) ≤ 60 * 61 := Nat.mul_le_mul h2 (Nat.le_refl _)
 rw [sz_ints]
 omega
theorem zero_sz : sz sWalk (([], []) : List Int × List St) ≤ 1048576 := walk_sz (k := ([], [])) (by simp) (by simp) (fun s hs => by cases hs)
theorem walkB_sz {sg : List Int} {rs : List Rl} {k : Wk} (h : walkB sg rs k = true) : sz sWalk k ≤ 1048576 := by
 obtain ⟨-, q2, q3, q4⟩ := walk_parts h
 exact walk_sz (term_len q2).2 q3 (fun s hs => (term_len ((go_ok q2 q4).2 s hs)).2)
end walkX
end
section
namespace walkX
open Go.RowKit base sig term termOk termFacts segs shape kindsR kindsW ruleMath stepMath walkMath walkSpec walkImpl
theorem join_sz {sg : List Int} {rs : List Rl} {a b : Wk} : sz sWalk (joinW sg rs a b) ≤ 1048576 := by
 cases h : joinB sg rs a b with
 | false => rw [(join_off h).1]; exact zero_sz
 | true =>
  have h0 := h
  unfold joinB at h
  simp only [Bool.and_eq_true, decide_eq_true_eq] at h
  obtain ⟨⟨h1, h2⟩, h3, h4⟩ := h
  unfold joinW
  rw [if_pos h0]
  exact walkB_sz (walk_join h1 h2 h3 h4).1
end walkX
end
end Go.Proofs.YthdmhhmnipoceaaGreat
