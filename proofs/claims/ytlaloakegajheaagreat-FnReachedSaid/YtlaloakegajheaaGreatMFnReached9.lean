/-
  MERGED: my texts ReachAdd, FindAt, PickOwn, ShelfR, RevSteps, ReachWords, ReachSpec, WalkFound, WalkToSpec, one behind the other, as they are. By an AI agent.
-/
import Derived.Test.YtlaloakegajheaaGreatMFnReached8
import Derived.Shelf.SlGeneric
import Derived.Ground.SlgnProg
import Derived.Shelf.SlicesQ.Reverse
import Derived.Test.YtlaloakegajheaaGreatProg
namespace Go.Proofs.YtlaloakegajheaaGreat
section
open Go.Lib (hid)
open List (setIfInBounds_toArray set_cons_zero set_cons_succ getElem_toArray getElem_cons_zero getElem_cons_succ)
namespace reachImpl
open Go.RowKit base ints sig term termOk termFacts marks app sub varsOf appAt sym segs segsHelp kinds shape kindsR kindsW ruleMath ruleSpec stepMath stepSpec ownL drawX walkMath reachMath findW findSpec heldT known
set_option maxRecDepth 100000
abbrev sFind : Sh := .cat sStep (.cat .num .num)
def fdat (f : Fi) : Dat sFind := (f.1, ((f.2.1 : Int), (f.2.2 : Int)))
theorem info_find : (Tryz.prog.info? 153).map (fun i => (i.zero, i.size, i.bytes)) = some (some (.agg #[.int .i64 0, .int .i64 0, .slice none 0 0, .int .i64 0, .int .i64 0]), nc sFind, 56) := by kernel_rfl
structure Rf (lo mid rb mb cnt : Nat) (S : Fs) (O : Option Addr) (on oc : Nat) (W : World) : Prop where
 row : Row W rb 150 #[.slice O on oc, .map (some mb), .bool S.2]
 ow : OwnL W lo mid 153 sFind O on oc (S.1.map fdat)
 kn : Kn W mb cnt (termsF S.1)
structure Tcr (rb mb : Nat) (O : Option Addr) (X Y : World) : Prop where
 os : Y.os = X.os
 tape : Y.tape = X.tape
 output : Y.output = X.output
 size : X.heap.size ≤ Y.heap.size
 block : ∀ k, k < X.heap.size → k ≠ rb → k ≠ mb → some k ≠ blk O → Y.heap[k]? = X.heap[k]?
section
variable {rb mb : Nat} {O : Option Addr} {X Y Z : World}
theorem Tcr.trans (h : Tcr rb mb O X Y) (k : Tcr rb mb O Y Z) : Tcr rb mb O X Z := ⟨k.os.trans h.os, k.tape.trans h.tape, k.output.trans h.output, Nat.le_trans h.size k.size, fun i h1 h2 h3 h4 => (k.block i (Nat.lt_of_lt_of_le h1 h.size) h2 h3 h4).trans (h.block i h1 h2 h3 h4)⟩
theorem Tcr.of_below (h : Below X.heap.size X Y) : Tcr rb mb O X Y := ⟨h.os, h.tape, h.output, h.size, fun k hk _ _ _ => h.block k hk⟩
theorem Tcr.of_grown {r : Option Nat} (h : X.grownBy Y r) (hr : ∀ k, r = some k → k = rb ∨ k = mb ∨ some k = blk O) : Tcr rb mb O X Y := ⟨h.os, h.tape, h.output, h.size, fun k hk h1 h2 h3 => h.block k hk (fun e => by rcases hr k e.symm with q | q | q; exact h1 q; exact h2 q; exact h3 q)⟩
theorem Tcr.row {g : Nat} {t : TypeId} {cs : Array Value} (h : Tcr rb mb O X Y) (r : Row X g t cs) (h1 : g ≠ rb) (h2 : g ≠ mb) (h3 : some g ≠ blk O) : Row Y g t cs := (h.block g r.lt h1 h2 h3).trans r
end
def AnsAdd (lo rb mb cnt ln : Nat) (S : Fs) (O : Option Addr) (X : World) (e : Ending) (Y : World) : Prop := (∃ v, e = .returned v) ∧ ∃ (O' : Option Addr) (on' oc' cnt' : Nat), Rf lo Y.heap.size rb mb cnt' S O' on' oc' Y ∧ (cnt' ≤ cnt + 1 ∧ (S.2 = true → cnt' + ln ≤ cnt + S.1.length)) ∧ Tcr rb mb O X Y ∧ ∀ k, blk O' = some k → blk O = some k ∨ X.heap.size ≤ k
theorem owned_find {w : World} {lo hi : Nat} {U : Option Addr} {un uc : Nat} {x : St} {p dd : Nat} (h : Owned w lo hi sI [.slice U un uc] x.2.2) : Owned w lo hi sFind [.int .i64 x.1, .int .i64 x.2.1, .slice U un uc, .int .i64 (p : Int), .int .i64 (dd : Int)] (fdat (x, p, dd)) := by
 obtain ⟨F, h1, h2, h3⟩ := h
 refine ⟨F, ⟨[.int .i64 x.1, .int .i64 x.2.1, .slice U un uc], [.int .i64 (p : Int), .int .i64 (dd : Int)], F, [], rfl, by simp, ⟨[.int .i64 x.1], [.int .i64 x.2.1, .slice U un uc], [], F, rfl, rfl, ⟨rfl, rfl⟩, ⟨[.int .i64 x.2.1], [.slice U un uc], [], F, rfl, rfl, ⟨rfl, rfl⟩, h1⟩⟩, ⟨[.int .i64 (p : Int)], [.int .i64 (dd : Int)], [], [], rfl, rfl, ⟨rfl, rfl⟩, ⟨rfl, rfl⟩⟩⟩, h2, h3⟩
set_option maxHeartbeats 4000000 in
theorem implAdd (lo mid rb mb cnt : Nat) (S : Fs) (O : Option Addr) (on oc : Nat) (x : St) (U : Option Addr) (un uc p dd : Nat) (X : World) (h : Rf lo mid rb mb cnt S O on oc X) (hU : Owned X mid X.heap.size sI [.slice U un uc] x.2.2) (hx : Small x.2.2) (hall : S.2 = true) (h60 : S.1.length ≤ 60) (hcnt : cnt ≤ 1000) (hlo : rb < lo) (hmb : mb < lo) (hne : rb ≠ mb) (hmid : lo ≤ mid) (hmx : mid ≤ X.heap.size) :
  Calls Tryz.prog 157 #[.pointer (some ⟨rb, 0, none⟩), .agg #[.int .i64 x.1, .int .i64 x.2.1, .slice U un uc, .int .i64 (p : Int), .int .i64 (dd : Int)]] X (AnsAdd lo rb mb cnt S.1.length (addF p dd S x) O X) := by
 obtain ⟨W, hW, rB, bW⟩ := box1 X 153 #[.int .i64 x.1, .int .i64 x.2.1, .slice U un uc, .int .i64 (p : Int), .int .i64 (dd : Int)]
 have HW := hid hW
 obtain ⟨B, hB⟩ : ∃ B, X.heap.size = B := ⟨_, rfl⟩
 have hLon : S.1.length = on := by have := h.ow.1; simpa using this
 have hon : on ≤ 60 := by omega
 have zrX : rb < X.heap.size := h.row.lt
 have sU : Seg W.drew W.drew.heap.size U un x.2.2 := ((hU.rd.seg).next bW).drew
 have k0 : W.cell? ⟨rb, 0, none⟩ = some (.slice O on oc) := (h.row.next bW).cell 0
 have k1 : W.cell? ⟨rb, 1, none⟩ = some (.map (some mb)) := (h.row.next bW).cell 1
 have k2 : W.cell? ⟨B, 2, none⟩ = some (.slice U un uc) := by rw [← hB]; exact rB.cell 2
 have zr : rb < W.drew.heap.size := (h.row.next bW).lt
 have zB : B < W.drew.heap.size := by rw [← hB]; exact rB.lt
 have nO : blk O ≠ some rb := fun e => by have := (h.ow.ge rb e).1; omega
 have HX := hid (show Rf lo mid rb mb cnt S O on oc W.drew ∧ Owned W.drew mid X.heap.size sI [.slice U un uc] x.2.2 ∧ Row W.drew B 153 #[.int .i64 x.1, .int .i64 x.2.1, .slice U un uc, .int .i64 (p : Int), .int .i64 (dd : Int)] ∧ Below X.heap.size X W.drew ∧ X.heap.size = B ∧ X.heap.size ≤ W.drew.heap.size from ⟨⟨(h.row.next bW).drew, (h.ow.next bW).next (drew_below W), (h.kn.below bW).drew⟩, (hU.next bW).drew, by rw [← hB]; exact rB.drew, next_trans bW (drew_below W), hB, bW.size⟩)
 by_cases hin : x.2.2 ∈ termsF S.1
 ·have LA := hid (addOld U un uc mb cnt x.2.2 (on : Int) (termsF S.1) W.drew HX.out.1.kn sU hx hin)
  have HI := hid hin
  clear hin hW rB bW h hU sU
  go_enter Tryz.func157, Tryz.ntmps157
  go_upto_region 1 with fail
  rw [← HW.out]
  try rw [hB]
  refine AnyT.start (S := (fun w' => w'.cell? ⟨rb, 0, none⟩ = some (.slice O on oc) ∧ w'.cell? ⟨rb, 1, none⟩ = some (.map (some mb)) ∧ w'.cell? ⟨B, 2, none⟩ = some (.slice U un uc))) (fun _ => false) (by kernel_rfl) ⟨k0, k1, k2⟩ (fun hHeld => ?_)
  refine AnyT.takeA (i := 0) (v := ?_) rfl (by kernel_rfl) (by kernel_rfl) (by kernel_rfl) (fun _ _ _ h => h) (Or.inl ⟨by rfl, ?_⟩) ?_
  rotate_left 1
  ·(intro w0 _; go_simp; try with_reducible rfl)
  try simp only [Act.put, setIfInBounds_toArray, set_cons_zero, set_cons_succ, getElem_toArray, getElem_cons_zero, getElem_cons_succ]
  refine AnyT.takeA (i := 1) (v := ?_) rfl (by kernel_rfl) (by kernel_rfl) (by kernel_rfl) (fun _ _ _ h => h) (Or.inl ⟨by rfl, ?_⟩) ?_
  rotate_left 1
  ·(intro w0 _; go_simp; try with_reducible rfl)
  try simp only [Act.put, setIfInBounds_toArray, set_cons_zero, set_cons_succ, getElem_toArray, getElem_cons_zero, getElem_cons_succ]
  refine AnyT.takeA (i := 2) (v := ?_) rfl (by kernel_rfl) (by kernel_rfl) (by kernel_rfl) (fun _ _ _ h => h) (Or.inl ⟨by rfl, ?_⟩) ?_
  rotate_left 1
  ·(intro w0 _; go_simp; try with_reducible rfl)
  try simp only [Act.put, setIfInBounds_toArray, set_cons_zero, set_cons_succ, getElem_toArray, getElem_cons_zero, getElem_cons_succ]
  refine AnyT.takeU (i := 3) (v := ?_) rfl (by kernel_rfl) (by kernel_rfl) (by kernel_rfl) (by kernel_rfl) (by kernel_rfl) (fun _ _ _ h => h) (Or.inl ⟨by rfl, ?_⟩) (by assumption) ?_
  rotate_left 1
  ·(intro w0 hSw; (try dsimp only at hSw); go_simp; try with_reducible rfl)
  try simp only [Act.put, setIfInBounds_toArray, set_cons_zero, set_cons_succ, getElem_toArray, getElem_cons_zero, getElem_cons_succ]
  refine AnyT.takeA (i := 4) (v := ?_) rfl (by kernel_rfl) (by kernel_rfl) (by kernel_rfl) (fun _ _ _ h => h) (Or.inl ⟨by rfl, ?_⟩) ?_
  rotate_left 1
  ·(intro w0 _; go_simp; try with_reducible rfl)
  try simp only [Act.put, setIfInBounds_toArray, set_cons_zero, set_cons_succ, getElem_toArray, getElem_cons_zero, getElem_cons_succ]
  refine AnyT.takeA (i := 5) (v := ?_) rfl (by kernel_rfl) (by kernel_rfl) (by kernel_rfl) (fun _ _ _ h => h) (Or.inl ⟨by rfl, ?_⟩) ?_
  rotate_left 1
  ·(intro w0 _; go_simp; try with_reducible rfl)
  try simp only [Act.put, setIfInBounds_toArray, set_cons_zero, set_cons_succ, getElem_toArray, getElem_cons_zero, getElem_cons_succ]
  refine AnyT.takeU (i := 6) (v := ?_) rfl (by kernel_rfl) (by kernel_rfl) (by kernel_rfl) (by kernel_rfl) (by kernel_rfl) (fun _ _ _ h => h) (Or.inl ⟨by rfl, ?_⟩) (by assumption) ?_
  rotate_left 1
  ·(intro w0 hSw; (try dsimp only at hSw); go_simp; try with_reducible rfl)
  try simp only [Act.put, setIfInBounds_toArray, set_cons_zero, set_cons_succ, getElem_toArray, getElem_cons_zero, getElem_cons_succ]
  refine AnyT.takeA (i := 7) (v := ?_) rfl (by kernel_rfl) (by kernel_rfl) (by kernel_rfl) (fun _ _ _ h => h) (Or.inl ⟨by rfl, ?_⟩) ?_
  rotate_left 1
  ·(intro w0 _; go_simp; try with_reducible rfl)
  try simp only [Act.put, setIfInBounds_toArray, set_cons_zero, set_cons_succ, getElem_toArray, getElem_cons_zero, getElem_cons_succ]
  refine AnyT.takeA (i := 8) (v := ?_) rfl (by kernel_rfl) (by kernel_rfl) (by kernel_rfl) (fun _ _ _ h => h) (Or.inl ⟨by rfl, ?_⟩) ?_
  rotate_left 1
  ·(intro w0 _; go_simp; try with_reducible rfl)
  try simp only [Act.put, setIfInBounds_toArray, set_cons_zero, set_cons_succ, getElem_toArray, getElem_cons_zero, getElem_cons_succ]
  refine AnyT.takeA (i := 9) (v := ?_) rfl (by kernel_rfl) (by kernel_rfl) (by kernel_rfl) (fun _ _ _ h => h) (Or.inl ⟨by rfl, ?_⟩) ?_
  rotate_left 1
  ·(intro w0 _; go_simp; try with_reducible rfl)
  try simp only [Act.put, setIfInBounds_toArray, set_cons_zero, set_cons_succ, getElem_toArray, getElem_cons_zero, getElem_cons_succ]
  refine AnyT.takeU (i := 10) (v := ?_) rfl (by kernel_rfl) (by kernel_rfl) (by kernel_rfl) (by kernel_rfl) (by kernel_rfl) (fun _ _ _ h => h) (Or.inl ⟨by rfl, ?_⟩) (by assumption) ?_
  rotate_left 1
  ·(intro w0 hSw; (try dsimp only at hSw); go_simp; try with_reducible rfl)
  try simp only [Act.put, setIfInBounds_toArray, set_cons_zero, set_cons_succ, getElem_toArray, getElem_cons_zero, getElem_cons_succ]
  refine AnyT.takeA (i := 11) (v := ?_) rfl (by kernel_rfl) (by kernel_rfl) (by kernel_rfl) (fun _ _ _ h => h) (Or.inl ⟨by rfl, ?_⟩) ?_
  rotate_left 1
  ·(intro w0 _; go_simp; try with_reducible rfl)
  try simp only [Act.put, setIfInBounds_toArray, set_cons_zero, set_cons_succ, getElem_toArray, getElem_cons_zero, getElem_cons_succ]
  refine AnyT.call (i := 12) (by kernel_rfl) rfl (fun K hK => ?_)
  try simp only [Act.put, setIfInBounds_toArray, set_cons_zero, set_cons_succ, getElem_toArray, getElem_cons_zero, getElem_cons_succ]
  rw [if_pos (by rfl)]
  go_simp
  (go_at_call 198; refine LA.out.mono ?_; rintro e w2 ⟨rfl, bb⟩; have d0 : w2.cell? ⟨rb, 0, none⟩ = some (.slice O on oc) := (bb.cell (p := ⟨rb, 0, none⟩) zr).trans k0; have d1 : w2.cell? ⟨rb, 1, none⟩ = some (.map (some mb)) := (bb.cell (p := ⟨rb, 1, none⟩) zr).trans k1; have d2 : w2.cell? ⟨B, 2, none⟩ = some (.slice U un uc) := (bb.cell (p := ⟨B, 2, none⟩) zB).trans k2; go_wp2_with fail)
  refine hK.out _ _ (fun _ _ => ?_) (fun hKeep => ?_)
  ·exact ⟨d0, d1, d2⟩
  replace hHeld := hKeep (by first | rfl | trivial) hHeld
  clear hK K hKeep
  try simp only [Act.put, setIfInBounds_toArray, set_cons_zero, set_cons_succ, getElem_toArray, getElem_cons_zero, getElem_cons_succ]
  refine AnyT.takeA (i := 13) (v := ?_) rfl (by kernel_rfl) (by kernel_rfl) (by kernel_rfl) (fun _ _ _ h => h) (Or.inl ⟨by rfl, ?_⟩) ?_
  rotate_left 1
  ·(intro w0 _; go_simp; try with_reducible rfl)
  try simp only [Act.put, setIfInBounds_toArray, set_cons_zero, set_cons_succ, getElem_toArray, getElem_cons_zero, getElem_cons_succ]
  refine AnyT.done (by kernel_rfl) ?_ _
  have F := hid (show AnsAdd lo rb mb cnt S.1.length (addF p dd S x) O X (.returned (.tuple #[])) w2 from by
   rw [add_in HI.out]
   have h2 := HX.out.1
   have hs2 := bb.size
   refine ⟨⟨_, rfl⟩, O, on, oc, cnt, ⟨h2.row.next bb, (h2.ow.next bb).wider (Nat.le_refl _) (by have := HX.out.2.2.2.2.2; omega), h2.kn.below bb⟩, ⟨by omega, fun _ => Nat.le_refl _⟩, Tcr.of_below (next_trans HX.out.2.2.2.1 bb), fun k e => .inl e⟩)
  clear bb LA HX d0 d1 d2 k0 k1 k2
  go_wp2
  first | (go_ret; exact F.out) | (go_end0; exact F.out)
 ·have hl : (termsF S.1).length = on := by rw [← hLon]; unfold termsF; simp
  have LA := hid (show Calls Tryz.prog 198 #[.map (some mb), .slice U un uc, .int .i64 (on : Int)] W.drew _ from by have q := addNew U un uc mb cnt x.2.2 (termsF S.1) W.drew HX.out.1.kn sU hx hin (by omega) (by omega); rw [hl] at q; exact q)
  have HI := hid (show x.2.2 ∉ termsF S.1 ∧ S.2 = true ∧ S.1.length = on ∧ (termsF S.1).length = on ∧ Small x.2.2 from ⟨hin, hall, hLon, hl, hx⟩)
  have nrm : (⟨rb, 0, none⟩ : Addr).block ≠ mb := hne
  have nBm : (⟨B, 2, none⟩ : Addr).block ≠ mb := by show B ≠ mb; have := HX.out.1.kn.lt; omega
  clear hin hW rB bW h hU sU hLon hl hx hall
  go_enter Tryz.func157, Tryz.ntmps157
  go_upto_region 1 with fail
  rw [← HW.out]
  try rw [hB]
  refine AnyT.start (S := (fun w' => w'.cell? ⟨rb, 0, none⟩ = some (.slice O on oc) ∧ w'.cell? ⟨rb, 1, none⟩ = some (.map (some mb)) ∧ w'.cell? ⟨B, 2, none⟩ = some (.slice U un uc))) (fun _ => false) (by kernel_rfl) ⟨k0, k1, k2⟩ (fun hHeld => ?_)
  refine AnyT.takeA (i := 0) (v := ?_) rfl (by kernel_rfl) (by kernel_rfl) (by kernel_rfl) (fun _ _ _ h => h) (Or.inl ⟨by rfl, ?_⟩) ?_
  rotate_left 1
  ·(intro w0 _; go_simp; try with_reducible rfl)
  try simp only [Act.put, setIfInBounds_toArray, set_cons_zero, set_cons_succ, getElem_toArray, getElem_cons_zero, getElem_cons_succ]
  refine AnyT.takeA (i := 1) (v := ?_) rfl (by kernel_rfl) (by kernel_rfl) (by kernel_rfl) (fun _ _ _ h => h) (Or.inl ⟨by rfl, ?_⟩) ?_
  rotate_left 1
  ·(intro w0 _; go_simp; try with_reducible rfl)
  try simp only [Act.put, setIfInBounds_toArray, set_cons_zero, set_cons_succ, getElem_toArray, getElem_cons_zero, getElem_cons_succ]
  refine AnyT.takeA (i := 2) (v := ?_) rfl (by kernel_rfl) (by kernel_rfl) (by kernel_rfl) (fun _ _ _ h => h) (Or.inl ⟨by rfl, ?_⟩) ?_
  rotate_left 1
  ·(intro w0 _; go_simp; try with_reducible rfl)
  try simp only [Act.put, setIfInBounds_toArray, set_cons_zero, set_cons_succ, getElem_toArray, getElem_cons_zero, getElem_cons_succ]
  refine AnyT.takeU (i := 3) (v := ?_) rfl (by kernel_rfl) (by kernel_rfl) (by kernel_rfl) (by kernel_rfl) (by kernel_rfl) (fun _ _ _ h => h) (Or.inl ⟨by rfl, ?_⟩) (by assumption) ?_
  rotate_left 1
  ·(intro w0 hSw; (try dsimp only at hSw); go_simp; try with_reducible rfl)
  try simp only [Act.put, setIfInBounds_toArray, set_cons_zero, set_cons_succ, getElem_toArray, getElem_cons_zero, getElem_cons_succ]
  refine AnyT.takeA (i := 4) (v := ?_) rfl (by kernel_rfl) (by kernel_rfl) (by kernel_rfl) (fun _ _ _ h => h) (Or.inl ⟨by rfl, ?_⟩) ?_
  rotate_left 1
  ·(intro w0 _; go_simp; try with_reducible rfl)
  try simp only [Act.put, setIfInBounds_toArray, set_cons_zero, set_cons_succ, getElem_toArray, getElem_cons_zero, getElem_cons_succ]
  refine AnyT.takeA (i := 5) (v := ?_) rfl (by kernel_rfl) (by kernel_rfl) (by kernel_rfl) (fun _ _ _ h => h) (Or.inl ⟨by rfl, ?_⟩) ?_
  rotate_left 1
  ·(intro w0 _; go_simp; try with_reducible rfl)
  try simp only [Act.put, setIfInBounds_toArray, set_cons_zero, set_cons_succ, getElem_toArray, getElem_cons_zero, getElem_cons_succ]
  refine AnyT.takeU (i := 6) (v := ?_) rfl (by kernel_rfl) (by kernel_rfl) (by kernel_rfl) (by kernel_rfl) (by kernel_rfl) (fun _ _ _ h => h) (Or.inl ⟨by rfl, ?_⟩) (by assumption) ?_
  rotate_left 1
  ·(intro w0 hSw; (try dsimp only at hSw); go_simp; try with_reducible rfl)
  try simp only [Act.put, setIfInBounds_toArray, set_cons_zero, set_cons_succ, getElem_toArray, getElem_cons_zero, getElem_cons_succ]
  refine AnyT.takeA (i := 7) (v := ?_) rfl (by kernel_rfl) (by kernel_rfl) (by kernel_rfl) (fun _ _ _ h => h) (Or.inl ⟨by rfl, ?_⟩) ?_
  rotate_left 1
  ·(intro w0 _; go_simp; try with_reducible rfl)
  try simp only [Act.put, setIfInBounds_toArray, set_cons_zero, set_cons_succ, getElem_toArray, getElem_cons_zero, getElem_cons_succ]
  refine AnyT.takeA (i := 8) (v := ?_) rfl (by kernel_rfl) (by kernel_rfl) (by kernel_rfl) (fun _ _ _ h => h) (Or.inl ⟨by rfl, ?_⟩) ?_
  rotate_left 1
  ·(intro w0 _; go_simp; try with_reducible rfl)
  try simp only [Act.put, setIfInBounds_toArray, set_cons_zero, set_cons_succ, getElem_toArray, getElem_cons_zero, getElem_cons_succ]
  refine AnyT.takeA (i := 9) (v := ?_) rfl (by kernel_rfl) (by kernel_rfl) (by kernel_rfl) (fun _ _ _ h => h) (Or.inl ⟨by rfl, ?_⟩) ?_
  rotate_left 1
  ·(intro w0 _; go_simp; try with_reducible rfl)
  try simp only [Act.put, setIfInBounds_toArray, set_cons_zero, set_cons_succ, getElem_toArray, getElem_cons_zero, getElem_cons_succ]
  refine AnyT.takeU (i := 10) (v := ?_) rfl (by kernel_rfl) (by kernel_rfl) (by kernel_rfl) (by kernel_rfl) (by kernel_rfl) (fun _ _ _ h => h) (Or.inl ⟨by rfl, ?_⟩) (by assumption) ?_
  rotate_left 1
  ·(intro w0 hSw; (try dsimp only at hSw); go_simp; try with_reducible rfl)
  try simp only [Act.put, setIfInBounds_toArray, set_cons_zero, set_cons_succ, getElem_toArray, getElem_cons_zero, getElem_cons_succ]
  refine AnyT.takeA (i := 11) (v := ?_) rfl (by kernel_rfl) (by kernel_rfl) (by kernel_rfl) (fun _ _ _ h => h) (Or.inl ⟨by rfl, ?_⟩) ?_
  rotate_left 1
  ·(intro w0 _; go_simp; try with_reducible rfl)
  try simp only [Act.put, setIfInBounds_toArray, set_cons_zero, set_cons_succ, getElem_toArray, getElem_cons_zero, getElem_cons_succ]
  refine AnyT.call (i := 12) (by kernel_rfl) rfl (fun K hK => ?_)
  try simp only [Act.put, setIfInBounds_toArray, set_cons_zero, set_cons_succ, getElem_toArray, getElem_cons_zero, getElem_cons_succ]
  rw [if_pos (by rfl)]
  go_simp
  (go_at_call 198; refine LA.out.mono ?_; rintro e w2 ⟨rfl, kk, gg⟩; have d0 : w2.cell? ⟨rb, 0, none⟩ = some (.slice O on oc) := (cell_far gg (p := ⟨rb, 0, none⟩) zr nrm).trans k0; have d1 : w2.cell? ⟨rb, 1, none⟩ = some (.map (some mb)) := (cell_far gg (p := ⟨rb, 1, none⟩) zr nrm).trans k1; have d2 : w2.cell? ⟨B, 2, none⟩ = some (.slice U un uc) := (cell_far gg (p := ⟨B, 2, none⟩) zB nBm).trans k2; go_wp2_with fail)
  refine hK.out _ _ (fun _ _ => ?_) (fun hKeep => ?_)
  ·exact ⟨d0, d1, d2⟩
  replace hHeld := hKeep (by first | rfl | trivial) hHeld
  clear hK K hKeep
  try simp only [Act.put, setIfInBounds_toArray, set_cons_zero, set_cons_succ, getElem_toArray, getElem_cons_zero, getElem_cons_succ]
  refine AnyT.takeA (i := 13) (v := ?_) rfl (by kernel_rfl) (by kernel_rfl) (by kernel_rfl) (fun _ _ _ h => h) (Or.inl ⟨by rfl, ?_⟩) ?_
  rotate_left 1
  ·(intro w0 _; go_simp; try with_reducible rfl)
  try simp only [Act.put, setIfInBounds_toArray, set_cons_zero, set_cons_succ, getElem_toArray, getElem_cons_zero, getElem_cons_succ]
  refine AnyT.done (by kernel_rfl) ?_ _
  have hs2 := gg.size
  have bt2 : Btw mb (mb + 1) W.drew w2 := Btw.of_grown gg (fun k e => by injection e with e; omega)
  have HX2 := hid (show Row w2 rb 150 #[.slice O on oc, .map (some mb), .bool S.2] ∧ OwnL w2 lo mid 153 sFind O on oc (S.1.map fdat) ∧ Kn w2 mb (cnt + 1) (termsF S.1 ++ [x.2.2]) ∧ Owned w2 mid X.heap.size sI [.slice U un uc] x.2.2 ∧ Row w2 B 153 #[.int .i64 x.1, .int .i64 x.2.1, .slice U un uc, .int .i64 (p : Int), .int .i64 (dd : Int)] ∧ Tcr rb mb O X w2 from
   ⟨Row.btw HX.out.1.row bt2 (by omega), HX.out.1.ow.btw bt2 (.inr (by omega)), kk, HX.out.2.1.btw bt2 (.inr (by omega)), Row.btw HX.out.2.2.1 bt2 (by have := HX.out.2.2.2.2.1; omega), (Tcr.of_below HX.out.2.2.2.1).trans (Tcr.of_grown gg (fun k e => .inr (.inl (by injection e with e; exact e.symm))))⟩)
  have HS := hid (show X.heap.size = B ∧ X.heap.size ≤ w2.heap.size from ⟨HX.out.2.2.2.2.1, by have := HX.out.2.2.2.2.2; omega⟩)
  clear kk gg bt2 LA HX k0 k1 k2 zr zB
  by_cases h6 : on = 60
  ·have zr : rb < w2.drew.heap.size := HX2.out.1.lt
   have zB : B < w2.drew.heap.size := HX2.out.2.2.2.2.1.lt
   have k1 : w2.cell? ⟨rb, 1, none⟩ = some (.map (some mb)) := HX2.out.1.cell 1
   have k2 : w2.cell? ⟨B, 2, none⟩ = some (.slice U un uc) := HX2.out.2.2.2.2.1.cell 2
   have LF := hid (forget U un uc mb (cnt + 1) x.2.2 (termsF S.1) w2.drew HX2.out.2.2.1.drew (((HX2.out.2.2.2.1.rd.seg)).drew) HI.out.1)
   have h6i : (on : Int) = 60 := by omega
   have H6 := hid h6
   clear h6
   go_upto_region 3 with fail
   refine AnyT.start (S := (fun w' => w'.cell? ⟨rb, 1, none⟩ = some (.map (some mb)) ∧ w'.cell? ⟨B, 2, none⟩ = some (.slice U un uc))) (fun _ => false) (by kernel_rfl) ⟨k1, k2⟩ (fun hHeld => ?_)
   refine AnyT.takeA (i := 0) (v := ?_) rfl (by kernel_rfl) (by kernel_rfl) (by kernel_rfl) (fun _ _ _ h => h) (Or.inl ⟨by rfl, ?_⟩) ?_
   rotate_left 1
   ·(intro w0 _; go_simp; try with_reducible rfl)
   try simp only [Act.put, setIfInBounds_toArray, set_cons_zero, set_cons_succ, getElem_toArray, getElem_cons_zero, getElem_cons_succ]
   refine AnyT.takeA (i := 1) (v := ?_) rfl (by kernel_rfl) (by kernel_rfl) (by kernel_rfl) (fun _ _ _ h => h) (Or.inl ⟨by rfl, ?_⟩) ?_
   rotate_left 1
   ·(intro w0 _; go_simp; try with_reducible rfl)
   try simp only [Act.put, setIfInBounds_toArray, set_cons_zero, set_cons_succ, getElem_toArray, getElem_cons_zero, getElem_cons_succ]
   refine AnyT.takeA (i := 2) (v := ?_) rfl (by kernel_rfl) (by kernel_rfl) (by kernel_rfl) (fun _ _ _ h => h) (Or.inl ⟨by rfl, ?_⟩) ?_
   rotate_left 1
   ·(intro w0 _; go_simp; try with_reducible rfl)
   try simp only [Act.put, setIfInBounds_toArray, set_cons_zero, set_cons_succ, getElem_toArray, getElem_cons_zero, getElem_cons_succ]
   refine AnyT.takeU (i := 3) (v := ?_) rfl (by kernel_rfl) (by kernel_rfl) (by kernel_rfl) (by kernel_rfl) (by kernel_rfl) (fun _ _ _ h => h) (Or.inl ⟨by rfl, ?_⟩) (by assumption) ?_
   rotate_left 1
   ·(intro w0 hSw; (try dsimp only at hSw); go_simp; try with_reducible rfl)
   try simp only [Act.put, setIfInBounds_toArray, set_cons_zero, set_cons_succ, getElem_toArray, getElem_cons_zero, getElem_cons_succ]
   refine AnyT.takeA (i := 4) (v := ?_) rfl (by kernel_rfl) (by kernel_rfl) (by kernel_rfl) (fun _ _ _ h => h) (Or.inl ⟨by rfl, ?_⟩) ?_
   rotate_left 1
   ·(intro w0 _; go_simp; try with_reducible rfl)
   try simp only [Act.put, setIfInBounds_toArray, set_cons_zero, set_cons_succ, getElem_toArray, getElem_cons_zero, getElem_cons_succ]
   refine AnyT.takeA (i := 5) (v := ?_) rfl (by kernel_rfl) (by kernel_rfl) (by kernel_rfl) (fun _ _ _ h => h) (Or.inl ⟨by rfl, ?_⟩) ?_
   rotate_left 1
   ·(intro w0 _; go_simp; try with_reducible rfl)
   try simp only [Act.put, setIfInBounds_toArray, set_cons_zero, set_cons_succ, getElem_toArray, getElem_cons_zero, getElem_cons_succ]
   refine AnyT.takeU (i := 6) (v := ?_) rfl (by kernel_rfl) (by kernel_rfl) (by kernel_rfl) (by kernel_rfl) (by kernel_rfl) (fun _ _ _ h => h) (Or.inl ⟨by rfl, ?_⟩) (by assumption) ?_
   rotate_left 1
   ·(intro w0 hSw; (try dsimp only at hSw); go_simp; try with_reducible rfl)
   try simp only [Act.put, setIfInBounds_toArray, set_cons_zero, set_cons_succ, getElem_toArray, getElem_cons_zero, getElem_cons_succ]
   refine AnyT.call (i := 7) (by kernel_rfl) rfl (fun K hK => ?_)
   try simp only [Act.put, setIfInBounds_toArray, set_cons_zero, set_cons_succ, getElem_toArray, getElem_cons_zero, getElem_cons_succ]
   rw [if_pos (by rfl)]
   go_simp
   (go_at_call 199; refine LF.out.mono ?_; rintro e w3 ⟨⟨v9, rfl⟩, k3, g3⟩; have e1 : w3.cell? ⟨rb, 1, none⟩ = some (.map (some mb)) := (cell_far g3 (p := ⟨rb, 1, none⟩) zr nrm).trans k1; have e2 : w3.cell? ⟨B, 2, none⟩ = some (.slice U un uc) := (cell_far g3 (p := ⟨B, 2, none⟩) zB nBm).trans k2; go_wp2_with fail)
   refine hK.out _ _ (fun _ _ => ?_) (fun hKeep => ?_)
   ·exact ⟨e1, e2⟩
   replace hHeld := hKeep (by first | rfl | trivial) hHeld
   clear hK K hKeep
   try simp only [Act.put, setIfInBounds_toArray, set_cons_zero, set_cons_succ, getElem_toArray, getElem_cons_zero, getElem_cons_succ]
   refine AnyT.done (by kernel_rfl) ?_ _
   have hs3 := g3.size
   have bt3 : Btw mb (mb + 1) w2.drew w3 := Btw.of_grown g3 (fun k e => by injection e with e; omega)
   have r3 : Row w3 rb 150 #[.slice O on oc, .map (some mb), .bool S.2] := Row.btw HX2.out.1.drew bt3 (by omega)
   have y3 : w3.cell? ⟨rb, 2, none⟩ = some (.bool S.2) := r3.cell 2
   have f3 := r3.free 2
   have F := hid (show AnsAdd lo rb mb cnt S.1.length (addF p dd S x) O X (.returned (.tuple #[])) (w3.setCell ⟨rb, 2, none⟩ (.bool false)) from by
    rw [add_full HI.out.2.1 HI.out.1 (by rw [HI.out.2.2.1]; exact H6.out)]
    have gS := grown_set w3 rb 2 (.bool false)
    refine ⟨⟨_, rfl⟩, O, on, oc, cnt + 1, ⟨Row.put r3 2 _, ((((HX2.out.2.1.next (drew_below w2)).btw bt3 (.inr (by omega))).btw (Btw.of_grown gS (lo := rb) (hi := rb + 1) (fun k e => by injection e with e; omega)) (.inr (by omega)))).wider (Nat.le_refl _) ?_, k3.kept gS (fun e => hne (by injection e with e; exact e.symm))⟩, ⟨Nat.le_refl _, fun h => by cases h⟩, ((HX2.out.2.2.2.2.2.trans (Tcr.of_below (drew_below w2))).trans (Tcr.of_grown g3 (fun k e => .inr (.inl (by injection e with e; exact e.symm))))).trans (Tcr.of_grown gS (fun k e => .inl (by injection e with e; exact e.symm))), fun k e => .inl e⟩
    have h1 := HS.out.2
    have h2 : w2.heap.size ≤ w3.heap.size := hs3
    show mid ≤ (w3.setCell ⟨rb, 2, none⟩ (.bool false)).heap.size
    simp
    omega)
   clear g3 bt3 r3 k3 LF HX2 e1 e2 k1 k2
   go_wp2
   first | (go_ret; exact F.out) | (go_end0; exact F.out)
  ·have h6i : ¬ (on : Int) = 60 := by omega
   have hk0 : w2.cell? ⟨rb, 0, none⟩ = some (.slice O on oc) := HX2.out.1.cell 0
   have SV := hid (show w2.drew.cell? ⟨rb, 0, none⟩ = some (.slice O on oc) ∧ w2.drew.cell? ⟨B, 0, none⟩ = some (.int .i64 x.1) ∧ w2.drew.cell? ⟨B, 1, none⟩ = some (.int .i64 x.2.1) ∧ w2.drew.cell? ⟨B, 2, none⟩ = some (.slice U un uc) ∧ w2.drew.cell? ⟨B, 3, none⟩ = some (.int .i64 (p : Int)) ∧ w2.drew.cell? ⟨B, 4, none⟩ = some (.int .i64 (dd : Int)) from ⟨HX2.out.1.cell 0, HX2.out.2.2.2.2.1.cell 0, HX2.out.2.2.2.2.1.cell 1, HX2.out.2.2.2.2.1.cell 2, HX2.out.2.2.2.2.1.cell 3, HX2.out.2.2.2.2.1.cell 4⟩)
   have HV := hid (show OwnL w2.drew lo mid 153 sFind O on oc (S.1.map fdat) ∧ Owned w2.drew mid X.heap.size sI [.slice U un uc] x.2.2 ∧ Row w2.drew rb 150 #[.slice O on oc, .map (some mb), .bool S.2] ∧ (Kn w2.drew mb (cnt + 1) (termsF S.1 ++ [x.2.2]) ∧ Tcr rb mb O X w2.drew) ∧ X.heap.size ≤ w2.drew.heap.size from ⟨HX2.out.2.1.next (drew_below w2), HX2.out.2.2.2.1.drew, HX2.out.1.drew, ⟨HX2.out.2.2.1.drew, HX2.out.2.2.2.2.2.trans (Tcr.of_below (drew_below w2))⟩, HS.out.2⟩)
   have H6 := hid h6
   clear HX2 d0 d1 d2 h6
   go_upto_region 5 with fail
   clear hk0
   refine AnyT.start (S := (fun w' => w'.cell? ⟨rb, 0, none⟩ = some (.slice O on oc) ∧ w'.cell? ⟨B, 0, none⟩ = some (.int .i64 x.1) ∧ w'.cell? ⟨B, 1, none⟩ = some (.int .i64 x.2.1) ∧ w'.cell? ⟨B, 2, none⟩ = some (.slice U un uc) ∧ w'.cell? ⟨B, 3, none⟩ = some (.int .i64 (p : Int)) ∧ w'.cell? ⟨B, 4, none⟩ = some (.int .i64 (dd : Int)))) (fun j => j == 7 || j == 10) (by kernel_rfl) ⟨SV.out.1, SV.out.2⟩ (fun hHeld => ?_)
   generalize w2.drew = V at SV HV hHeld ⊢
   have bA : Below V.heap.size V (V.alloc (.cells #[.int .i64 x.1, .int .i64 x.2.1, .slice U un uc, .int .i64 (p : Int), .int .i64 (dd : Int)] 153)) := (Below.refl _ _).alloc (Nat.le_refl _) _
   have hVs := HV.out.2.2.2.2
   have HAPP := hid (show OwnL (V.alloc (.cells #[.int .i64 x.1, .int .i64 x.2.1, .slice U un uc, .int .i64 (p : Int), .int .i64 (dd : Int)] 153)) lo mid 153 sFind O on oc (S.1.map fdat) ∧ OwnL (V.alloc (.cells #[.int .i64 x.1, .int .i64 x.2.1, .slice U un uc, .int .i64 (p : Int), .int .i64 (dd : Int)] 153)) mid (V.heap.size + 1) 153 sFind (some ⟨V.heap.size, 0, none⟩) 1 1 [fdat (x, p, dd)] ∧ Row (V.alloc (.cells #[.int .i64 x.1, .int .i64 x.2.1, .slice U un uc, .int .i64 (p : Int), .int .i64 (dd : Int)] 153)) rb 150 #[.slice O on oc, .map (some mb), .bool S.2] from
    ⟨HV.out.1.next bA, OwnL.single (e := 153) (s := sFind) (Row.new V 153 #[.int .i64 x.1, .int .i64 x.2.1, .slice U un uc, .int .i64 (p : Int), .int .i64 (dd : Int)]) (owned_find (HV.out.2.1.next bA)) hVs (by omega), HV.out.2.2.1.next bA⟩)
   refine AnyT.takeA (i := 0) (v := ?_) rfl (by kernel_rfl) (by kernel_rfl) (by kernel_rfl) (fun _ _ _ h => h) (Or.inl ⟨by rfl, ?_⟩) ?_
   rotate_left 1
   ·(intro w0 _; go_simp; try with_reducible rfl)
   try simp only [Act.put, setIfInBounds_toArray, set_cons_zero, set_cons_succ, getElem_toArray, getElem_cons_zero, getElem_cons_succ]
   refine AnyT.takeA (i := 1) (v := ?_) rfl (by kernel_rfl) (by kernel_rfl) (by kernel_rfl) (fun _ _ _ h => h) (Or.inl ⟨by rfl, ?_⟩) ?_
   rotate_left 1
   ·(intro w0 _; go_simp; try with_reducible rfl)
   try simp only [Act.put, setIfInBounds_toArray, set_cons_zero, set_cons_succ, getElem_toArray, getElem_cons_zero, getElem_cons_succ]
   refine AnyT.takeA (i := 2) (v := ?_) rfl (by kernel_rfl) (by kernel_rfl) (by kernel_rfl) (fun _ _ _ h => h) (Or.inl ⟨by rfl, ?_⟩) ?_
   rotate_left 1
   ·(intro w0 _; go_simp; try with_reducible rfl)
   try simp only [Act.put, setIfInBounds_toArray, set_cons_zero, set_cons_succ, getElem_toArray, getElem_cons_zero, getElem_cons_succ]
   refine AnyT.takeA (i := 3) (v := ?_) rfl (by kernel_rfl) (by kernel_rfl) (by kernel_rfl) (fun _ _ _ h => h) (Or.inl ⟨by rfl, ?_⟩) ?_
   rotate_left 1
   ·(intro w0 _; go_simp; try with_reducible rfl)
   try simp only [Act.put, setIfInBounds_toArray, set_cons_zero, set_cons_succ, getElem_toArray, getElem_cons_zero, getElem_cons_succ]
   refine AnyT.takeU (i := 4) (v := ?_) rfl (by kernel_rfl) (by kernel_rfl) (by kernel_rfl) (by kernel_rfl) (by kernel_rfl) (fun _ _ _ h => h) (Or.inl ⟨by rfl, ?_⟩) (by assumption) ?_
   rotate_left 1
   ·(intro w0 hSw; (try dsimp only at hSw); go_simp; try with_reducible rfl)
   try simp only [Act.put, setIfInBounds_toArray, set_cons_zero, set_cons_succ, getElem_toArray, getElem_cons_zero, getElem_cons_succ]
   refine AnyT.takeU (i := 5) (v := ?_) rfl (by kernel_rfl) (by kernel_rfl) (by kernel_rfl) (by kernel_rfl) (by kernel_rfl) (fun _ _ _ h => h) (Or.inl ⟨by rfl, ?_⟩) (by assumption) ?_
   rotate_left 1
   ·(intro w0 hSw; (try dsimp only at hSw); go_simp; try with_reducible rfl)
   try simp only [Act.put, setIfInBounds_toArray, set_cons_zero, set_cons_succ, getElem_toArray, getElem_cons_zero, getElem_cons_succ]
   refine AnyT.call (i := 6) (by kernel_rfl) rfl (fun K hK => ?_)
   try simp only [Act.put, setIfInBounds_toArray, set_cons_zero, set_cons_succ, getElem_toArray, getElem_cons_zero, getElem_cons_succ]
   rw [if_pos (by rfl)]
   go_simp
   refine hK.out _ _ (fun _ _ => ?_) (fun hKeep => ?_)
   ·exact ⟨keep_alloc hHeld.1, keep_alloc hHeld.2.1, keep_alloc hHeld.2.2.1, keep_alloc hHeld.2.2.2.1, keep_alloc hHeld.2.2.2.2.1, keep_alloc hHeld.2.2.2.2.2⟩
   replace hHeld := hKeep (by first | rfl | trivial) hHeld
   clear hK K hKeep
   try simp only [Act.put, setIfInBounds_toArray, set_cons_zero, set_cons_succ, getElem_toArray, getElem_cons_zero, getElem_cons_succ]
   refine AnyT.call (i := 7) (by kernel_rfl) rfl (fun K hK => ?_)
   try simp only [Act.put, setIfInBounds_toArray, set_cons_zero, set_cons_succ, getElem_toArray, getElem_cons_zero, getElem_cons_succ]
   rw [if_pos (by rfl)]
   refine wp_appL _ _ 146 153 sFind _ _ Tryz.underlying146 info_find rfl (by decide) rfl lo mid mid (V.heap.size + 1) O on oc V.heap.size 1 1 _ _ rfl HAPP.out.1 rfl HAPP.out.2.1 (Nat.le_refl _) (by omega) (by omega) (by omega) (by simp; omega) ?_
   intro A4 oc' w4 oL4 hg4 hat4 b4 hf4
   obtain ⟨O', rfl⟩ := hf4 (.inr (by omega))
   have r4 := Row.away HAPP.out.2.2 hg4 nO
   have y4 : w4.cell? ⟨rb, 0, none⟩ = some (.slice O on oc) := r4.cell 0
   have f4 := r4.free 0
   refine hK.out _ _ (fun h => by cases h) (fun _ => ?_)
   clear hK K
   try simp only [Act.put, setIfInBounds_toArray, set_cons_zero, set_cons_succ, getElem_toArray, getElem_cons_zero, getElem_cons_succ]
   refine AnyT.takeA (i := 8) (v := ?_) rfl (by kernel_rfl) (by kernel_rfl) (by kernel_rfl) (fun _ _ _ h => h) (Or.inl ⟨by rfl, ?_⟩) ?_
   rotate_left 1
   ·(intro w0 _; go_simp; try with_reducible rfl)
   try simp only [Act.put, setIfInBounds_toArray, set_cons_zero, set_cons_succ, getElem_toArray, getElem_cons_zero, getElem_cons_succ]
   refine AnyT.takeA (i := 9) (v := ?_) rfl (by kernel_rfl) (by kernel_rfl) (by kernel_rfl) (fun _ _ _ h => h) (Or.inl ⟨by rfl, ?_⟩) ?_
   rotate_left 1
   ·(intro w0 _; go_simp; try with_reducible rfl)
   try simp only [Act.put, setIfInBounds_toArray, set_cons_zero, set_cons_succ, getElem_toArray, getElem_cons_zero, getElem_cons_succ]
   refine AnyT.call (i := 10) (by kernel_rfl) rfl (fun K hK => ?_)
   try simp only [Act.put, setIfInBounds_toArray, set_cons_zero, set_cons_succ, getElem_toArray, getElem_cons_zero, getElem_cons_succ]
   rw [if_pos (by rfl)]
   go_simp
   refine hK.out _ _ (fun h => by cases h) (fun _ => ?_)
   clear hK K
   try simp only [Act.put, setIfInBounds_toArray, set_cons_zero, set_cons_succ, getElem_toArray, getElem_cons_zero, getElem_cons_succ]
   refine AnyT.done (by kernel_rfl) ?_ _
   have F := hid (show AnsAdd lo rb mb cnt S.1.length (addF p dd S x) O X (.returned (.tuple #[])) (w4.setCell ⟨rb, 0, none⟩ (.slice (some ⟨O', 0, none⟩) (on + 1) oc')) from by
    rw [add_new HI.out.2.1 HI.out.1 (by rw [HI.out.2.2.1]; exact H6.out)]
    have gS := grown_set w4 rb 0 (.slice (some ⟨O', 0, none⟩) (on + 1) oc')
    have r5 := Row.put r4 0 (.slice (some ⟨O', 0, none⟩) (on + 1) oc')
    rw [HI.out.2.1] at r5
    have hbs := b4.size
    have hA1 : V.heap.size + 1 ≤ (V.alloc (.cells #[.int .i64 x.1, .int .i64 x.2.1, .slice U un uc, .int .i64 (p : Int), .int .i64 (dd : Int)] 153)).heap.size := by simp
    refine ⟨⟨_, rfl⟩, some ⟨O', 0, none⟩, on + 1, oc', cnt + 1, ⟨r5, ?_, ?_⟩, ⟨Nat.le_refl _, fun _ => by show cnt + 1 + S.1.length ≤ cnt + (S.1 ++ [(x, p, dd)]).length; rw [List.length_append, List.length_singleton]; omega⟩, ((HV.out.2.2.2.1.2.trans (Tcr.of_below bA)).trans (Tcr.of_grown hg4 (fun k e => .inr (.inr e.symm)))).trans (Tcr.of_grown gS (fun k e => .inl (by injection e with e; exact e.symm))), fun k e => ?_⟩
    ·have e1 : (S.1 ++ [(x, p, dd)]).map fdat = S.1.map fdat ++ [fdat (x, p, dd)] := by rw [List.map_append]; rfl
     show OwnL _ lo _ _ _ _ _ _ ((S.1 ++ [(x, p, dd)]).map fdat)
     rw [e1]
     exact (oL4.btw (Btw.of_grown gS (lo := rb) (hi := rb + 1) (fun k e => by injection e with e; omega)) (.inr (by omega))).wider (Nat.le_refl _) (by simp)
    ·show Kn _ mb (cnt + 1) (termsF (S.1 ++ [(x, p, dd)]))
     rw [termsF_app]
     exact ((HV.out.2.2.2.1.1.below bA).kept hg4 (fun e => by have := (HV.out.1.ge mb e.symm).1; omega)).kept gS (fun e => hne (by injection e with e; exact e.symm))
    ·rcases hat4 with q | q
     ·exact .inl (by rw [← q]; exact e)
     ·right
      have e2 : some k = some (V.alloc (.cells #[.int .i64 x.1, .int .i64 x.2.1, .slice U un uc, .int .i64 (p : Int), .int .i64 (dd : Int)] 153)).heap.size := by rw [← q]; exact e.symm
      injection e2 with e2
      omega)
   clear oL4 hg4 hat4 b4 hf4 r4 HAPP HV SV y4 f4 bA
   go_wp2
   first | (go_ret; exact F.out) | (go_end0; exact F.out)
end reachImpl
end
section
namespace reachImpl
open Go.RowKit base ints sig term marks app segs shape kindsR kindsW ownL drawX walkMath reachMath
set_option maxRecDepth 100000
variable {w : World}
theorem ow_rdq : ∀ {s : Sh} {cs : List Value} {d : Dat s} {F : List Nat}, Ow w s cs d F → RdQ w (fun b => b ∈ F) s cs d
 | .num, _, _, _, h => h.1
 | .bit, _, _, _, h => h.1
 | .row e s, _, _, F, h => by
  obtain ⟨A, n, c, e1, hl, h1⟩ := h
  rcases h1 with ⟨rfl, rfl, rfl, _⟩ | ⟨g, cur, E, G, e2, hr, h2, h3, h4, h5, h6⟩
  ·exact ⟨none, 0, 0, e1, ⟨by omega, by omega, fun _ => rfl⟩, hl, fun h => absurd h (by omega)⟩
  ·refine ⟨A, n, c, e1, ⟨h2, h3, fun e => by rw [e] at e2; cases e2⟩, hl, fun hn => ⟨g, 0, e2, by rw [h5]; exact List.mem_cons_self .., fun j hj => ?_⟩⟩
   obtain ⟨q1, q2, q3⟩ := h6 j hj
   refine ⟨E j, q1, fun i hi => ?_, (ow_rdq q3).mono fun b hb => ?_⟩
   ·rw [Nat.zero_add, hr.cell, q2 i (by omega)]
   ·rw [h5]
    exact List.mem_cons_of_mem _ (List.mem_flatMap.2 ⟨j, List.mem_range.2 hj, hb⟩)
 | .cat a b, _, _, F, h => by
  obtain ⟨ca, cb, Fa, Fb, e, e2, h1, h2⟩ := h
  exact ⟨ca, cb, e, (ow_rdq h1).mono fun b hb => by rw [e2]; exact List.mem_append_left _ hb, (ow_rdq h2).mono fun b hb => by rw [e2]; exact List.mem_append_right _ hb⟩
theorem step_parts {Q : Nat → Prop} {es : List Value} {d : Dat sStep} (h : RdQ w Q sStep es d) : ∃ V vn vc, es = [.int .i64 d.1, .int .i64 d.2.1, .slice V vn vc] ∧ RdQ w Q sI [.slice V vn vc] d.2.2 := by
 obtain ⟨ca0, cb0, e0, p0, ca1, cb1, e1, p1, q⟩ := h
 have p0 : ca0 = [.int .i64 d.1] := p0
 have p1 : ca1 = [.int .i64 d.2.1] := p1
 have hq := q
 obtain ⟨V, vn, vc, e2, -⟩ := hq
 subst p0 p1 e2
 exact ⟨V, vn, vc, by rw [e0, e1]; rfl, q⟩
theorem find_parts {Q : Nat → Prop} {es : List Value} {f : Fi} (h : RdQ w Q sFind es (fdat f)) : ∃ T tn tc, es = [.int .i64 f.1.1, .int .i64 f.1.2.1, .slice T tn tc, .int .i64 (f.2.1 : Int), .int .i64 (f.2.2 : Int)] ∧ RdQ w Q sI [.slice T tn tc] (termF f) := by
 obtain ⟨ca, cb, e, hs, hr⟩ := h
 obtain ⟨T, tn, tc, e1, q⟩ := step_parts hs
 obtain ⟨ca2, cb2, e2, p1, p2⟩ := hr
 have p1 : ca2 = [.int .i64 (f.2.1 : Int)] := p1
 have p2 : cb2 = [.int .i64 (f.2.2 : Int)] := p2
 subst e1 p1 p2
 exact ⟨T, tn, tc, by rw [e, e2]; rfl, q⟩
theorem find_at {lo hi : Nat} {O : Option Addr} {on oc i : Nat} {L : List Fi} {f : Fi} (h : OwnL w lo hi 153 sFind O on oc (L.map fdat)) (hf : L[i]? = some f) : ∃ (g : Nat) (T : Option Addr) (tn tc : Nat) (G : List Nat), O = some ⟨g, 0, none⟩ ∧ on = L.length ∧
  (w.cell? ⟨g, i * 5, none⟩ = some (.int .i64 f.1.1) ∧ w.cell? ⟨g, i * 5 + 1, none⟩ = some (.int .i64 f.1.2.1) ∧ w.cell? ⟨g, i * 5 + 2, none⟩ = some (.slice T tn tc) ∧ w.cell? ⟨g, i * 5 + 3, none⟩ = some (.int .i64 (f.2.1 : Int)) ∧ w.cell? ⟨g, i * 5 + 4, none⟩ = some (.int .i64 (f.2.2 : Int))) ∧
  g ∉ G ∧ (∀ k ∈ G, lo ≤ k ∧ k < hi ∧ k < w.heap.size) ∧ RdQ w (fun b => b ∈ G) sI [.slice T tn tc] (termF f) := by
 obtain ⟨F, ho, hn, hl⟩ := h.owned
 have hi' := (List.getElem?_eq_some_iff.1 hf).1
 obtain ⟨g, nn, c, es, G, e1, e2, e3, hp, hg, hoG, hGn, hgG, hGF, -⟩ := ho.elem' hn (j := i) (by simpa using hi')
 injection e1 with e1 e4 e5
 subst e1 e4 e5
 have ef : (L.map fdat).getD i (dft sFind) = fdat f := by rw [List.getD_eq_getElem?_getD, List.getElem?_map, hf]; rfl
 rw [ef] at hoG
 obtain ⟨T, tn, tc, e6, q⟩ := find_parts (ow_rdq hoG)
 subst e6
 have e7 : nc sFind = 5 := rfl
 rw [e7] at hp
 refine ⟨g, T, tn, tc, G, rfl, by rw [← e2, List.length_map], ⟨hp 0 (by simp), hp 1 (by simp), hp 2 (by simp), hp 3 (by simp), hp 4 (by simp)⟩, hgG, fun k hk => ⟨(hl k (hGF k hk)).1, (hl k (hGF k hk)).2, ?_⟩, q⟩
 exact hoG.lt k hk
theorem rd_q {B : Nat} : ∀ {s : Sh} {cs : List Value} {d : Dat s}, Rd w B s cs d → RdQ w (fun b => b < B) s cs d
 | .num, _, _, h => h
 | .bit, _, _, h => h
 | .row e s, _, _, h => by
  obtain ⟨A, n, c, e1, hc, hl, h1⟩ := h
  refine ⟨A, n, c, e1, hc, hl, fun hn => ?_⟩
  obtain ⟨b, off, e2, hb, h2⟩ := h1 hn
  refine ⟨b, off, e2, hb, fun j hj => ?_⟩
  obtain ⟨es, q1, q2, q3⟩ := h2 j hj
  exact ⟨es, q1, q2, rd_q q3⟩
 | .cat a b, _, _, h => by
  obtain ⟨ca, cb, e, h1, h2⟩ := h
  exact ⟨ca, cb, e, rd_q h1, rd_q h2⟩
theorem step_owned {lo hi : Nat} {es : List Value} {y : Dat sStep} (h : Owned w lo hi sStep es y) : ∃ (U : Option Addr) (un uc : Nat), es = [.int .i64 y.1, .int .i64 y.2.1, .slice U un uc] ∧ Owned w lo hi sI [.slice U un uc] y.2.2 := by
 obtain ⟨F, ⟨ca, cb, Fa, Fb, e1, e2, h1, h2⟩, hn, hl⟩ := h
 obtain ⟨ca2, cb2, Fa2, Fb2, e3, e4, h3, h4⟩ := h2
 have h1 : ca = [.int .i64 y.1] ∧ Fa = [] := h1
 have h3 : ca2 = [.int .i64 y.2.1] ∧ Fa2 = [] := h3
 have h5 := h4
 obtain ⟨A, n, c, e5, -⟩ := h5
 obtain ⟨rfl, rfl⟩ := h1
 obtain ⟨rfl, rfl⟩ := h3
 subst e5
 refine ⟨A, n, c, by rw [e1, e3]; rfl, Fb2, h4, ?_, fun k hk => hl k ?_⟩
 ·rw [e2, e4] at hn; simpa using hn
 ·rw [e2, e4]; simpa using hk
end reachImpl
end
section
namespace pickOwn
open Go.RowKit base ints sig marks app appAt segs shape kindsR kindsW ownL drawX walkMath reachMath reachImpl findW
set_option maxRecDepth 100000
def OwnG (w : World) (lo hi : Nat) (e : TypeId) (s : Sh) (A : Option Addr) (n c : Nat) (D : List (Dat s)) (vs : List Value) (G : Nat → List Nat) : Prop :=
 D.length = n ∧ (∀ k, blk A = some k → k < hi) ∧ w.ownsRow lo e (nc s) (.slice A n c) n vs ∧ (A = none → c = 0) ∧ ((List.range n).flatMap G).Nodup ∧
  ∀ j, j < n → Ow w s (cellsOf (nc s) vs j) (D.getD j (dft s)) (G j) ∧ ∀ q ∈ G j, lo ≤ q ∧ q < hi ∧ some q ≠ blk A
section
variable {w w' : World} {lo hi mid n c N C : Nat} {e e' : TypeId} {s s' : Sh} {A B : Option Addr} {D : List (Dat s)} {D' : List (Dat s')} {vs us : List Value} {G : Nat → List Nat}
theorem named (h : OwnL w lo hi e s A n c D) : ∃ vs G, OwnG w lo hi e s A n c D vs G := by
 obtain ⟨h1, h2, vs, G, h3⟩ := h
 exact ⟨vs, G, h1, h2, h3⟩
theorem OwnG.own (h : OwnG w lo hi e s A n c D vs G) : OwnL w lo hi e s A n c D := ⟨h.1, h.2.1, vs, G, h.2.2⟩
theorem OwnG.keep (h : OwnG w lo hi e s A n c D vs G) (hk : ∀ k, lo ≤ k → k < hi → k < w.heap.size → w'.heap[k]? = w.heap[k]?) (hs : w.heap.size ≤ w'.heap.size) : OwnG w' lo hi e s A n c D vs G := by
 obtain ⟨h1, h2, h3, h4, h5, h6⟩ := h
 refine ⟨h1, h2, ?_, h4, h5, fun j hj => ⟨(h6 j hj).1.keep fun q hq => ?_, (h6 j hj).2⟩⟩
 ·refine ⟨h3.1, ?_⟩
  rcases h3.2 with q | ⟨g, cap, cur, e1, hg, hr, q⟩
  ·exact .inl q
  ·have hlt := (Array.getElem?_eq_some_iff.1 hr).1
   injection e1 with e2 e3 e4
   exact .inr ⟨g, cap, cur, by rw [e2, e4], hg, (hk g hg (h2 g (by rw [e2]; rfl)) hlt).trans hr, q⟩
 ·have := (h6 j hj).2 q hq
  exact hk q this.1 this.2.1 ((h6 j hj).1.lt q hq)
theorem OwnG.below (h : OwnG w lo hi e s A n c D vs G) (hb : Below hi w w') : OwnG w' lo hi e s A n c D vs G := h.keep (fun k _ h2 _ => hb.block k h2) hb.size
theorem row_lower (h : w.ownsRow mid e n (.slice A N c) N vs) (hl : lo ≤ mid) : w.ownsRow lo e n (.slice A N c) N vs := by
 refine ⟨h.1, ?_⟩
 rcases h.2 with q | ⟨g, cap, cur, e1, hg, q⟩
 ·exact .inl q
 ·exact .inr ⟨g, cap, cur, e1, Nat.le_trans hl hg, q⟩
theorem flat_nd {G : Nat → List Nat} : ∀ {n : Nat}, ((List.range n).flatMap G).Nodup ↔ (∀ j, j < n → (G j).Nodup) ∧ ∀ i j, i < n → j < n → i ≠ j → ∀ x ∈ G i, x ∉ G j
 | 0 => ⟨fun _ => ⟨fun j h => by omega, fun i j h => by omega⟩, fun _ => by simp⟩
 | n + 1 => by
  rw [List.range_succ, List.flatMap_append, List.nodup_append, flat_nd]
  simp only [List.flatMap_cons, List.flatMap_nil, List.append_nil]
  constructor
  ·rintro ⟨⟨h1, h2⟩, h3, h4⟩
   refine ⟨fun j hj => ?_, fun i j hi hj hne x hx hx' => ?_⟩
   ·by_cases e : j = n
    ·rw [e]; exact h3
    ·exact h1 j (by omega)
   ·by_cases e1 : i = n
    ·by_cases e2 : j = n
     ·omega
     ·exact h4 x (List.mem_flatMap.2 ⟨j, List.mem_range.2 (by omega), hx'⟩) x (e1 ▸ hx) rfl
    ·by_cases e2 : j = n
     ·exact h4 x (List.mem_flatMap.2 ⟨i, List.mem_range.2 (by omega), hx⟩) x (e2 ▸ hx') rfl
     ·exact h2 i j (by omega) (by omega) hne x hx hx'
  ·rintro ⟨h1, h2⟩
   refine ⟨⟨fun j hj => h1 j (by omega), fun i j hi hj => h2 i j (by omega) (by omega)⟩, h1 n (by omega), fun x hx y hy e => ?_⟩
   obtain ⟨i, hi, hx⟩ := List.mem_flatMap.1 hx
   have hi := List.mem_range.1 hi
   rw [e] at hx
   exact h2 i n (by omega) (by omega) (by omega) y hx hy
theorem flat_inj {n : Nat} {G : Nat → List Nat} {σ : Nat → Nat} (hn : ((List.range N).flatMap G).Nodup) (hσ : ∀ j, j < n → σ j < N) (hi : ∀ i j, i < n → j < n → σ i = σ j → i = j) : ((List.range n).flatMap fun j => G (σ j)).Nodup := by
 rw [flat_nd] at hn ⊢
 exact ⟨fun j hj => hn.1 _ (hσ j hj), fun i j h1 h2 h3 => hn.2 _ _ (hσ i h1) (hσ j h2) fun e => h3 (hi i j h1 h2 e)⟩
theorem pick (h : OwnG w lo mid e s A N C D vs G) (hr : w.ownsRow mid e' (nc s') (.slice B n c) n us) (hB : B = none → c = 0) (hlo : lo ≤ mid) {σ : Nat → Nat} (hσ : ∀ j, j < n → σ j < N) (hi : ∀ i j, i < n → j < n → σ i = σ j → i = j) (hl : D'.length = n)
  (hj : ∀ j, j < n → Ow w s' (cellsOf (nc s') us j) (D'.getD j (dft s')) (G (σ j))) : OwnL w lo w.heap.size e' s' B n c D' := by
 have hlt := World.ownsRow.lt hr
 refine ⟨hl, fun k hk => (hlt k (by rw [blk_own]; exact hk)).2, us, fun j => G (σ j), row_lower hr hlo, hB, flat_inj h.2.2.2.2.1 hσ hi, fun j hjn => ⟨hj j hjn, fun q hq => ?_⟩⟩
 have h6 := (h.2.2.2.2.2 (σ j) (hσ j hjn)).2 q hq
 refine ⟨h6.1, (hj j hjn).lt q hq, fun e1 => ?_⟩
 have := (hlt q (by rw [blk_own]; exact e1.symm)).1
 omega
end
theorem ow_find {w : World} {cs : List Value} {f : Fi} {F : List Nat} (h : Ow w sFind cs (fdat f) F) : ∃ T tn tc, cs = [.int .i64 f.1.1, .int .i64 f.1.2.1, .slice T tn tc, .int .i64 (f.2.1 : Int), .int .i64 (f.2.2 : Int)] ∧
  Ow w sStep [.int .i64 f.1.1, .int .i64 f.1.2.1, .slice T tn tc] f.1 F ∧ Ow w sI [.slice T tn tc] (termF f) F := by
 obtain ⟨ca, cb, Fa, Fb, rfl, rfl, h1, h2⟩ := h
 obtain ⟨cb1, cb2, Fb1, Fb2, rfl, rfl, h3, h4⟩ := h2
 obtain ⟨rfl, rfl⟩ := h3
 obtain ⟨rfl, rfl⟩ := h4
 have h1' := h1
 obtain ⟨ca1, ca2, Fa1, Fa2, rfl, rfl, h5, h6⟩ := h1'
 obtain ⟨rfl, rfl⟩ := h5
 obtain ⟨cc1, cc2, Fc1, Fc2, rfl, rfl, h7, h8⟩ := h6
 obtain ⟨rfl, rfl⟩ := h7
 have h8' := h8
 obtain ⟨T, tn, tc, rfl, h9⟩ := h8'
 refine ⟨T, tn, tc, rfl, ?_, ?_⟩
 ·simp only [List.nil_append, List.append_nil] at h1 ⊢; exact h1
 ·simp only [List.nil_append, List.append_nil] at h8 ⊢; exact h8
section
variable {w : World} {lo mid on oc : Nat} {O : Option Addr} {L : List Fi} {vs : List Value} {G : Nat → List Nat}
theorem OwnG.find (h : OwnG w lo mid 153 sFind O on oc (L.map fdat) vs G) {i : Nat} {f : Fi} (hf : L[i]? = some f) : ∃ (g : Nat) (T : Option Addr) (tn tc : Nat), O = some ⟨g, 0, none⟩ ∧ on = L.length ∧ lo ≤ g ∧ g < mid ∧ cellsOf 5 vs i = [.int .i64 f.1.1, .int .i64 f.1.2.1, .slice T tn tc, .int .i64 (f.2.1 : Int), .int .i64 (f.2.2 : Int)] ∧
  (w.cell? ⟨g, i * 5, none⟩ = some (.int .i64 f.1.1) ∧ w.cell? ⟨g, i * 5 + 1, none⟩ = some (.int .i64 f.1.2.1) ∧ w.cell? ⟨g, i * 5 + 2, none⟩ = some (.slice T tn tc) ∧ w.cell? ⟨g, i * 5 + 3, none⟩ = some (.int .i64 (f.2.1 : Int)) ∧ w.cell? ⟨g, i * 5 + 4, none⟩ = some (.int .i64 (f.2.2 : Int))) ∧
  Ow w sStep [.int .i64 f.1.1, .int .i64 f.1.2.1, .slice T tn tc] f.1 (G i) ∧ Ow w sI [.slice T tn tc] (termF f) (G i) := by
 obtain ⟨h1, h2, h3, h4, h5, h6⟩ := h
 have hiL : i < L.length := (List.getElem?_eq_some_iff.1 hf).1
 have hon : L.length = on := by simpa using h1
 have hi : i < on := by omega
 have hd : (L.map fdat).getD i (dft sFind) = fdat f := by simp [List.getD, hf]
 have h7 := (h6 i hi).1
 rw [hd] at h7
 obtain ⟨T, tn, tc, e, o1, o2⟩ := ow_find h7
 rcases h3.2 with ⟨-, q⟩ | ⟨g, cap, cur, e1, hg, hr, hn, hm, hs, ht⟩
 ·omega
 ·injection e1 with e1
  subst e1
  have hcell : ∀ q, q < 5 → w.cell? ⟨g, i * 5 + q, none⟩ = (cellsOf 5 vs i)[q]? := fun q hq => by
   have hb : i * 5 + q < on * 5 := by omega
   rw [Row.cell (t := 153) (cs := cur) hr, ← Array.getElem?_toList]
   unfold cellsOf
   rw [List.getElem?_take, if_pos hq, List.getElem?_drop, ← ht, List.getElem?_take, if_pos (show i * 5 + q < on * nc sFind from hb)]
  have e' : cellsOf 5 vs i = [.int .i64 f.1.1, .int .i64 f.1.2.1, .slice T tn tc, .int .i64 (f.2.1 : Int), .int .i64 (f.2.2 : Int)] := e
  rw [e'] at hcell
  exact ⟨g, T, tn, tc, rfl, hon.symm, hg, h2 g rfl, e', ⟨hcell 0 (by omega), hcell 1 (by omega), hcell 2 (by omega), hcell 3 (by omega), hcell 4 (by omega)⟩, o1, o2⟩
end
theorem wp_appR {w : World} {o : Oper} {a : Act} {K : Act → World → Prop} {Q : Exit → Act → World → Prop} (sx x : Operand) (T e : TypeId) (k : Nat) (z : Value) (bytes : Nat) (hT : Tryz.prog.underlying T = some (.slice e))
  (hI : (Tryz.prog.info? e).map (fun i => (i.zero, i.size, i.bytes)) = some (some z, k, bytes)) (hzc : z.cells.size = k) (hk : 0 < k) (hby : bytes ≤ 4096)
  (ho : o.op = .call { callee := .builtin .append, args := #[sx, x], argTypes := #[T, T] })
  (lo : Nat) (A : Option Addr) (n c : Nat) (vs : List Value) (hs : a.eval sx = .slice A n c) (hown : w.ownsRow lo e k (.slice A n c) n vs)
  (g c2 : Nat) (es : List Value) (hel : es.length = k) (hone : ∀ u ∈ es, u.oneCell' = true) (hx : a.eval x = .slice (some ⟨g, 0, none⟩) 1 c2) (hy : ∀ i, i < es.length → w.cell? ⟨g, i, none⟩ = es[i]?) (hn : n ≤ 1048576) (hlo : lo ≤ w.heap.size)
  (h : ∀ g' c' w', w'.ownsRow lo e k (.slice (some ⟨g', 0, none⟩) (n + 1) c') (n + 1) (vs ++ es) → w.grownBy w' (blk A) → (blk A = some g' ∨ g' = w.heap.size) → Below lo w w' → K (a.put o.dst (.slice (some ⟨g', 0, none⟩) (n + 1) c')) w') : o.wp Tryz.prog a w K Q := by
 obtain ⟨i0, hi, hz0, hz1, hz2⟩ := info_parts hI
 have hcells : ∀ j u, es[j]? = some u → w.cell? ((⟨g, 0, none⟩ : Addr).add j) = some u := fun j u hj => by
  have e2 : (⟨g, 0, none⟩ : Addr).add j = ⟨g, j, none⟩ := by unfold Addr.add; split <;> simp_all
  rw [e2, hy j (List.getElem?_eq_some_iff.1 hj).1, hj]
 obtain ⟨v', w', hrun, hown', hg, _, hat⟩ := run_append_own_at (P := Tryz.prog) w lo T o.type e i0 z k bytes hT hi hz0 hz1 hz2 hzc hk (.slice A n c) n vs hown ⟨g, 0, none⟩ 1 c2 es (by rw [hel]; simp) hcells hone (by unfold maxLen; omega) (by have h1 : (n + 1) * bytes ≤ 1048577 * 4096 := Nat.mul_le_mul (by omega) hby; omega) hlo
 have hform : ∃ g' c', v' = .slice (some ⟨g', 0, none⟩) (n + 1) c' := by
  rcases hown'.2 with ⟨_, h0⟩ | ⟨g', cap, cur, e, _⟩
  ·omega
  ·exact ⟨_, _, e⟩
 obtain ⟨g', c', rfl⟩ := hform
 rw [blk_own] at hg
 rw [blk_own, blk_own] at hat
 unfold Oper.wp execOp
 simp only [ho, resolve, invoke, builtin, Sem.run_bind, Sem.run_pure, Result.andThen_ok, List.map_toArray, List.map_cons, List.map_nil, hs, hx, hrun]
 refine h g' c' w' hown' hg ?_ ((Below.refl lo w).grown hg hlo (fun k hk => (World.ownsRow.lt hown k (by rw [blk_own]; exact hk)).1))
 rcases hat with e1 | e1
 ·exact .inl e1.symm
 ·injection e1 with e1; exact .inr e1
theorem appR {w : World} {ops : Array Oper} {rest : List Oper} {o : Oper} {a : Act} {Q : Exit → Act → World → Prop} (hgd : o.guard = none) (sx x : Operand) (T e : TypeId) (k : Nat) (z : Value) (bytes : Nat) (hT : Tryz.prog.underlying T = some (.slice e))
  (hI : (Tryz.prog.info? e).map (fun i => (i.zero, i.size, i.bytes)) = some (some z, k, bytes)) (hzc : z.cells.size = k) (hk : 0 < k) (hby : bytes ≤ 4096)
  (ho : o.op = .call { callee := .builtin .append, args := #[sx, x], argTypes := #[T, T] })
  (lo : Nat) (A : Option Addr) (n c : Nat) (vs : List Value) (hs : a.eval sx = .slice A n c) (hown : w.ownsRow lo e k (.slice A n c) n vs)
  (g c2 : Nat) (es : List Value) (hel : es.length = k) (hone : ∀ u ∈ es, u.oneCell' = true) (hx : a.eval x = .slice (some ⟨g, 0, none⟩) 1 c2) (hy : ∀ i, i < es.length → w.cell? ⟨g, i, none⟩ = es[i]?) (hn : n ≤ 1048576) (hlo : lo ≤ w.heap.size)
  (h : ∀ g' c' w', w'.ownsRow lo e k (.slice (some ⟨g', 0, none⟩) (n + 1) c') (n + 1) (vs ++ es) → w.grownBy w' (blk A) → (blk A = some g' ∨ g' = w.heap.size) → Below lo w w' → wpList Tryz.prog ops Q rest (a.put o.dst (.slice (some ⟨g', 0, none⟩) (n + 1) c')) w') : wpList Tryz.prog ops Q (o :: rest) a w :=
 wpList_plain hgd fun _ hK => wp_appR sx x T e k z bytes hT hI hzc hk hby ho lo A n c vs hs hown g c2 es hel hone hx hy hn hlo fun g' c' w' h1 h2 h3 h4 => hK _ _ (h g' c' w' h1 h2 h3 h4)
section
variable {w : World} {lo hi mid n c N C : Nat} {e e' : TypeId} {s s' : Sh} {A B : Option Addr} {D : List (Dat s)} {D' : List (Dat s')} {vs us : List Value} {G : Nat → List Nat}
theorem pickG (h : OwnG w lo mid e s A N C D vs G) (hr : w.ownsRow mid e' (nc s') (.slice B n c) n us) (hB : B = none → c = 0) (hlo : lo ≤ mid) {σ : Nat → Nat} (hσ : ∀ j, j < n → σ j < N) (hi : ∀ i j, i < n → j < n → σ i = σ j → i = j) (hl : D'.length = n)
  (hj : ∀ j, j < n → Ow w s' (cellsOf (nc s') us j) (D'.getD j (dft s')) (G (σ j))) : OwnG w lo w.heap.size e' s' B n c D' us (fun j => G (σ j)) := by
 have hlt := World.ownsRow.lt hr
 refine ⟨hl, fun k hk => (hlt k (by rw [blk_own]; exact hk)).2, row_lower hr hlo, hB, flat_inj h.2.2.2.2.1 hσ hi, fun j hjn => ⟨hj j hjn, fun q hq => ?_⟩⟩
 have h6 := (h.2.2.2.2.2 (σ j) (hσ j hjn)).2 q hq
 refine ⟨h6.1, (hj j hjn).lt q hq, fun e1 => ?_⟩
 have := (hlt q (by rw [blk_own]; exact e1.symm)).1
 omega
theorem OwnG.ow (h : OwnG w lo hi e s A n c D vs G) : ∃ F, Ow w (.row e s) [.slice A n c] D F ∧ F.Nodup ∧ ∀ q ∈ F, blk A = some q ∨ ∃ j, j < n ∧ q ∈ G j := by
 obtain ⟨h1, h2, h3, h4, h5, h6⟩ := h
 have hl : vs.length = n * nc s := h3.1
 rcases h3.2 with ⟨e1, e2⟩ | ⟨g, cap, cur, e1, hg, hrow, hn, hm, hs, ht⟩
 ·injection e1 with a1 a2 a3
  subst a1 a2 a3
  exact ⟨[], ⟨none, 0, 0, rfl, h1, .inl ⟨rfl, rfl, rfl, rfl⟩⟩, by simp, fun k hk => by cases hk⟩
 ·injection e1 with a1 a2 a3
  subst a1 a3
  refine ⟨g :: (List.range n).flatMap G, ⟨_, n, c, rfl, h1, .inr ⟨g, cur, cellsOf (nc s) vs, G, rfl, hrow, hn, by unfold maxLen at hm; omega, hs, rfl, fun j hj => ?_⟩⟩, List.nodup_cons.2 ⟨fun hb => ?_, h5⟩, fun k hk => ?_⟩
  ·have hjn : j * nc s + nc s ≤ n * nc s := by
    have := Nat.mul_le_mul_right (nc s) (show j + 1 ≤ n by omega)
    rw [Nat.add_mul] at this
    omega
   refine ⟨(h6 j hj).1.len, fun i hi => ?_, (h6 j hj).1⟩
   have h7 : cur.toList[j * nc s + i]? = vs[j * nc s + i]? := by rw [← ht, List.getElem?_take, if_pos (by omega)]
   rw [← Array.getElem?_toList, h7]
   unfold cellsOf
   rw [List.getElem?_take, if_pos hi, List.getElem?_drop]
  ·obtain ⟨j, hj, hb⟩ := List.mem_flatMap.1 hb
   exact ((h6 j (List.mem_range.1 hj)).2 g hb).2.2 rfl
  ·rcases List.mem_cons.1 hk with hk | hk
   ·rw [hk]; exact .inl rfl
   ·obtain ⟨j, hj, hb⟩ := List.mem_flatMap.1 hk
    exact .inr ⟨j, List.mem_range.1 hj, hb⟩
end
theorem cells_one {us : List Value} {j : Nat} {u : Value} (h : us[j]? = some u) : cellsOf 1 us j = [u] := by
 unfold cellsOf
 rw [Nat.mul_one]
 refine List.ext_getElem? fun i => ?_
 rw [List.getElem?_take]
 cases i with
 | zero => rw [if_pos (by omega), List.getElem?_drop, Nat.add_zero, h]; rfl
 | succ i => rw [if_neg (by omega)]; rfl
end pickOwn
end
end Go.Proofs.YtlaloakegajheaaGreat
section
namespace Go.Proofs
open Go.Shelf
def Tryz.reverseStep_ren : Go.Shelf.Ren := ⟨fun | 35 => 163 | n => n, fun | 22 => 84 | 23 => 124 | 3 => 3 | 4 => 4 | 0 => 0 | n => n, fun | n => n⟩
theorem Tryz.reverseStep : Go.Proofs.SlLaysE0.n35 Tryz.prog Tryz.reverseStep_ren := {
 mixed := by kernel_rfl
 f35 := ⟨Tryz.f163.name, by decide, Tryz.func163.trans (congrArg some (by kernel_rfl))⟩
 t0 := Tryz.underlying0
 a0 := Tryz.isAgg0
 z0 := Tryz.sizeOf0
 v0 := Tryz.zeroValue0
 t3 := Tryz.underlying3
 a3 := Tryz.isAgg3
 z3 := Tryz.sizeOf3
 v3 := Tryz.zeroValue3
 t4 := Tryz.underlying4
 a4 := Tryz.isAgg4
 z4 := Tryz.sizeOf4
 v4 := Tryz.zeroValue4
 t22 := Tryz.underlying84
 a22 := Tryz.isAgg84
 z22 := Tryz.sizeOf84
 v22 := Tryz.zeroValue84 }
end Go.Proofs
end
namespace Go.Proofs.YtlaloakegajheaaGreat
section
namespace revSteps
open Go.RowKit base ints marks app appAt segs shape drawX
set_option maxRecDepth 100000
abbrev El := Int × Int × Option Addr × Nat × Nat
def encEl (x : El) : List Value := [.int .i64 x.1, .int .i64 x.2.1, .slice x.2.2.1 x.2.2.2.1 x.2.2.2.2]
theorem enc_len (x : El) : (encEl x).length = 3 := rfl
theorem enc_one (x : El) : ∀ v ∈ encEl x, v.oneCell' = true := fun v hv => by
 simp only [encEl, List.mem_cons, List.not_mem_nil, or_false] at hv
 rcases hv with rfl | rfl | rfl <;> rfl
theorem els {vs : List Value} : ∀ {n : Nat}, (∀ j, j < n → ∃ x : El, cellsOf 3 vs j = encEl x) → ∃ d : List El, d.length = n ∧ ∀ j, j < n → cellsOf 3 vs j = encEl (d.getD j default)
 | 0, _ => ⟨[], rfl, fun j h => by omega⟩
 | n + 1, h => by
  obtain ⟨d, hd, h1⟩ := els (n := n) fun j hj => h j (by omega)
  obtain ⟨x, hx⟩ := h n (by omega)
  refine ⟨d ++ [x], by simp [hd], fun j hj => ?_⟩
  by_cases e : j = n
  ·subst e; rw [hx]; simp [List.getD, ← hd]
  ·rw [h1 j (by omega)]; simp [List.getD, List.getElem?_append_left (show j < d.length by omega)]
theorem cells_get {vs : List Value} {j i : Nat} (hi : i < 3) : (cellsOf 3 vs j)[i]? = vs[j * 3 + i]? := by
 unfold cellsOf
 rw [List.getElem?_take, if_pos hi, List.getElem?_drop]
theorem flat_get {d : List El} {t : Nat} (h : t < d.length * 3) : (Sort.flatK encEl 3 d.toArray)[t]! = ((encEl (d.getD (t / 3) default))[t % 3]?).getD undef := by
 rw [Sort.get_flatK encEl 3 d.toArray t (by simpa using h)]
 have h1 : t / 3 < d.length := by omega
 have h2 : t % 3 < 3 := Nat.mod_lt _ (by omega)
 have e1 : d.toArray[t / 3]! = d.getD (t / 3) default := by simp [List.getD, h1]
 rw [e1]
 rw [getElem!_pos _ _ (by rw [enc_len]; exact h2), List.getElem?_eq_getElem (by rw [enc_len]; exact h2)]
 rfl
theorem revSteps (lo g n c : Nat) (vs : List Value) (w : World) (h : w.ownsRow lo 124 3 (.slice (some ⟨g, 0, none⟩) n c) n vs) (hv : ∀ j, j < n → ∃ x : El, cellsOf 3 vs j = encEl x) :
  Calls Tryz.prog 163 #[.slice (some ⟨g, 0, none⟩) n c] w fun e w' => e = .returned (.tuple #[]) ∧ ∃ us, w'.ownsRow lo 124 3 (.slice (some ⟨g, 0, none⟩) n c) n us ∧ (∀ j, j < n → cellsOf 3 us j = cellsOf 3 vs (n - 1 - j)) ∧ w.grownBy w' (some g) ∧ w'.heap.size = w.heap.size := by
 obtain ⟨d, hd, h1⟩ := els hv
 obtain ⟨hvl, h2⟩ := h
 rcases h2 with ⟨e1, -⟩ | ⟨g', cap, cur, e1, hg, hrow, hn, hm, hs, ht⟩
 ·cases e1
 injection e1 with e1 e2 e3
 injection e1 with e1
 injection e1 with e1
 subst e1 e3
 have hcur : ∀ t, t < n * 3 → cur[t]? = vs[t]? := fun t htn => by
  rw [← ht, List.getElem?_take, if_pos htn, Array.getElem?_toList]
 have hflat : ∀ t, t < n * 3 → cur[t]? = some ((Sort.flatK encEl 3 d.toArray)[t]!) := fun t htn => by
  rw [hcur t htn, flat_get (by rw [hd]; exact htn), ← h1 (t / 3) (by omega), cells_get (Nat.mod_lt _ (by omega))]
  have e : t / 3 * 3 + t % 3 = t := by omega
  rw [e, List.getElem?_eq_getElem (by rw [hvl]; exact htn)]
  rfl
 have hr : Row w g 124 cur := hrow
 have hH : Sort.HoldsK encEl 3 w g 0 d.toArray := by
  intro t htn
  have htn : t < n * 3 := by rw [Sort.size_flatK] at htn; simpa [hd] using htn
  rw [Nat.zero_add, hr.cell t, hflat t htn]
  exact ⟨rfl, hr.free t⟩
 have hc := AnyQ.slices_Reverse Tryz.reverseStep 3 Tryz.isAgg124 Tryz.sizeOf124 encEl enc_len enc_one g 0 c d.toArray w hH (by simp [hd]; unfold maxLen at hm; omega)
 have hc : Calls Tryz.prog 163 #[.slice (some ⟨g, 0, none⟩) d.toArray.size c] w _ := hc
 have hdn : d.toArray.size = n := by simp [hd]
 rw [hdn] at hc
 refine hc.mono ?_
 rintro e w' ⟨rfl, q, rfl⟩
 refine ⟨rfl, (Sort.putCells id 0 (Sort.flatK encEl 3 d.toArray.reverse) cur).toList.take (n * 3), ⟨?_, .inr ⟨g, c, _, rfl, hg, ?_, hn, hm, ?_, rfl⟩⟩, fun j hj => ?_, ?_, ?_⟩
 ·simp [Sort.putCells, hs]
  omega
 ·show ((Sort.ahead w q).heap.modify g (Sort.onCells (Sort.putCells id 0 _)))[g]? = _
  rw [Array.getElem?_modify, if_pos rfl, show (Sort.ahead w q).heap = w.heap from rfl, hrow]
  rfl
 ·simp [Sort.putCells, hs]
 ·refine List.ext_getElem? fun i => ?_
  by_cases hi : i < 3
  ·have hb : j * 3 + i < n * 3 := by omega
   have hsz : j * 3 + i < cur.size := by rw [hs]; have := Nat.mul_le_mul_right 3 hn; omega
   rw [cells_get hi, List.getElem?_take, if_pos hb, Array.getElem?_toList]
   unfold Sort.putCells
   rw [Array.getElem?_mapIdx, Array.getElem?_eq_getElem hsz]
   have hfs : (Sort.flatK encEl 3 d.toArray.reverse).size = n * 3 := by rw [Sort.size_flatK]; simp [hd]
   simp only [Option.map_some, Nat.zero_le, true_and, Nat.zero_add, hfs, hb, if_true, Nat.sub_zero, id]
   have hrev : d.toArray.reverse = d.reverse.toArray := by simp
   rw [hrev, flat_get (by rw [List.length_reverse, hd]; exact hb)]
   have e3 : (j * 3 + i) / 3 = j := by omega
   have e4 : (j * 3 + i) % 3 = i := by omega
   rw [e3, e4, h1 (n - 1 - j) (by omega)]
   have e5 : d.reverse.getD j default = d.getD (n - 1 - j) default := by
    simp only [List.getD]
    rw [List.getElem?_reverse (by omega), hd]
   rw [e5, List.getElem?_eq_getElem (by rw [enc_len]; exact hi)]
   rfl
  ·rw [List.getElem?_eq_none (by unfold cellsOf; rw [List.length_take]; omega), List.getElem?_eq_none (by unfold cellsOf; rw [List.length_take]; omega)]
 ·refine ⟨rfl, rfl, rfl, ?_, fun i hi hne => ?_⟩
  ·show w.heap.size ≤ (w.heap.modify g _).size
   simp
  ·show (w.heap.modify g _)[i]? = _
   rw [Array.getElem?_modify, if_neg (fun e => hne (by rw [e]))]
 ·show (w.heap.modify g _).size = _
  simp
theorem revSteps0 (A : Option Addr) (c : Nat) (w : World) : Calls Tryz.prog 163 #[.slice A 0 c] w fun e w' => e = .returned (.tuple #[]) ∧ w' = w := AnyQ.slices_Reverse_empty Tryz.reverseStep A c w
end revSteps
end
section
namespace longest
open Go.RowKit base ints sig term termOk marks app sym sub segs segsHelp termFacts varsOf shape kindsR kindsW ruleMath ruleSpec stepMath walkMath stepSpec reachMath findW findSpec
theorem rd_one {w : World} {B g : Nat} {T : Option Addr} {m c : Nat} {t : List Int} (hr : Row w g 27 #[.slice T m c]) (hg : g < B) (hT : Rd w B sI [.slice T m c] t) : Rd w B sTs [.slice (some ⟨g, 0, none⟩) 1 1] [t] :=
 ⟨_, 1, 1, rfl, ⟨Nat.le_refl _, by omega, fun e => by cases e⟩, rfl, fun _ => ⟨g, 0, rfl, hg, fun j hj => by
  obtain rfl : j = 0 := by omega
  refine ⟨[.slice T m c], rfl, fun i hi => ?_, hT⟩
  have hi : i = 0 := by simpa using hi
  subst hi
  exact hr.cell 0⟩⟩
theorem r9_parts {sg : List Int} {rs : List Rl} {t : List Int} {n : Int} (h : right9 sg rs t n = true) : rightB sg rs t = true ∧ 0 ≤ n ∧ n ≤ 20 := by
 unfold right9 stepsB at h
 rw [Bool.and_eq_true, decide_eq_true_iff] at h
 exact h
end longest
end
section
open Go.Lib (hid)
namespace reachSpec
open Go.RowKit base ints sig term termOk termFacts marks app sub varsOf appAt sym segs segsHelp kinds same shifted shape kindsR kindsW ruleMath ruleSpec stepMath stepSpec ownL drawX walkMath stepsMath reachMath findW findSpec heldT longest
set_option maxRecDepth 100000
def AnsTs (w : World) (D : List (List Int)) (b : Bool) (e : Ending) (w' : World) : Prop := ∃ A n c, e = .returned (.tuple #[.slice A n c, .bool b]) ∧ Owned w' w.heap.size w'.heap.size sTs [.slice A n c] D ∧ Below w.heap.size w w'
theorem reach_no {sg : List Int} {rs : List Rl} {t : List Int} {x : Int} (h : right9 sg rs t x = false) : reachI sg rs t x = [] ∧ allI sg rs t x = false := ⟨by unfold reachI; rw [if_neg (by rw [h]; simp)], by unfold allI; rw [h]; rfl⟩
theorem reach_yes {sg : List Int} {rs : List Rl} {t : List Int} {n : Nat} (h : right9 sg rs t (n : Int) = true) : reachI sg rs t (n : Int) = termsF (fdA sg rs t n).1 ∧ allI sg rs t (n : Int) = (fdA sg rs t n).2 := ⟨by unfold reachI; rw [if_pos h, Int.toNat_natCast], by unfold allI; rw [h, Int.toNat_natCast]; rfl⟩
theorem parts_found {w : World} {B : Nat} {T P Y E : Option Addr} {tn tc pn pc yn yc en ec : Nat} {b : Bool} {S : Fs} (h : Rd w B sFound [.slice T tn tc, .slice P pn pc, .slice Y yn yc, .slice E en ec, .bool b] (fdD S)) :
  Rd w B sTs [.slice T tn tc] (termsF S.1) ∧ Rd w B sI [.slice P pn pc] (fromD S.1) ∧ Rd w B sStepS [.slice Y yn yc] (byD S.1) ∧ Rd w B sI [.slice E en ec] (deepD S.1) := by
 obtain ⟨h1, h2⟩ := Rd.split (ca := [.slice T tn tc]) (cb := [.slice P pn pc, .slice Y yn yc, .slice E en ec, .bool b]) h rfl
 obtain ⟨h3, h4⟩ := Rd.split (ca := [.slice P pn pc]) (cb := [.slice Y yn yc, .slice E en ec, .bool b]) h2 rfl
 obtain ⟨h5, h6⟩ := Rd.split (ca := [.slice Y yn yc]) (cb := [.slice E en ec, .bool b]) h4 rfl
 obtain ⟨h7, h8⟩ := Rd.split (ca := [.slice E en ec]) (cb := [.bool b]) h6 rfl
 exact ⟨h1, h3, h5, h7⟩
theorem termsF_len (L : List Fi) : (termsF L).length = L.length := List.length_map ..
theorem fd_small {sg : List Int} {rs : List Rl} {t : List Int} {n : Nat} (h : rightB sg rs t = true) : (fdA sg rs t n).1.length ≤ 60 ∧ ∀ k, ((termsF (fdA sg rs t n).1).getD k []).length ≤ 1048576 := ⟨fd_inv.len60, small_terms h fd_inv⟩
set_option maxHeartbeats 2000000 in
theorem specReachOf (a v u : Value) (d : Dat sSystem) (t : List Int) (x : Int) (w : World) (h : Rd w w.heap.size sSystem [a, v] d) (ht : Rd w w.heap.size sI [u] t) (hz : sz sSystem d ≤ 1048576) (hz' : sz sI t ≤ 1048576) :
  Calls Tryz.prog 44 #[.agg #[a, v], u, .int .i64 x] w (AnsTs w (reachI d.1 d.2 t x) (allI d.1 d.2 t x)) := by
 obtain ⟨T, m, c, rfl, hT, hcT⟩ := rd_ints.1 ht
 have hm := len_ints hT.1 hz'
 obtain ⟨W, hW, rA, bel⟩ := box1 w 32 #[a, v]
 have HW := hid hW
 have L1 := hid (l9Right a v d T m c t x W (h.next bel) hz (hT.next bel) hm)
 have HH := hid (show Rd w w.heap.size sSystem [a, v] d ∧ Rd w w.heap.size sI [.slice T m c] t ∧ sz sSystem d ≤ 1048576 from ⟨h, ht, hz⟩)
 clear hW h ht hz hT hcT
 cases ok : right9 d.1 d.2 t x with
 | false =>
  have HO := hid (reach_no ok)
  rw [ok] at L1
  clear ok
  go_enter Tryz.func44, Tryz.ntmps44
  go_wp2_with fail
  rw [← HW.out]
  refine L1.out.mono ?_
  rintro e w1 ⟨rfl, bb⟩
  have b1 := next_trans bel bb
  have F := hid (show AnsTs w (reachI d.1 d.2 t x) (allI d.1 d.2 t x) (.returned (.tuple #[.slice (some ⟨w1.heap.size, 0, none⟩) 0 0, .bool false])) (w1.alloc (.cells #[] 27)) from
   ⟨_, _, _, by rw [HO.out.2], by rw [HO.out.1]; exact (OwnL.empty (hi := (w1.alloc (.cells #[] 27)).heap.size) w1 27 sI b1.size (by simp)).owned, b1.alloc b1.size _⟩)
  clear bb bel b1 rA L1 HW
  go_wp2
  go_ret2
  exact F.out
 | true =>
  obtain ⟨q1, q2, q3⟩ := r9_parts ok
  obtain ⟨n, rfl⟩ : ∃ n : Nat, x = (n : Int) := ⟨x.toNat, by omega⟩
  have HO := hid (reach_yes ok)
  rw [ok] at L1
  have hn : n ≤ 20 := by omega
  have HQ := hid q1
  clear ok q1 q2 q3
  go_enter Tryz.func44, Tryz.ntmps44
  go_wp2_with fail
  rw [← HW.out]
  refine L1.out.mono ?_
  rintro e w1 ⟨rfl, bb⟩
  have k0 : w1.cell? ⟨w.heap.size, 0, none⟩ = some a := (rA.next bb).cell 0
  have k1 : w1.cell? ⟨w.heap.size, 1, none⟩ = some v := (rA.next bb).cell 1
  have b1 := next_trans bel bb
  have LF := hid (l9Find a v (.slice T m c) d t n w1 (HH.out.1.next b1) (HH.out.2.1.next b1) HH.out.2.2 HQ.out hn)
  have B1 := hid b1
  clear bb bel rA L1 HW b1
  go_wp2_with fail
  refine LF.out.mono ?_
  rintro e w2 ⟨T2, tn, tc, P, pn, pc, Y, yn, yc, E, en, ec, rfl, hR, bb⟩
  obtain ⟨S, hS⟩ : ∃ S, fdA d.1 d.2 t n = S := ⟨_, rfl⟩
  have hsm := fd_small (n := n) HQ.out
  rw [hS] at hR hsm
  have HO2 := hid (show reachI d.1 d.2 t (n : Int) = termsF S.1 ∧ allI d.1 d.2 t (n : Int) = S.2 from by rw [← hS]; exact HO.out)
  rw [hS]
  obtain ⟨hT2, -⟩ := parts_found hR
  have htn : tn ≤ 1048576 := by rw [← rd_ts hT2, termsF_len]; omega
  obtain ⟨V, hV⟩ : ∃ V, V = w2.alloc (.cells #[.slice T2 tn tc, .slice P pn pc, .slice Y yn yc, .slice E en ec, .bool S.2] 156) := ⟨_, rfl⟩
  have b3 : Below w.heap.size w V := by rw [hV]; exact (next_trans B1.out bb).alloc (next_trans B1.out bb).size _
  have bV : Below w2.heap.size w2 V := by rw [hV]; exact (Below.refl _ _).alloc (Nat.le_refl _) _
  have rV : Row V w2.heap.size 156 #[.slice T2 tn tc, .slice P pn pc, .slice Y yn yc, .slice E en ec, .bool S.2] := by rw [hV]; exact Row.new _ _ _
  have LC := hid (copyTerms T2 tn tc (termsF S.1) V.drew (hT2.next bV.drew) htn hsm.2)
  have HV := hid (show V = w2.alloc (.cells #[.slice T2 tn tc, .slice P pn pc, .slice Y yn yc, .slice E en ec, .bool S.2] 156) ∧ Below w.heap.size w V.drew ∧ Row V.drew w2.heap.size 156 #[.slice T2 tn tc, .slice P pn pc, .slice Y yn yc, .slice E en ec, .bool S.2] from ⟨hV, b3.drew, rV.drew⟩)
  have c0 : V.cell? ⟨w2.heap.size, 0, none⟩ = some (.slice T2 tn tc) := rV.cell 0
  have c4 : V.cell? ⟨w2.heap.size, 4, none⟩ = some (.bool S.2) := rV.cell 4
  clear hR hS hsm bb B1 hT2 htn b3 rV LF k0 k1 HH HO bV hV
  go_wp2_with fail
  rw [← HV.out.1]
  go_region_held3 (fun w' => w'.cell? ⟨w2.heap.size, 0, none⟩ = some (.slice T2 tn tc) ∧ w'.cell? ⟨w2.heap.size, 4, none⟩ = some (.bool S.2))
   (go_keep)
   (first
    | (go_at_call 106; refine LC.out.mono ?_; rintro e w3 ⟨A3, n3, c3, rfl, o3, bb⟩; have s0 : w3.cell? ⟨w2.heap.size, 0, none⟩ = some (.slice T2 tn tc) := (HV.out.2.2.next bb).cell 0; have s4 : w3.cell? ⟨w2.heap.size, 4, none⟩ = some (.bool S.2) := (HV.out.2.2.next bb).cell 4))
  have F := hid (show AnsTs w (reachI d.1 d.2 t (n : Int)) (allI d.1 d.2 t (n : Int)) (.returned (.tuple #[.slice A3 n3 c3, .bool S.2])) w3 from
   ⟨A3, n3, c3, by rw [HO2.out.2], by rw [HO2.out.1]; exact o3.wider HV.out.2.1.size (Nat.le_refl _), next_trans HV.out.2.1 bb⟩)
  clear o3 bb LC HV s0 s4 c0 c4
  go_wp2
  go_ret2
  exact F.out
end reachSpec
end
section
open Go.Lib (hid)
open List (setIfInBounds_toArray set_cons_zero set_cons_succ getElem_toArray getElem_cons_zero getElem_cons_succ)
namespace reachSpec
open Go.RowKit base ints sig term termOk termFacts marks app sub varsOf appAt sym segs segsHelp kinds same shifted shape kindsR kindsW ruleMath ruleSpec stepMath stepSpec ownL drawX walkMath stepsMath reachMath findW findSpec heldT longest walkSpec
set_option maxRecDepth 100000
def AnsWk (w : World) (k : Wk) (e : Ending) (w' : World) : Prop := ∃ A0 n0 c0 A1 n1 c1, e = .returned (.agg #[.slice A0 n0 c0, .slice A1 n1 c1]) ∧ Owned w' w.heap.size w'.heap.size sWalk [.slice A0 n0 c0, .slice A1 n1 c1] k ∧ Below w.heap.size w w'
structure Wz (w : World) (fs : Array Value) (B : Nat) (X O : Option Addr) (xn xc on oc : Nat) (fr : List Int) (L : List St) (wr : World) : Prop where
 r0 : Row wr w.heap.size 156 fs
 r1 : Row wr (w.heap.size + 1) 86 #[.slice none 0 0, .slice none 0 0]
 r3 : Row wr B 86 #[.slice X xn xc, .slice O on oc]
 x : Ownd wr (w.heap.size + 1 + 1) B X xn xc fr
 o : OwnL wr (B + 1) wr.heap.size 124 sStep O on oc L
 b : Below w.heap.size w wr
 z : w.heap.size + 1 + 1 ≤ B
section
variable {w w5 w4 wr w' : World} {fs : Array Value} {B : Nat} {X O : Option Addr} {xn xc on oc : Nat} {fr : List Int} {L : List St}
theorem Wz.next (h : Wz w fs B X O xn xc on oc fr L wr) (hb : Below wr.heap.size wr w') : Wz w fs B X O xn xc on oc fr L w' :=
 ⟨h.r0.next hb, h.r1.next hb, h.r3.next hb, h.x.next hb, (h.o.next hb).wider (Nat.le_refl _) hb.size, next_trans h.b hb, h.z⟩
theorem Wz.app {O' oc' : Nat} {y : St} {o : Obj} (h : Wz w fs B X O xn xc on oc fr L w5) (oL4 : OwnL w4 (B + 1) w4.heap.size 124 sStep (some ⟨O', 0, none⟩) (on + 1) oc' (L ++ [y])) (hg4 : (w5.alloc o).grownBy w4 (blk O)) :
  Wz w fs B X (some ⟨O', 0, none⟩) xn xc (on + 1) oc' fr (L ++ [y]) (w4.setCell ⟨B, 1, none⟩ (.slice (some ⟨O', 0, none⟩) (on + 1) oc')) := by
 have z := h.z
 have hB : B < w5.heap.size := h.r3.lt
 have hblk : ∀ k, blk O = some k → B + 1 ≤ k ∧ k < w5.heap.size := fun k e => h.o.ge k e
 have b0 : Below w5.heap.size w5 (w5.alloc o) := (Below.refl _ _).alloc (Nat.le_refl _) _
 have b4 : Below (B + 1) (w5.alloc o) w4 := (Below.refl _ _).grown hg4 (by simp; omega) (fun k e => (hblk k e).1)
 have b5 : Below (B + 1) w5 w4 := (b0.mono (by omega)).trans b4
 have hz4 : w5.heap.size + 1 ≤ w4.heap.size := by have := hg4.size; simpa using this
 refine ⟨(h.r0.below b5 (by omega)).far (show w.heap.size ≠ B by omega) _, (h.r1.below b5 (by omega)).far (show w.heap.size + 1 ≠ B by omega) _, (h.r3.below b5 (by omega)).put 1 _, ?_, ?_, (h.b.trans (b5.mono (by omega))).setCell (show w.heap.size ≤ B by omega) _, z⟩
 ·exact ((h.x.next b0).btw (lo' := B + 1) (hi' := w4.heap.size) (Btw.of_grown hg4 (fun q hq => by have h8 := hblk q hq; omega)) (.inl (by omega))).btw (lo' := B) (hi' := B + 1) ⟨rfl, rfl, rfl, by simp, fun k hk ho => Below.heap_setCell w4 _ _ k (by show k ≠ B; omega)⟩ (.inl (Nat.le_refl _))
 ·have o5 : OwnL (w4.setCell ⟨B, 1, none⟩ (.slice (some ⟨O', 0, none⟩) (on + 1) oc')) (B + 1) w4.heap.size 124 sStep (some ⟨O', 0, none⟩) (on + 1) oc' (L ++ [y]) := oL4.btw (lo' := B) (hi' := B + 1) ⟨rfl, rfl, rfl, by simp, fun k hk ho => Below.heap_setCell w4 _ _ k (by show k ≠ B; omega)⟩ (.inr (Nat.le_refl _))
  exact o5.wider (Nat.le_refl _) (by simp)
theorem wz_ans {k : Wk} (h : Wz w fs B X O xn xc on oc fr L wr) (hk : k = (fr, L)) :
  AnsWk w k (.returned (.agg #[.slice X xn xc, .slice O on oc])) ((wr.setCell ⟨w.heap.size + 1, 0, none⟩ (.slice X xn xc)).setCell ⟨w.heap.size + 1, 1, none⟩ (.slice O on oc)) := by
 have z := h.z
 have ow : Owned wr (w.heap.size + 1 + 1) wr.heap.size sWalk [.slice X xn xc, .slice O on oc] (fr, L) := owned_walk (h.x.wider (Nat.le_refl _) (Nat.le_succ _)) h.o (by omega) h.r3.lt
 exact ⟨_, _, _, _, _, _, rfl, by rw [hk]; exact ((ow.put (g := w.heap.size + 1) (i := 0) (by omega)).put (g := w.heap.size + 1) (i := 1) (by omega)).wider (by omega) (by simp), (h.b.setCell (show w.heap.size ≤ w.heap.size + 1 by omega) _).setCell (show w.heap.size ≤ w.heap.size + 1 by omega) _⟩
end
theorem from_at {L : List Fi} {f : Fi} {i : Nat} (h0 : 0 < i) (hf : L[i]? = some f) : (fromD L).getD i 0 = (f.2.1 : Int) ∧ (byD L).getD i (0, 0, []) = f.1 := by
 obtain ⟨j, rfl⟩ : ∃ j, i = j + 1 := ⟨i - 1, by omega⟩
 have h1 : (L.drop 1)[j]? = some f := by rw [List.getElem?_drop, Nat.add_comm]; exact hf
 constructor
 ·simp [fromD, List.getD, hf]
 ·simp [byD, List.getD, hf]
theorem rd_step_mk {w : World} {B : Nat} {x : St} {u : Value} (h : Rd w B sI [u] x.2.2) : Rd w B sStep [.int .i64 x.1, .int .i64 x.2.1, u] x :=
 ⟨[.int .i64 x.1], [.int .i64 x.2.1, u], rfl, rfl, [.int .i64 x.2.1], [u], rfl, rfl, h⟩
theorem from_zero (L : List Fi) : (fromD L).getD 0 0 = -1 := rfl
theorem fromD_len {L : List Fi} (h : 1 ≤ L.length) : (fromD L).length = L.length ∧ (byD L).length = L.length := by
 constructor
 ·simp [fromD]; omega
 ·simp [byD]; omega
theorem drop_snoc2 {L : List St} {q : Nat} {x : St} (hq : q < L.length) (hx : L.getD q (0, 0, []) = x) : (L.drop q).reverse = (L.drop (q + 1)).reverse ++ [x] := by
 rw [List.drop_eq_getElem_cons hq, List.reverse_cons]
 congr 2
 rw [← hx]
 simp [List.getD, hq]
theorem bk_le {sg : List Int} {rs : List Rl} {t : List Int} {n i : Nat} {S : Fs} (h : Inv sg rs t n S i) {j : Nat} (hj : j < S.1.length) (hn : n ≤ 60) : (bk S.1 j).length ≤ 60 := by
 rw [bk_len h j _ (List.getElem?_eq_getElem hj)]
 have := h.dn _ (List.getElem_mem hj)
 omega
theorem wk_parts {sg : List Int} {rs : List Rl} {t : List Int} {n i : Nat} {S : Fs} (_ : Inv sg rs t n S i) (j : Nat) : wkF S.1 j = ((termsF S.1).getD 0 [], (bk S.1 j).reverse) := by
 unfold wkF
 congr 1
 cases hL : S.1 with
 | nil => rfl
 | cons x r => rfl
theorem bk_small {sg : List Int} {rs : List Rl} {t : List Int} {n i : Nat} {S : Fs} (h : Inv sg rs t n S i) (hs : ∀ k, ((termsF S.1).getD k []).length ≤ 1048576) : ∀ {j : Nat}, j < S.1.length → ∀ q, ((bk S.1 j).getD q (0, 0, [])).2.2.length ≤ 1048576 := by
 intro j
 induction j using Nat.strongRecOn with
 | _ j ih =>
  intro hj q
  by_cases h0 : j = 0
  ·subst h0; rw [bk_zero]; simp
  ·have hf : S.1[j]? = some S.1[j] := List.getElem?_eq_getElem hj
   obtain ⟨g, h1, h2, -, -⟩ := h.par j _ (by omega) hf
   rw [bk_succ h (by omega) hf]
   cases q with
   | zero =>
    have := hs j
    rw [term_get hf] at this
    exact this
   | succ q => exact ih _ h1 (List.getElem?_eq_some_iff.1 h2).1 q
theorem appXm {w : World} {ops : Array Oper} {rest : List Oper} {o : Oper} {a : Act} {Q : Exit → Act → World → Prop} (hgd : o.guard = none) (sx x : Operand) (T e : TypeId) (s : Sh) (z : Value) (bytes : Nat) (hT : Tryz.prog.underlying T = some (.slice e))
  (hI : (Tryz.prog.info? e).map (fun i => (i.zero, i.size, i.bytes)) = some (some z, nc s, bytes)) (hzc : z.cells.size = nc s) (hby : bytes ≤ 4096)
  (ho : o.op = .call { callee := .builtin .append, args := #[sx, x], argTypes := #[T, T] })
  (bad : Nat → Prop) (lo g n c q c2 : Nat) (D : List (Dat s)) (es : List Value) (y : Dat s) (hs : a.eval sx = .slice (some ⟨g, 0, none⟩) n c) (hown : XS w bad lo e s g n c D) (hbad : bad g) (hxv : a.eval x = .slice (some ⟨q, 0, none⟩) 1 c2)
  (hy : ∀ i, i < es.length → w.cell? ⟨q, i, none⟩ = es[i]?) (hv : RdQ w (NotIn w bad) s es y) (hn : n ≤ 1048576) (hlo : lo ≤ w.heap.size)
  (h : ∀ g' c' w', (∀ bad' : Nat → Prop, (∀ b, b < w.heap.size → bad' b → bad b) → XS w' bad' lo e s g' (n + 1) c' (D ++ [y])) → w.grownBy w' (some g) → (g' = g ∨ g' = w.heap.size) → Below lo w w' → wpList Tryz.prog ops Q rest (a.put o.dst (.slice (some ⟨g', 0, none⟩) (n + 1) c')) w') : wpList Tryz.prog ops Q (o :: rest) a w :=
 wpList_plain hgd fun _ hK => wp_appX sx x T e s z bytes hT hI hzc hby ho bad lo g n c q c2 D es y hs hown hbad hxv hy hv hn hlo fun g' c' w' h1 h2 h3 h4 => hK _ _ (h g' c' w' h1 h2 h3 h4)
set_option maxHeartbeats 4000000 in
theorem l9Walk (T P Y E : Option Addr) (tn tc pn pc yn yc en ec : Nat) (sg : List Int) (rs : List Rl) (t : List Int) (n z0 : Nat) (S : Fs) (j : Nat) (w : World) (hR : Rd w w.heap.size sFound [.slice T tn tc, .slice P pn pc, .slice Y yn yc, .slice E en ec, .bool S.2] (fdD S)) (hI : Inv sg rs t n S z0) (hok : rightB sg rs t = true) (hj : j < S.1.length) (hn : n ≤ 20) :
  Calls Tryz.prog 164 #[.agg #[.slice T tn tc, .slice P pn pc, .slice Y yn yc, .slice E en ec, .bool S.2], .int .i64 (j : Int)] w (AnsWk w (wkF S.1 j)) := by
 obtain ⟨hT, hP, hY, -⟩ := parts_found hR
 have htn : (termsF S.1).length = tn := rd_ts hT
 rw [termsF_len] at htn
 obtain ⟨hfl, hbl⟩ := fromD_len hI.len1
 have hPs := hP.seg
 have hpn : pn = tn := by rw [← hPs.1, hfl, htn]
 subst hpn
 have hyn : S.1.length = yn := by
  obtain ⟨A', c', e, hc⟩ := hY.slice
  injection e with e1 e2 e3
  rw [e2, hbl]
 have hyn2 : yn = pn := by omega
 subst hyn2
 have small := small_terms hok hI
 have h60 := hI.len60
 obtain ⟨fs, hfs⟩ : ∃ fs : Array Value, fs = #[.slice T yn tc, .slice P yn pc, .slice Y yn yc, .slice E en ec, .bool S.2] := ⟨_, rfl⟩
 obtain ⟨W, hW⟩ : ∃ W, W = ((w.alloc (.cells #[.slice T yn tc, .slice P yn pc, .slice Y yn yc, .slice E en ec, .bool S.2] 156)).alloc (.cells #[.slice none 0 0, .slice none 0 0] 86)).alloc (.cells #[] 124) := ⟨_, rfl⟩
 have bW : Below w.heap.size w W := by rw [hW]; exact (((Below.refl _ _).alloc (Nat.le_refl _) _).alloc (by simp) _).alloc (by simp; omega) _
 have zW : W.heap.size = w.heap.size + 1 + 1 + 1 := by rw [hW]; simp
 have r0 : Row W w.heap.size 156 fs := by rw [hW, hfs]; exact ((Row.new w _ _).alloc _).alloc _
 have r1 : Row W (w.heap.size + 1) 86 #[.slice none 0 0, .slice none 0 0] := by
  rw [hW]
  have := (Row.new (w.alloc (.cells #[.slice T yn tc, .slice P yn pc, .slice Y yn yc, .slice E en ec, .bool S.2] 156)) 86 #[.slice none 0 0, .slice none 0 0]).alloc (.cells #[] 124)
  simpa using this
 have x0 : XS W (fun b => b = w.heap.size + 1 + 1) (w.heap.size + 1 + 1) 124 sStep (w.heap.size + 1 + 1) 0 0 [] := by
  rw [hW]
  refine ⟨rfl, [], ?_, fun k hk => by omega⟩
  have := World.ownsRow_lit (base := w.heap.size + 1 + 1) (e := 124) (size := nc sStep) ((w.alloc (.cells #[.slice T yn tc, .slice P yn pc, .slice Y yn yc, .slice E en ec, .bool S.2] 156)).alloc (.cells #[.slice none 0 0, .slice none 0 0] 86)) #[] 0 (by simp) (by unfold maxLen; omega) (by simp)
  simpa using this
 have HW := hid hW
 have HA := hid (show S.1.length = yn ∧ j < yn ∧ yn ≤ 60 ∧ Inv sg rs t n S z0 ∧ (∀ k, ((termsF S.1).getD k []).length ≤ 1048576) ∧ n ≤ 20 from ⟨htn, by omega, by omega, hI, small, hn⟩)
 have HR := hid (show Rd w w.heap.size sTs [.slice T yn tc] (termsF S.1) ∧ Seg w w.heap.size P yn (fromD S.1) ∧ Rd w w.heap.size sStepS [.slice Y yn yc] (byD S.1) ∧ (byD S.1).length = yn from ⟨hT, hPs, hY, by omega⟩)
 have H0 := hid (show XS W (fun b => b = w.heap.size + 1 + 1) (w.heap.size + 1 + 1) 124 sStep (w.heap.size + 1 + 1) 0 0 [] ∧ Row W w.heap.size 156 fs ∧ Row W (w.heap.size + 1) 86 #[.slice none 0 0, .slice none 0 0] ∧ Below w.heap.size w W from ⟨x0, r0, r1, bW⟩)
 have HF := hid hfs
 clear hR hI hok hj hT hP hY hPs hfl hbl htn hyn small h60 hW bW r0 r1 x0 hn zW hfs
 go_enter Tryz.func164, Tryz.ntmps164
 go_wp2_with fail
 rw [← HW.out]
 go_loopg [1, 5] j (fun g at_ bk_ wr => ∃ (b bn bc : Nat) (B : List St), at_ = .int .i64 (g : Int) ∧ bk_ = .slice (some ⟨b, 0, none⟩) bn bc ∧ g < yn ∧ bk S.1 j = B ++ bk S.1 g ∧ XS wr (fun k => k = b) (w.heap.size + 1 + 1) 124 sStep b bn bc B ∧ Row wr w.heap.size 156 fs ∧ Row wr (w.heap.size + 1) 86 #[.slice none 0 0, .slice none 0 0] ∧ Below w.heap.size w wr)
 case atStart => exact ⟨_, 0, 0, [], rfl, rfl, HA.out.2.1, rfl, H0.out⟩
 case round =>
  clear H0
  obtain ⟨b, bn, bc, B, rfl, rfl, hg, hbk, xs, r0, r1, bel⟩ := hrel
  have c1 : wr.cell? ⟨w.heap.size, 1, none⟩ = some (.slice P yn pc) := by rw [r0.cell 1, HF.out]; rfl
  have c2 : wr.cell? ⟨w.heap.size, 2, none⟩ = some (.slice Y yn yc) := by rw [r0.cell 2, HF.out]; rfl
  have hbn : bn ≤ 60 := by
   have h1 := bk_le HA.out.2.2.2.1 (j := j) (by rw [HA.out.1]; exact HA.out.2.1) (by have := HA.out.2.2.2.2.2; omega)
   rw [hbk, List.length_append, xs.len] at h1
   omega
  obtain ⟨pb, poff, rfl, hpb, hpc⟩ : ∃ pb poff, P = some ⟨pb, poff, none⟩ ∧ pb < w.heap.size ∧ ∀ i, i < yn → w.cell? ⟨pb, poff + i, none⟩ = some (.int .i64 ((fromD S.1).getD i 0)) := by
   obtain ⟨pb, poff, e, h1, -⟩ := HR.out.2.1.2 (by omega)
   exact ⟨pb, poff, e, h1, fun i hi => by
    have h2 := HR.out.2.1
    rw [e] at h2
    obtain ⟨pb', poff', e', h1', h3⟩ := h2.2 (by omega)
    injection e' with e'
    injection e' with q1 q2
    subst q1 q2
    exact h3 i hi⟩
  have cp : wr.cell? ⟨pb, poff + gk, none⟩ = some (.int .i64 ((fromD S.1).getD gk 0)) := (bel.cell (p := ⟨pb, poff + gk, none⟩) hpb).trans (hpc gk hg)
  have i0 : (0 : Int) ≤ (gk : Int) := by omega
  have i1 : (gk : Int) < (yn : Int) := by omega
  by_cases hg0 : gk = 0
  ·subst hg0
   rw [from_zero] at cp
   simp only [Nat.add_zero] at cp
   have HB := hid (show bk S.1 j = B from by rw [hbk, bk_zero, List.append_nil])
   have HX := hid (show XS wr (fun k => k = b) (w.heap.size + 1 + 1) 124 sStep b bn bc B ∧ Row wr w.heap.size 156 fs ∧ Row wr (w.heap.size + 1) 86 #[.slice none 0 0, .slice none 0 0] ∧ Below w.heap.size w wr from ⟨xs, r0, r1, bel⟩)
   have c0 : wr.cell? ⟨w.heap.size, 0, none⟩ = some (.slice T yn tc) := by rw [r0.cell 0, HF.out]; rfl
   obtain ⟨tb, toff, U, un, uc, rfl, htb, ct, hU, hcU⟩ := rd_term HR.out.1 bel (show 0 < yn from hg)
   rw [Nat.add_zero] at ct
   have hun : un ≤ 1048576 := by rw [← hU.1]; exact HA.out.2.2.2.2.1 0
   have LC := hid (copyInts U un uc ((termsF S.1).getD 0 []) wr (hU.more bel.size) hcU.2.2 hun)
   clear hbk xs r0 r1 bel hpc hU hcU hpb htb hg
   go_wp2_with fail
   refine LC.out.mono ?_
   rintro e w1 ⟨X, xn, xc, rfl, oX, bb⟩
   have zb := HX.out.1.ge
   obtain ⟨fr, hfr⟩ : ∃ fr, (termsF S.1).getD 0 [] = fr := ⟨_, rfl⟩
   rw [hfr] at oX
   obtain ⟨V, hV⟩ : ∃ V, V = w1.alloc (.cells #[.slice X xn xc, .slice none 0 0] 86) := ⟨_, rfl⟩
   have bV : Below w1.heap.size w1 V := by rw [hV]; exact (Below.refl _ _).alloc (Nat.le_refl _) _
   have rV : Row V w1.heap.size 86 #[.slice X xn xc, .slice none 0 0] := by rw [hV]; exact Row.new _ _ _
   have z1 : wr.heap.size ≤ w1.heap.size := bb.size
   have WZ : Wz w fs w1.heap.size X none xn xc 0 0 fr (B.drop bn).reverse V := ⟨(HX.out.2.1.next bb).next bV, (HX.out.2.2.1.next bb).next bV, rV, ((Ownd.of_own (Own.lower oX (by omega))).next bV), by rw [List.drop_eq_nil_of_le (by rw [HX.out.1.len]; exact Nat.le_refl _)]; exact OwnL.nil _ _ _ _ _, next_trans (next_trans HX.out.2.2.2 bb) bV, by omega⟩
   obtain ⟨B0, rB, zB⟩ : ∃ B0, Rd V B0 sStepS [.slice (some ⟨b, 0, none⟩) bn bc] B ∧ B0 ≤ w1.heap.size := ⟨wr.heap.size, Rd.below HX.out.1.rd (bb.trans (bV.mono z1)), z1⟩
   have HV := hid (show V = w1.alloc (.cells #[.slice X xn xc, .slice none 0 0] 86) ∧ Rd V B0 sStepS [.slice (some ⟨b, 0, none⟩) bn bc] B ∧ B0 ≤ w1.heap.size ∧ B.length = bn ∧ wkF S.1 j = (fr, B.reverse) ∧ (∀ q, (B.getD q (0, 0, [])).2.2.length ≤ 1048576) ∧ w1.heap.size < V.heap.size from
    ⟨hV, rB, zB, HX.out.1.len, by rw [← HB.out, ← hfr]; exact wk_parts HA.out.2.2.2.1 j, fun q => by rw [← HB.out]; exact bk_small HA.out.2.2.2.1 HA.out.2.2.2.2.1 (by rw [HA.out.1]; exact HA.out.2.1) q, rV.lt⟩)
   have W0 := hid WZ
   clear WZ bV rV hV oX bb LC HX HB hfr z1 zb rB zB ct c0 c1 c2 cp
   go_wp2_with fail
   rw [← HV.out.1]
   go_loopg [7] bn (fun g i_ wv => ∃ (on oc : Nat) (O : Option Addr), i_ = .int .i64 ((g : Int) - 1) ∧ g ≤ bn ∧ Wz w fs w1.heap.size X O xn xc on oc fr (B.drop g).reverse wv ∧ Below w1.heap.size V wv)
   case atStart => exact ⟨0, 0, none, rfl, Nat.le_refl _, W0.out, Below.refl _ _⟩
   case round =>
    clear W0
    obtain ⟨on, oc, O, rfl, hgb, wz, bel⟩ := hrel
    have zB1 := HV.out.2.2.2.2.2.2
    have zw := wz.z
    by_cases hg0 : gk = 0
    ·subst hg0
     have y0 : wr.cell? ⟨w1.heap.size, 0, none⟩ = some (.slice X xn xc) := wz.r3.cell 0
     have y1 : wr.cell? ⟨w1.heap.size, 1, none⟩ = some (.slice O on oc) := wz.r3.cell 1
     have z0 : wr.cell? ⟨w.heap.size + 1, 0, none⟩ = some (.slice none 0 0) := wz.r1.cell 0
     have z1 : wr.cell? ⟨w.heap.size + 1, 1, none⟩ = some (.slice none 0 0) := wz.r1.cell 1
     have g0 := wz.r1.free 0
     have g1 := wz.r1.free 1
     have ra := wz.r1.put 0 (.slice X xn xc)
     have z2 : (wr.setCell ⟨w.heap.size + 1, 0, none⟩ (.slice X xn xc)).cell? ⟨w.heap.size + 1, 1, none⟩ = some (.slice none 0 0) := ra.cell 1
     have g2 := ra.free 1
     have rb := ra.put 1 (.slice O on oc)
     have u0 : ((wr.setCell ⟨w.heap.size + 1, 0, none⟩ (.slice X xn xc)).setCell ⟨w.heap.size + 1, 1, none⟩ (.slice O on oc)).cell? ⟨w.heap.size + 1, 0, none⟩ = some (.slice X xn xc) := rb.cell 0
     have u1 : ((wr.setCell ⟨w.heap.size + 1, 0, none⟩ (.slice X xn xc)).setCell ⟨w.heap.size + 1, 1, none⟩ (.slice O on oc)).cell? ⟨w.heap.size + 1, 1, none⟩ = some (.slice O on oc) := rb.cell 1
     have FZ := wz_ans (k := wkF S.1 j) wz HV.out.2.2.2.2.1
     have HFZ := hid FZ
     clear FZ ra rb wz bel hgb zB1
     go_wp2
     exact bodyPost_ret (v := .agg #[.slice X xn xc, .slice O on oc]) (by simp [results, Tryz.results164, go_sem, u0, u1]) rfl HFZ.out
    ·obtain ⟨q, rfl⟩ : ∃ q, gk = q + 1 := ⟨gk - 1, by omega⟩
     have eq1 : ((q + 1 : Nat) : Int) - 1 = (q : Int) := by omega
     rw [eq1]
     have hq : q < bn := hgb
     obtain ⟨yb, yoff, u, x, ey, hyb, ex, k0, k1, k2, hx2⟩ := rd_step HV.out.2.1 (bel.mono HV.out.2.2.1) HV.out.2.2.2.1 hq
     injection ey with ey
     injection ey with ey1 ey2
     subst ey1 ey2
     rw [Nat.zero_add] at k0 k1 k2
     obtain ⟨U, un, uc, rfl, hU, hcU⟩ := rd_ints.1 hx2
     have hsm := HV.out.2.2.2.2.2.1 q
     have hap := drop_snoc2 (L := B) (q := q) (by rw [HV.out.2.2.2.1]; exact hq) ex.out
     rw [ex.out] at hsm
     obtain ⟨xa, xr, ys⟩ := x
     have hun : un ≤ 1048576 := by rw [← hU.1]; exact hsm
     have hU' : Seg wr wr.heap.size U un ys := hU.more (by have := bel.size; have := HV.out.2.2.1; omega)
     have LC := hid (copyInts U un uc ys wr.drew hU'.drew hcU.2.2 hun)
     have kO : wr.cell? ⟨w1.heap.size, 1, none⟩ = some (.slice O on oc) := wz.r3.cell 1
     have k0 : wr.cell? ⟨b, q * 3, none⟩ = some (.int .i64 xa) := k0
     have k1 : wr.cell? ⟨b, q * 3 + 1, none⟩ = some (.int .i64 xr) := k1
     have hbw : b < wr.drew.heap.size := by show b < wr.heap.size; have := bel.size; have := HV.out.2.2.1; omega
     have hBw : w1.heap.size < wr.drew.heap.size := wz.r3.lt
     have hon : on = bn - (q + 1) := by have := wz.o.1; rw [← this, List.length_reverse, List.length_drop, HV.out.2.2.2.1]
     have hon2 : on ≤ 1048576 := by have := HA.out.2.2.1; omega
     have WZ := hid (show Wz w fs w1.heap.size X O xn xc on oc fr (B.drop (q + 1)).reverse wr.drew from wz.next (drew_below wr))
     have HG := hid (show q + 1 ≤ bn ∧ (B.drop q).reverse = (B.drop (q + 1)).reverse ++ [(xa, xr, ys)] ∧ Below w1.heap.size V wr.drew from ⟨hgb, hap, bel.trans ((drew_below wr).mono bel.size |>.mono (by omega))⟩)
     have i0 : (0 : Int) ≤ (q : Int) := by omega
     have i1 : (q : Int) < (bn : Int) := by omega
     clear hx2 hU hcU hU' wz bel hgb hap ex hsm hun hon hyb hg0 eq1
     go_upto_region 9 with fail
     refine AnyT.start (S := (fun w' => w'.cell? ⟨w1.heap.size, 1, none⟩ = some (.slice O on oc) ∧ w'.cell? ⟨b, q * 3, none⟩ = some (.int .i64 xa) ∧ w'.cell? ⟨b, q * 3 + 1, none⟩ = some (.int .i64 xr) ∧ w'.cell? ⟨b, q * 3 + 2, none⟩ = some (.slice U un uc))) (fun j => j == 20 || j == 22) (by kernel_rfl) ⟨kO, k0, k1, k2⟩ (fun hHeld => ?_)
     refine AnyT.takeA (i := 0) (v := ?_) rfl (by kernel_rfl) (by kernel_rfl) (by kernel_rfl) (fun _ _ _ h => h) (Or.inl ⟨by rfl, ?_⟩) ?_
     rotate_left 1
     ·(intro w0 _; go_simp; try with_reducible rfl)
     try simp only [Act.put, setIfInBounds_toArray, set_cons_zero, set_cons_succ, getElem_toArray, getElem_cons_zero, getElem_cons_succ]
     refine AnyT.takeU (i := 1) (v := ?_) rfl (by kernel_rfl) (by kernel_rfl) (by kernel_rfl) (by kernel_rfl) (by kernel_rfl) (fun _ _ _ h => h) (Or.inl ⟨by rfl, ?_⟩) (by assumption) ?_
     rotate_left 1
     ·(intro w0 hSw; (try dsimp only at hSw); go_simp; try with_reducible rfl)
     try simp only [Act.put, setIfInBounds_toArray, set_cons_zero, set_cons_succ, getElem_toArray, getElem_cons_zero, getElem_cons_succ]
     refine AnyT.takeA (i := 2) (v := ?_) rfl (by kernel_rfl) (by kernel_rfl) (by kernel_rfl) (fun _ _ _ h => h) (Or.inl ⟨by rfl, ?_⟩) ?_
     rotate_left 1
     ·(intro w0 _; go_simp; try with_reducible rfl)
     try simp only [Act.put, setIfInBounds_toArray, set_cons_zero, set_cons_succ, getElem_toArray, getElem_cons_zero, getElem_cons_succ]
     refine AnyT.takeA (i := 3) (v := ?_) rfl (by kernel_rfl) (by kernel_rfl) (by kernel_rfl) (fun _ _ _ h => h) (Or.inl ⟨by rfl, ?_⟩) ?_
     rotate_left 1
     ·(intro w0 _; go_simp; try with_reducible rfl)
     try simp only [Act.put, setIfInBounds_toArray, set_cons_zero, set_cons_succ, getElem_toArray, getElem_cons_zero, getElem_cons_succ]
     refine AnyT.takeA (i := 4) (v := ?_) rfl (by kernel_rfl) (by kernel_rfl) (by kernel_rfl) (fun _ _ _ h => h) (Or.inl ⟨by rfl, ?_⟩) ?_
     rotate_left 1
     ·(intro w0 _; go_simp; try with_reducible rfl)
     try simp only [Act.put, setIfInBounds_toArray, set_cons_zero, set_cons_succ, getElem_toArray, getElem_cons_zero, getElem_cons_succ]
     refine AnyT.takeA (i := 5) (v := ?_) rfl (by kernel_rfl) (by kernel_rfl) (by kernel_rfl) (fun _ _ _ h => h) (Or.inl ⟨by rfl, ?_⟩) ?_
     rotate_left 1
     ·(intro w0 _; go_simp; try with_reducible rfl)
     try simp only [Act.put, setIfInBounds_toArray, set_cons_zero, set_cons_succ, getElem_toArray, getElem_cons_zero, getElem_cons_succ]
     refine AnyT.takeU (i := 6) (v := ?_) rfl (by kernel_rfl) (by kernel_rfl) (by kernel_rfl) (by kernel_rfl) (by kernel_rfl) (fun _ _ _ h => h) (Or.inl ⟨by rfl, ?_⟩) (by assumption) ?_
     rotate_left 1
     ·(intro w0 hSw; (try dsimp only at hSw); go_simp; try with_reducible rfl)
     try simp only [Act.put, setIfInBounds_toArray, set_cons_zero, set_cons_succ, getElem_toArray, getElem_cons_zero, getElem_cons_succ]
     refine AnyT.takeA (i := 7) (v := ?_) rfl (by kernel_rfl) (by kernel_rfl) (by kernel_rfl) (fun _ _ _ h => h) (Or.inl ⟨by rfl, ?_⟩) ?_
     rotate_left 1
     ·(intro w0 _; go_simp; try with_reducible rfl)
     try simp only [Act.put, setIfInBounds_toArray, set_cons_zero, set_cons_succ, getElem_toArray, getElem_cons_zero, getElem_cons_succ]
     refine AnyT.takeA (i := 8) (v := ?_) rfl (by kernel_rfl) (by kernel_rfl) (by kernel_rfl) (fun _ _ _ h => h) (Or.inl ⟨by rfl, ?_⟩) ?_
     rotate_left 1
     ·(intro w0 _; go_simp; try with_reducible rfl)
     try simp only [Act.put, setIfInBounds_toArray, set_cons_zero, set_cons_succ, getElem_toArray, getElem_cons_zero, getElem_cons_succ]
     refine AnyT.takeA (i := 9) (v := ?_) rfl (by kernel_rfl) (by kernel_rfl) (by kernel_rfl) (fun _ _ _ h => h) (Or.inl ⟨by rfl, ?_⟩) ?_
     rotate_left 1
     ·(intro w0 _; go_simp; try with_reducible rfl)
     try simp only [Act.put, setIfInBounds_toArray, set_cons_zero, set_cons_succ, getElem_toArray, getElem_cons_zero, getElem_cons_succ]
     refine AnyT.takeA (i := 10) (v := ?_) rfl (by kernel_rfl) (by kernel_rfl) (by kernel_rfl) (fun _ _ _ h => h) (Or.inl ⟨by rfl, ?_⟩) ?_
     rotate_left 1
     ·(intro w0 _; go_simp; try with_reducible rfl)
     try simp only [Act.put, setIfInBounds_toArray, set_cons_zero, set_cons_succ, getElem_toArray, getElem_cons_zero, getElem_cons_succ]
     refine AnyT.takeU (i := 11) (v := ?_) rfl (by kernel_rfl) (by kernel_rfl) (by kernel_rfl) (by kernel_rfl) (by kernel_rfl) (fun _ _ _ h => h) (Or.inl ⟨by rfl, ?_⟩) (by assumption) ?_
     rotate_left 1
     ·(intro w0 hSw; (try dsimp only at hSw); go_simp; try with_reducible rfl)
     try simp only [Act.put, setIfInBounds_toArray, set_cons_zero, set_cons_succ, getElem_toArray, getElem_cons_zero, getElem_cons_succ]
     refine AnyT.takeA (i := 12) (v := ?_) rfl (by kernel_rfl) (by kernel_rfl) (by kernel_rfl) (fun _ _ _ h => h) (Or.inl ⟨by rfl, ?_⟩) ?_
     rotate_left 1
     ·(intro w0 _; go_simp; try with_reducible rfl)
     try simp only [Act.put, setIfInBounds_toArray, set_cons_zero, set_cons_succ, getElem_toArray, getElem_cons_zero, getElem_cons_succ]
     refine AnyT.takeA (i := 13) (v := ?_) rfl (by kernel_rfl) (by kernel_rfl) (by kernel_rfl) (fun _ _ _ h => h) (Or.inl ⟨by rfl, ?_⟩) ?_
     rotate_left 1
     ·(intro w0 _; go_simp; try with_reducible rfl)
     try simp only [Act.put, setIfInBounds_toArray, set_cons_zero, set_cons_succ, getElem_toArray, getElem_cons_zero, getElem_cons_succ]
     refine AnyT.takeA (i := 14) (v := ?_) rfl (by kernel_rfl) (by kernel_rfl) (by kernel_rfl) (fun _ _ _ h => h) (Or.inl ⟨by rfl, ?_⟩) ?_
     rotate_left 1
     ·(intro w0 _; go_simp; try with_reducible rfl)
     try simp only [Act.put, setIfInBounds_toArray, set_cons_zero, set_cons_succ, getElem_toArray, getElem_cons_zero, getElem_cons_succ]
     refine AnyT.takeA (i := 15) (v := ?_) rfl (by kernel_rfl) (by kernel_rfl) (by kernel_rfl) (fun _ _ _ h => h) (Or.inl ⟨by rfl, ?_⟩) ?_
     rotate_left 1
     ·(intro w0 _; go_simp; try with_reducible rfl)
     try simp only [Act.put, setIfInBounds_toArray, set_cons_zero, set_cons_succ, getElem_toArray, getElem_cons_zero, getElem_cons_succ]
     refine AnyT.takeU (i := 16) (v := ?_) rfl (by kernel_rfl) (by kernel_rfl) (by kernel_rfl) (by kernel_rfl) (by kernel_rfl) (fun _ _ _ h => h) (Or.inl ⟨by rfl, ?_⟩) (by assumption) ?_
     rotate_left 1
     ·(intro w0 hSw; (try dsimp only at hSw); go_simp; try with_reducible rfl)
     try simp only [Act.put, setIfInBounds_toArray, set_cons_zero, set_cons_succ, getElem_toArray, getElem_cons_zero, getElem_cons_succ]
     refine AnyT.call (i := 17) (by kernel_rfl) rfl (fun K hK => ?_)
     try simp only [Act.put, setIfInBounds_toArray, set_cons_zero, set_cons_succ, getElem_toArray, getElem_cons_zero, getElem_cons_succ]
     rw [if_pos (by rfl)]
     go_simp
     (go_at_call 159; refine LC.out.mono ?_; rintro e w2 ⟨Z, zn, zc, rfl, oZ, bb⟩; have zz : wr.drew.heap.size ≤ w2.heap.size := bb.size; have dw20 : w2.cell? ⟨w1.heap.size, 1, none⟩ = some (.slice O on oc) := (bb.cell (p := ⟨w1.heap.size, 1, none⟩) hBw).trans kO; have dw21 : w2.cell? ⟨b, q * 3, none⟩ = some (.int .i64 xa) := (bb.cell (p := ⟨b, q * 3, none⟩) hbw).trans k0; have dw22 : w2.cell? ⟨b, q * 3 + 1, none⟩ = some (.int .i64 xr) := (bb.cell (p := ⟨b, q * 3 + 1, none⟩) hbw).trans k1; have dw23 : w2.cell? ⟨b, q * 3 + 2, none⟩ = some (.slice U un uc) := (bb.cell (p := ⟨b, q * 3 + 2, none⟩) hbw).trans k2; go_wp2_with fail)
     refine hK.out _ _ (fun _ _ => ?_) (fun hKeep => ?_)
     ·exact ⟨dw20, dw21, dw22, dw23⟩
     replace hHeld := hKeep (by first | rfl | trivial) hHeld
     clear hK K hKeep
     try simp only [Act.put, setIfInBounds_toArray, set_cons_zero, set_cons_succ, getElem_toArray, getElem_cons_zero, getElem_cons_succ]
     refine AnyT.takeA (i := 18) (v := ?_) rfl (by kernel_rfl) (by kernel_rfl) (by kernel_rfl) (fun _ _ _ h => h) (Or.inl ⟨by rfl, ?_⟩) ?_
     rotate_left 1
     ·(intro w0 _; go_simp; try with_reducible rfl)
     try simp only [Act.put, setIfInBounds_toArray, set_cons_zero, set_cons_succ, getElem_toArray, getElem_cons_zero, getElem_cons_succ]
     refine AnyT.call (i := 19) (by kernel_rfl) rfl (fun K hK => ?_)
     try simp only [Act.put, setIfInBounds_toArray, set_cons_zero, set_cons_succ, getElem_toArray, getElem_cons_zero, getElem_cons_succ]
     rw [if_pos (by rfl)]
     go_simp
     refine hK.out _ _ (fun _ _ => ?_) (fun hKeep => ?_)
     ·exact ⟨findSpec.keep_alloc dw20, findSpec.keep_alloc dw21, findSpec.keep_alloc dw22, findSpec.keep_alloc dw23⟩
     replace hHeld := hKeep (by first | rfl | trivial) hHeld
     clear hK K hKeep
     try simp only [Act.put, setIfInBounds_toArray, set_cons_zero, set_cons_succ, getElem_toArray, getElem_cons_zero, getElem_cons_succ]
     refine AnyT.call (i := 20) (by kernel_rfl) rfl (fun K hK => ?_)
     try simp only [Act.put, setIfInBounds_toArray, set_cons_zero, set_cons_succ, getElem_toArray, getElem_cons_zero, getElem_cons_succ]
     rw [if_pos (by rfl)]
     have b3 : Below w2.heap.size w2 (w2.alloc (.cells #[.int .i64 xa, .int .i64 xr, .slice Z zn zc] 124)) := (Below.refl _ _).alloc (Nat.le_refl _) _
     have W2 := hid (WZ.out.next bb)
     have HAPP := hid (show OwnL (w2.alloc (.cells #[.int .i64 xa, .int .i64 xr, .slice Z zn zc] 124)) (w1.heap.size + 1) wr.drew.heap.size 124 sStep O on oc (B.drop (q + 1)).reverse ∧ OwnL (w2.alloc (.cells #[.int .i64 xa, .int .i64 xr, .slice Z zn zc] 124)) wr.drew.heap.size (w2.heap.size + 1) 124 sStep (some ⟨w2.heap.size, 0, none⟩) 1 1 [(xa, xr, ys)] from ⟨((WZ.out.o).next bb).next b3, OwnL.single (e := 124) (s := sStep) (Row.new w2 124 #[.int .i64 xa, .int .i64 xr, .slice Z zn zc]) ((owned_step oZ xa xr).next b3) (Nat.le_refl _) bb.size⟩)
     refine wp_appL _ _ 84 124 sStep _ _ Tryz.underlying84 info_StepS rfl (by decide) rfl (w1.heap.size + 1) wr.drew.heap.size wr.drew.heap.size (w2.heap.size + 1) O on oc w2.heap.size 1 1 _ _ rfl HAPP.out.1 rfl HAPP.out.2 (Nat.le_refl _) (by omega) hon2 (by omega) (by simp; have := W2.out.r3.lt; omega) ?_
     intro A4 oc' w4 oL4 hg4 hat4 b4 hf4
     obtain ⟨O', rfl⟩ := hf4 (.inr (by omega))
     have y4 : w4.cell? ⟨w1.heap.size, 1, none⟩ = some (.slice O on oc) := (b4.cell (p := ⟨w1.heap.size, 1, none⟩) (by show w1.heap.size < w1.heap.size + 1; omega)).trans ((b3.cell (p := ⟨w1.heap.size, 1, none⟩) (by have := W2.out.r3.lt; exact this)).trans dw20)
     have f4 : w4.frozen? ⟨w1.heap.size, 1, none⟩ = false := ((W2.out.r3.next b3).below b4 (by omega)).free 1
     refine hK.out _ _ (fun h => by cases h) (fun _ => ?_)
     clear hK K
     try simp only [Act.put, setIfInBounds_toArray, set_cons_zero, set_cons_succ, getElem_toArray, getElem_cons_zero, getElem_cons_succ]
     refine AnyT.takeA (i := 21) (v := ?_) rfl (by kernel_rfl) (by kernel_rfl) (by kernel_rfl) (fun _ _ _ h => h) (Or.inl ⟨by rfl, ?_⟩) ?_
     rotate_left 1
     ·(intro w0 _; go_simp; try with_reducible rfl)
     try simp only [Act.put, setIfInBounds_toArray, set_cons_zero, set_cons_succ, getElem_toArray, getElem_cons_zero, getElem_cons_succ]
     refine AnyT.call (i := 22) (by kernel_rfl) rfl (fun K hK => ?_)
     try simp only [Act.put, setIfInBounds_toArray, set_cons_zero, set_cons_succ, getElem_toArray, getElem_cons_zero, getElem_cons_succ]
     rw [if_pos (by rfl)]
     go_simp
     refine hK.out _ _ (fun h => by cases h) (fun _ => ?_)
     clear hK K
     try simp only [Act.put, setIfInBounds_toArray, set_cons_zero, set_cons_succ, getElem_toArray, getElem_cons_zero, getElem_cons_succ]
     refine AnyT.done (by kernel_rfl) ?_ _
     have F := hid (show q ≤ bn ∧ Wz w fs w1.heap.size X (some ⟨O', 0, none⟩) xn xc (on + 1) oc' fr (B.drop q).reverse (w4.setCell ⟨w1.heap.size, 1, none⟩ (.slice (some ⟨O', 0, none⟩) (on + 1) oc')) ∧ Below w1.heap.size V (w4.setCell ⟨w1.heap.size, 1, none⟩ (.slice (some ⟨O', 0, none⟩) (on + 1) oc')) from
      ⟨by omega, by rw [HG.out.2.1]; exact W2.out.app oL4 hg4, (((HG.out.2.2.trans (bb.mono (by omega))).trans (b3.mono (by omega))).trans (b4.mono (by omega))).setCell (Nat.le_refl _) _⟩)
     clear oL4 hg4 hat4 b4 b3 y4 f4 W2 HAPP oZ bb dw20 dw21 dw22 dw23 kO k0 k1 k2 WZ HG LC
     go_wp2
     go_roundg q
     case measure => omega
     case rel => exact ⟨on + 1, oc', _, by simp, F.out⟩
  ·obtain ⟨f, hf⟩ : ∃ f, S.1[gk]? = some f := ⟨_, List.getElem?_eq_getElem (by rw [HA.out.1]; exact hg)⟩
   obtain ⟨hfr, hby⟩ := from_at (by omega) hf
   rw [hfr] at cp
   obtain ⟨pf, hpf, -, -, -⟩ := HA.out.2.2.2.1.par gk f (by omega) hf
   obtain ⟨yb, yoff, u, x, rfl, hyb, ex, k0, k1, k2, hx2⟩ := rd_step HR.out.2.2.1 bel HR.out.2.2.2 hg
   have hxf : x = f.1 := by rw [← hby]; exact ex.out.symm
   subst hxf
   obtain ⟨U, un, uc, rfl, hU, hcU⟩ := rd_ints.1 hx2
   have f0 : (0 : Int) ≤ (f.2.1 : Int) := by omega
   obtain ⟨V, hV⟩ : ∃ V, V = wr.alloc (.cells #[.int .i64 f.1.1, .int .i64 f.1.2.1, .slice U un uc] 124) := ⟨_, rfl⟩
   have bV : Below wr.heap.size wr V := by rw [hV]; exact (Below.refl _ _).alloc (Nat.le_refl _) _
   have rV : Row V wr.heap.size 124 #[.int .i64 f.1.1, .int .i64 f.1.2.1, .slice U un uc] := by rw [hV]; exact Row.new _ _ _
   have hge := xs.ge
   have hv : RdQ V (NotIn V (fun k => k = b)) sStep [.int .i64 f.1.1, .int .i64 f.1.2.1, .slice U un uc] f.1 := by
    refine notIn_of (B := w.heap.size) ?_ (Nat.le_trans bel.size bV.size) (fun k hk => by have hk : k = b := hk; omega)
    exact Rd.below (rd_step_mk hx2) (bV.mono bel.size)
   have HV := hid (show V = wr.alloc (.cells #[.int .i64 f.1.1, .int .i64 f.1.2.1, .slice U un uc] 124) ∧ XS V (fun k => k = b) (w.heap.size + 1 + 1) 124 sStep b bn bc B ∧ Row V wr.heap.size 124 #[.int .i64 f.1.1, .int .i64 f.1.2.1, .slice U un uc] ∧ RdQ V (NotIn V (fun k => k = b)) sStep [.int .i64 f.1.1, .int .i64 f.1.2.1, .slice U un uc] f.1 ∧ w.heap.size + 1 + 1 ≤ V.heap.size from ⟨hV, xs.below bV, rV, hv, by have := bV.size; omega⟩)
   have HK := hid (show Row V w.heap.size 156 fs ∧ Row V (w.heap.size + 1) 86 #[.slice none 0 0, .slice none 0 0] ∧ Below w.heap.size w V ∧ bk S.1 j = (B ++ [f.1]) ++ bk S.1 f.2.1 ∧ f.2.1 < gk ∧ pb < w.heap.size ∧ V.cell? ⟨pb, poff + gk, none⟩ = some (.int .i64 (f.2.1 : Int)) ∧ gk < yn from ⟨r0.next bV, r1.next bV, next_trans bel bV, by rw [hbk, bk_succ HA.out.2.2.2.1 (by omega) hf]; simp, hpf, hpb, by rw [← cp]; exact (next_trans bel bV).cell (p := ⟨pb, poff + gk, none⟩) hpb |>.trans (bel.cell (p := ⟨pb, poff + gk, none⟩) hpb).symm, hg⟩)
   clear hbk xs r0 r1 bel hpc hU hcU hpb hg hV bV rV hv hx2 ex hfr hby hpf pf hf hge hyb
   go_wp2_with (at_builtin; rw [← HV.out.1]; refine appXm rfl _ _ 84 124 sStep _ _ Tryz.underlying84 info_StepS rfl (by decide) rfl (fun k => k = b) (w.heap.size + 1 + 1) b bn bc wr.heap.size 1 B [.int .i64 f.1.1, .int .i64 f.1.2.1, .slice U un uc] f.1 rfl HV.out.2.1 rfl rfl (fun i hi => (HV.out.2.2.1.cell i).trans (List.getElem?_toArray ..)) HV.out.2.2.2.1 (by omega) HV.out.2.2.2.2 ?_; intro g4 c4 w4 x4 hg4 hat4 b4; have e1 : w4.cell? ⟨w.heap.size, 1, none⟩ = some (.slice (some ⟨pb, poff, none⟩) yn pc) := (by rw [(HK.out.1.below b4 (by omega)).cell 1, HF.out]; rfl); have e2 : w4.cell? ⟨pb, poff + gk, none⟩ = some (.int .i64 (f.2.1 : Int)) := (b4.cell (p := ⟨pb, poff + gk, none⟩) (by have := HK.out.2.2.2.2.2.1; show pb < _; omega)).trans HK.out.2.2.2.2.2.2.1; refine (?_ : Hid _).out)
   have F := hid (show f.2.1 < yn ∧ bk S.1 j = (B ++ [f.1]) ++ bk S.1 f.2.1 ∧ XS w4 (fun k => k = g4) (w.heap.size + 1 + 1) 124 sStep g4 (bn + 1) c4 (B ++ [f.1]) ∧ Row w4 w.heap.size 156 fs ∧ Row w4 (w.heap.size + 1) 86 #[.slice none 0 0, .slice none 0 0] ∧ Below w.heap.size w w4 from
    ⟨by have := HK.out.2.2.2.2; omega, HK.out.2.2.2.1, x4 _ (fun k hk e => by have e : k = g4 := e; rcases hat4 with h | h <;> omega), HK.out.1.below b4 (by omega), HK.out.2.1.below b4 (by omega), HK.out.2.2.1.trans (b4.mono (by omega))⟩)
   have G := hid HK.out.2.2.2.2.1
   clear x4 hg4 hat4 b4 HK HV k0 k1 k2 cp c1 c2 V
   refine hid ?_
   go_wp2
   go_roundg (f.2.1)
   case measure => exact G.out
   case rel => exact ⟨g4, bn + 1, c4, B ++ [f.1], rfl, rfl, F.out⟩
end reachSpec
end
section
namespace reachSpec
open Go.RowKit base ints sig term termOk termFacts marks app sub varsOf appAt sym segs segsHelp kinds same shifted shape kindsR kindsW ruleMath ruleSpec stepMath stepSpec ownL drawX walkMath stepsMath reachMath findW findSpec heldT longest walkSpec
set_option maxRecDepth 100000
theorem walk_cells {wr : World} {i : Nat} {a b : Value} (r : Row wr i 86 #[a, b]) (x y : Value) :
  wr.cell? ⟨i, 0, none⟩ = some a ∧ wr.cell? ⟨i, 1, none⟩ = some b ∧ wr.frozen? ⟨i, 0, none⟩ = false ∧ wr.frozen? ⟨i, 1, none⟩ = false ∧
  (wr.setCell ⟨i, 0, none⟩ x).cell? ⟨i, 1, none⟩ = some b ∧ (wr.setCell ⟨i, 0, none⟩ x).frozen? ⟨i, 1, none⟩ = false ∧
  ((wr.setCell ⟨i, 0, none⟩ x).setCell ⟨i, 1, none⟩ y).cell? ⟨i, 0, none⟩ = some x ∧ ((wr.setCell ⟨i, 0, none⟩ x).setCell ⟨i, 1, none⟩ y).cell? ⟨i, 1, none⟩ = some y := by
 have ra := r.put 0 x
 have rb := ra.put 1 y
 exact ⟨r.cell 0, r.cell 1, r.free 0, r.free 1, ra.cell 1, ra.free 1, rb.cell 0, rb.cell 1⟩
theorem to_yes {sg : List Int} {rs : List Rl} {t s : List Int} {n : Nat} (h : right9 sg rs t (n : Int) = true) (h2 : right9 sg rs s (n : Int) = true) : toO sg rs t s (n : Int) = (plcO (termsF (fdA sg rs t n).1) s).map (wkF (fdA sg rs t n).1) := by unfold toO; rw [if_pos (by rw [h, h2]; rfl), Int.toNat_natCast]; rfl
theorem ansWk_none {o : Option Wk} (h : o = none) {w w' : World} (hb : Below w.heap.size w w') : AnsWalk w (o.getD ([], [])) o.isSome (.returned (.tuple #[.agg #[.slice none 0 0, .slice none 0 0], .bool false])) w' := ansWalk_no (by rw [h]; exact ⟨rfl, rfl⟩) hb
end reachSpec
end
end Go.Proofs.YtlaloakegajheaaGreat
