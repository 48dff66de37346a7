/-
  MERGED: my texts Shelf, Sorted, VarsSort, VarsImpl, AnyR, RuleImpl, RuleImplB, RuleImplC, RuleImplD, RuleImplE, LpoMath, RankMath, Args, Depth, TermMath, PosMath, MatchMath, UnifMath, Forest, Nodes, PutMath, StepMath, WalkMath, ParMath, LpoLink, KboMath, RankSpec, Stk, PartsSpec, KboLink, AnyJ, TabR, Inside, MatchSpec, Whole, one behind the other, as they are. By an AI agent.
-/
import Derived.Test.YtiimbmkofpnebaaMFnForms3
import Derived.Shelf.SlGeneric
import Derived.Ground.SlgnProg
import Derived.Shelf.SortG.Plain
import Derived.Shelf.SortG.SortNone
import Derived.Shelf.SlicesG.CompactI
import Derived.Test.YtiimbmkofpnebaaProg
import Derived.Shelf.Abstract
import Derived.BigQuiet
import Derived.Deep.LoopGhost
import Derived.Deep.Onto
import Derived.Deep.RegionHeld3
import Derived.Deep.QuietTactic
import Derived.Laws.Rows
import Derived.Laws.ResultCell
section
namespace Go.Proofs
open Go.Shelf
def Try.laysSlgn53_ren : Go.Shelf.Ren := ⟨fun | 53 => 169 | 64 => 172 | 63 => 171 | 78 => 182 | 79 => 183 | 70 => 173 | 71 => 174 | 72 => 175 | 73 => 176 | 74 => 177 | 75 => 178 | 59 => 179 | 76 => 180 | 77 => 181 | 88 => 184 | 89 => 185 | 90 => 186 | 91 => 187 | 92 => 188 | 68 => 189 | 96 => 190 | n => n, fun | 22 => 27 | 23 => 2 | 3 => 3 | 51 => 125 | 0 => 0 | 67 => 189 | 69 => 26 | 4 => 4 | 61 => 181 | 60 => 180 | 44 => 186 | 5 => 5 | 9 => 9 | 75 => 191 | 79 => 195 | 83 => 197 | 84 => 198 | n => n, fun | n => n⟩
theorem Try.laysSlgn53 : Go.Proofs.SlLaysN.n53 Try.prog Try.laysSlgn53_ren := {
 mixed := by kernel_rfl
 f53 := ⟨Try.f169.name, by decide, Try.func169.trans (congrArg some (by kernel_rfl))⟩
 f59 := ⟨Try.f179.name, by decide, Try.func179.trans (congrArg some (by kernel_rfl))⟩
 f63 := ⟨Try.f171.name, by decide, Try.func171.trans (congrArg some (by kernel_rfl))⟩
 f64 := Try.func172.trans (congrArg some (by kernel_rfl))
 f68 := ⟨Try.f189.name, by decide, Try.func189.trans (congrArg some (by kernel_rfl))⟩
 f70 := ⟨Try.f173.name, by decide, Try.func173.trans (congrArg some (by kernel_rfl))⟩
 f71 := ⟨Try.f174.name, by decide, Try.func174.trans (congrArg some (by kernel_rfl))⟩
 f72 := ⟨Try.f175.name, by decide, Try.func175.trans (congrArg some (by kernel_rfl))⟩
 f73 := ⟨Try.f176.name, by decide, Try.func176.trans (congrArg some (by kernel_rfl))⟩
 f74 := ⟨Try.f177.name, by decide, Try.func177.trans (congrArg some (by kernel_rfl))⟩
 f75 := ⟨Try.f178.name, by decide, Try.func178.trans (congrArg some (by kernel_rfl))⟩
 f76 := ⟨Try.f180.name, by decide, Try.func180.trans (congrArg some (by kernel_rfl))⟩
 f77 := ⟨Try.f181.name, by decide, Try.func181.trans (congrArg some (by kernel_rfl))⟩
 f78 := Try.func182.trans (congrArg some (by kernel_rfl))
 f79 := Try.func183.trans (congrArg some (by kernel_rfl))
 f88 := ⟨Try.f184.name, by decide, Try.func184.trans (congrArg some (by kernel_rfl))⟩
 f89 := Try.func185.trans (congrArg some (by kernel_rfl))
 f90 := Try.func186.trans (congrArg some (by kernel_rfl))
 f91 := ⟨Try.f187.name, by decide, Try.func187.trans (congrArg some (by kernel_rfl))⟩
 f92 := ⟨Try.f188.name, by decide, Try.func188.trans (congrArg some (by kernel_rfl))⟩
 f96 := ⟨Try.f190.name, by decide, Try.func190.trans (congrArg some (by kernel_rfl))⟩
 t0 := Try.underlying0
 a0 := Try.isAgg0
 z0 := Try.sizeOf0
 v0 := Try.zeroValue0
 t3 := Try.underlying3
 a3 := Try.isAgg3
 z3 := Try.sizeOf3
 v3 := Try.zeroValue3
 t4 := Try.underlying4
 a4 := Try.isAgg4
 z4 := Try.sizeOf4
 v4 := Try.zeroValue4
 t5 := Try.underlying5
 a5 := Try.isAgg5
 z5 := Try.sizeOf5
 v5 := Try.zeroValue5
 t9 := Try.underlying9
 a9 := Try.isAgg9
 z9 := Try.sizeOf9
 v9 := Try.zeroValue9
 t22 := Try.underlying27
 a22 := Try.isAgg27
 z22 := Try.sizeOf27
 v22 := Try.zeroValue27
 t23 := Try.underlying2
 a23 := Try.isAgg2
 z23 := Try.sizeOf2
 v23 := Try.zeroValue2
 t44 := Try.underlying186
 a44 := Try.isAgg186
 z44 := Try.sizeOf186
 v44 := Try.zeroValue186
 t51 := Try.underlying125
 a51 := Try.isAgg125
 z51 := Try.sizeOf125
 v51 := Try.zeroValue125
 t60 := Try.underlying180
 a60 := Try.isAgg180
 z60 := Try.sizeOf180
 v60 := Try.zeroValue180
 t61 := Try.underlying181
 a61 := Try.isAgg181
 z61 := Try.sizeOf181
 v61 := Try.zeroValue181
 t67 := Try.underlying189
 a67 := Try.isAgg189
 z67 := Try.sizeOf189
 v67 := Try.zeroValue189
 t69 := Try.underlying26
 a69 := Try.isAgg26
 z69 := Try.sizeOf26
 v69 := Try.zeroValue26
 t75 := Try.underlying191
 a75 := Try.isAgg191
 z75 := Try.sizeOf191
 v75 := Try.zeroValue191
 t79 := Try.underlying195
 a79 := Try.isAgg195
 z79 := Try.sizeOf195
 v79 := Try.zeroValue195
 t83 := Try.underlying197
 a83 := Try.isAgg197
 z83 := Try.sizeOf197
 v83 := Try.zeroValue197
 t84 := Try.underlying198
 a84 := Try.isAgg198
 z84 := Try.sizeOf198
 v84 := Try.zeroValue198 }
open Go.Sort Go.RowKit in
theorem Try.slices_Sort_int (blk off cap : Nat) (zs : List Int) (w : World) (hH : Holds (Value.int .i64) w blk off zs.toArray) (hblk : blk < w.heap.size) (hsz : zs.length < 4611686018427387904) :
  Calls Try.prog 169 #[.slice (some ⟨blk, off, none⟩) zs.length cap] w fun e w' => e = .returned (.tuple #[]) ∧ ∃ n os, w' = grow (putRow (Value.int .i64) (Sort.ahead w n) blk off (zs.mergeSort fun x y => decide (x ≤ y)).toArray) os := AnyG.slices_Sort_int Try.laysSlgn53 blk off cap zs w hH hblk hsz
open Go.Sort Go.RowKit in
theorem Try.slices_Sort_int_none (p : Option Addr) (cap : Nat) (w : World) :
  Calls Try.prog 169 #[.slice p 0 cap] w fun e w' => e = .returned (.tuple #[]) ∧ w' = w := AnyG.slices_Sort_int_none Try.laysSlgn53 p cap w
def Try.laysSlgn43_ren : Go.Shelf.Ren := ⟨fun | 43 => 170 | n => n, fun | 22 => 27 | 23 => 2 | 3 => 3 | 4 => 4 | 0 => 0 | n => n, fun | n => n⟩
theorem Try.laysSlgn43 : Go.Proofs.SlLaysN.n43 Try.prog Try.laysSlgn43_ren := {
 mixed := by kernel_rfl
 f43 := ⟨Try.f170.name, by decide, Try.func170.trans (congrArg some (by kernel_rfl))⟩
 t0 := Try.underlying0
 a0 := Try.isAgg0
 z0 := Try.sizeOf0
 v0 := Try.zeroValue0
 t3 := Try.underlying3
 a3 := Try.isAgg3
 z3 := Try.sizeOf3
 v3 := Try.zeroValue3
 t4 := Try.underlying4
 a4 := Try.isAgg4
 z4 := Try.sizeOf4
 v4 := Try.zeroValue4
 t22 := Try.underlying27
 a22 := Try.isAgg27
 z22 := Try.sizeOf27
 v22 := Try.zeroValue27
 t23 := Try.underlying2
 a23 := Try.isAgg2
 z23 := Try.sizeOf2
 v23 := Try.zeroValue2
 i23 := by kernel_rfl }
open Go.Sort Go.RowKit in
theorem Try.slices_Compact_int (blk off cap : Nat) (zs : List Int) (w : World) (hH : Holds (Value.int .i64) w blk off zs.toArray) (hsz : zs.length ≤ 9223372036854775807) (hcap : zs.length ≤ cap) :
  Calls Try.prog 170 #[.slice (some ⟨blk, off, none⟩) zs.length cap] w fun e w' => e = .returned (.slice (some ⟨blk, off, none⟩) (Lib.compact zs).length cap) ∧ ∃ q, w' = putRow (Value.int .i64) (Sort.ahead w q) blk off (Lib.compact zs ++ List.replicate (zs.length - (Lib.compact zs).length) 0).toArray := AnyG.slices_Compact_int Try.laysSlgn43 blk off cap zs w hH hsz hcap
open Go.Sort Go.RowKit in
theorem Try.slices_Compact_int_empty (a : Option Addr) (cap : Nat) (w : World) :
  Calls Try.prog 170 #[.slice a 0 cap] w fun e w' => e = .returned (.slice a 0 cap) ∧ w' = w := AnyG.slices_Compact_int_empty Try.laysSlgn43 a cap w
end Go.Proofs
end
namespace Go.Proofs.Ytiimbmkofpnebaa
section
namespace sorted
open Go.RowKit base marks app sym appAt segs
set_option maxRecDepth 100000
theorem row_put {w : World} {g : Nat} {t : TypeId} {cs : Array Value} (h : Row w g t cs) (d : Array Int) : Row (Sort.putRow (Value.int .i64) w g 0 d) g t (Sort.putCells (Value.int .i64) 0 d cs) := by
 unfold Row at h ⊢
 show (w.heap.modify g (Sort.onCells (Sort.putCells (Value.int .i64) 0 d)))[g]? = _
 rw [Array.getElem?_modify, if_pos rfl, h]
 rfl
theorem grown_putRow (w : World) (g q : Nat) (d : Array Int) : w.grownBy (Sort.putRow (Value.int .i64) (Sort.ahead w q) g 0 d) (some g) := by
 refine ⟨rfl, rfl, rfl, ?_, fun i hi hne => ?_⟩
 ·show w.heap.size ≤ (w.heap.modify g _).size
  simp
 ·show (w.heap.modify g _)[i]? = _
  rw [Array.getElem?_modify, if_neg (fun e => hne (by rw [e]))]
theorem grown_grow {w w' : World} {r : Option Nat} (h : w.grownBy w' r) (os : Array Obj) : w.grownBy (Sort.grow w' os) r := by
 refine ⟨h.os, h.tape, h.output, by rw [Sort.size_grow]; have := h.size; omega, fun i hi hne => ?_⟩
 rw [Sort.heap_grow_old w' os (Nat.lt_of_lt_of_le hi h.size)]
 exact h.block i hi hne
theorem holds_own {w : World} {g : Nat} {t : TypeId} {cs : Array Value} {xs : List Int} (h : Row w g t cs) (hc : ∀ j, j < xs.length → cs[j]? = some ((xs.map (Value.int .i64)).getD j undef)) : Sort.Holds (Value.int .i64) w g 0 xs.toArray := by
 intro j hj
 have hj' : j < xs.length := by simpa using hj
 refine ⟨?_, by rw [Nat.zero_add]; exact h.free j⟩
 rw [Nat.zero_add, h.cell j, hc j hj']
 simp [List.getD, hj']
theorem putCells_get {cs : Array Value} {d : List Int} {j : Nat} (hj : j < d.length) (hs : d.length ≤ cs.size) : (Sort.putCells (Value.int .i64) 0 d.toArray cs)[j]? = some (.int .i64 (d.getD j 0)) := by
 unfold Sort.putCells
 rw [Array.getElem?_mapIdx, Array.getElem?_eq_getElem (by omega)]
 simp [hj, List.getD]
def AnsSort (w : World) (base : Nat) (A : Option Addr) (n c : Nat) (ys : List Int) (e : Ending) (w' : World) : Prop := e = .returned (.tuple #[]) ∧ Own w' base (.slice A n c) ys ∧ w.grownBy w' (blk A)
def up (xs : List Int) : List Int := xs.mergeSort fun x y => decide (x ≤ y)
theorem sortOwn (base : Nat) (A : Option Addr) (n c : Nat) (xs : List Int) (w : World) (h : Own w base (.slice A n c) xs) (hn : n ≤ 1048576) :
  Calls Try.prog 169 #[.slice A n c] w (AnsSort w base A n c (up xs)) := by
 have hl := Own.len h
 subst hl
 rcases own_form (n := xs.length) h with ⟨rfl, h0, rfl, _⟩ | ⟨g, cs, rfl, hb, hr, hnc, hz, hmax, _, hc⟩
 ·have hx : xs = [] := List.eq_nil_of_length_eq_zero h0
  subst hx
  refine (Try.slices_Sort_int_none none 0 w).mono ?_
  rintro e w' ⟨rfl, rfl⟩
  exact ⟨rfl, by simpa [up] using h, World.grownBy.refl _ _⟩
 ·have hH := holds_own hr hc
  refine (Try.slices_Sort_int g 0 c xs w hH hr.lt (by omega)).mono ?_
  rintro e w' ⟨rfl, n, os, rfl⟩
  have hyl : (up xs).length = xs.length := List.length_mergeSort _
  refine ⟨rfl, ?_, grown_grow (grown_putRow w g n _) os⟩
  have r1 : Row (Sort.ahead w n) g 2 cs := hr
  have r2 := row_put r1 (up xs).toArray
  have r3 : Row (Sort.grow (Sort.putRow (Value.int .i64) (Sort.ahead w n) g 0 (up xs).toArray) os) g 2 _ := (Sort.heap_grow_old _ os r2.lt).trans r2
  exact Own.of_row r3 hyl (by simp [Sort.putCells, hz]) hnc hmax hb (fun j hj => putCells_get (by omega) (by omega))
theorem compact_le (zs : List Int) : (Lib.compact zs).length ≤ zs.length := by
 unfold Lib.compact Lib.compactUpTo
 rw [List.length_map]
 exact Nat.le_trans (List.length_filter_le _ _) (by simp)
def AnsCompact (w : World) (base : Nat) (A : Option Addr) (ys : List Int) (e : Ending) (w' : World) : Prop := ∃ c, e = .returned (.slice A ys.length c) ∧ Own w' base (.slice A ys.length c) ys ∧ w.grownBy w' (blk A)
theorem compactOwn (base : Nat) (A : Option Addr) (n c : Nat) (xs : List Int) (w : World) (h : Own w base (.slice A n c) xs) (hn : n ≤ 1048576) :
  Calls Try.prog 170 #[.slice A n c] w (AnsCompact w base A (Lib.compact xs)) := by
 have hl := Own.len h
 subst hl
 rcases own_form (n := xs.length) h with ⟨rfl, h0, rfl, _⟩ | ⟨g, cs, rfl, hb, hr, hnc, hz, hmax, _, hc⟩
 ·have hx : xs = [] := List.eq_nil_of_length_eq_zero h0
  subst hx
  refine (Try.slices_Compact_int_empty none 0 w).mono ?_
  rintro e w' ⟨rfl, rfl⟩
  exact ⟨0, rfl, h, World.grownBy.refl _ _⟩
 ·have hH := holds_own hr hc
  have hle : (Lib.compact xs).length ≤ xs.length := compact_le xs
  refine (Try.slices_Compact_int g 0 c xs w hH (by omega) hnc).mono ?_
  rintro e w' ⟨rfl, q, rfl⟩
  refine ⟨c, rfl, ?_, grown_putRow w g q _⟩
  have r1 : Row (Sort.ahead w q) g 2 cs := hr
  have r2 := row_put r1 (Lib.compact xs ++ List.replicate (xs.length - (Lib.compact xs).length) 0).toArray
  refine Own.of_row r2 rfl (by simp [Sort.putCells, hz]) (by omega) hmax hb (fun j hj => ?_)
  rw [putCells_get (by simp; omega) (by simp; omega)]
  simp [List.getD, List.getElem?_append_left hj]
end sorted
end
section
namespace varsMath
open term termOk sorted
theorem compact_cons_cons (x y : Int) (r : List Int) : Lib.compact (x :: y :: r) = if x = y then Lib.compact (y :: r) else x :: Lib.compact (y :: r) := by
 unfold Lib.compact Lib.compactUpTo
 have hr : List.range (x :: y :: r).length = 0 :: (List.range (y :: r).length).map (· + 1) := by
  rw [List.length_cons, List.range_succ_eq_map]
 have hr2 : List.range (y :: r).length = 0 :: (List.range r.length).map (· + 1) := by
  rw [List.length_cons, List.range_succ_eq_map]
 have k0 : Lib.keeps (x :: y :: r).toArray 0 = true := by simp [Lib.keeps]
 have k0' : Lib.keeps (y :: r).toArray 0 = true := by simp [Lib.keeps]
 have ks : ∀ j, Lib.keeps (x :: y :: r).toArray (j + 1 + 1) = Lib.keeps (y :: r).toArray (j + 1) := fun j => by
  simp [Lib.keeps]
 have gs : ∀ j, (x :: y :: r).toArray[j + 1]! = (y :: r).toArray[j]! := fun j => by simp
 rw [hr, hr2]
 simp only [List.map_cons, List.filter_cons, k0, k0', if_true, List.filter_map, List.map_map]
 have e1 : Lib.keeps (x :: y :: r).toArray ∘ (fun (j : Nat) => j + 1) ∘ (fun (j : Nat) => j + 1) = Lib.keeps (y :: r).toArray ∘ fun (j : Nat) => j + 1 := by
  funext j
  exact ks j
 have k1 : Lib.keeps (x :: y :: r).toArray (0 + 1) = decide (¬ x = y) := by
  simp [Lib.keeps, eq_comm]
 rw [e1, k1]
 have e2 : (fun j => (x :: y :: r).toArray[j]!) ∘ (fun (j : Nat) => j + 1) ∘ (fun (j : Nat) => j + 1) = (fun j => (y :: r).toArray[j]!) ∘ fun (j : Nat) => j + 1 := by
  funext j
  exact gs (j + 1)
 by_cases h : x = y
 ·subst h
  simp [List.map_map, e2]
 ·simp [h, List.map_map, e2]
theorem compact_one (x : Int) : Lib.compact [x] = [x] := by simp [Lib.compact, Lib.compactUpTo, Lib.keeps, List.range_succ]
theorem compact_nil : Lib.compact ([] : List Int) = [] := rfl
theorem compact_sorted : ∀ {l : List Int}, l.Pairwise (· ≤ ·) → Rises (Lib.compact l) ∧ (∀ x, x ∈ Lib.compact l ↔ x ∈ l)
 | [], _ => ⟨List.Pairwise.nil, fun x => by rw [compact_nil]⟩
 | [y], _ => ⟨by rw [compact_one]; simp [Rises], fun x => by rw [compact_one]⟩
 | x :: y :: r, h => by
  have h1 := List.pairwise_cons.1 h
  obtain ⟨h2, h3⟩ := compact_sorted h1.2
  rw [compact_cons_cons]
  by_cases e : x = y
  ·subst e
   rw [if_pos rfl]
   exact ⟨h2, fun z => by rw [h3]; simp⟩
  ·rw [if_neg e]
   refine ⟨List.pairwise_cons.2 ⟨fun z hz => ?_, h2⟩, fun z => by rw [List.mem_cons, h3, List.mem_cons (a := z) (b := x)]⟩
   have h4 := h1.1 y (List.mem_cons_self ..)
   rcases List.mem_cons.1 ((h3 z).1 hz) with e2 | e2
   ·omega
   ·have := (List.pairwise_cons.1 h1.2).1 z e2
    omega
theorem up_sorted (l : List Int) : (up l).Pairwise (· ≤ ·) := by
 have := List.pairwise_mergeSort (le := fun x y => decide (x ≤ y)) (fun a b c h1 h2 => by simp at *; omega) (fun a b => by simp; omega) l
 refine this.imp (fun h => ?_)
 simpa using h
theorem up_mem {l : List Int} {x : Int} : x ∈ up l ↔ x ∈ l := by unfold up; exact List.mem_mergeSort
theorem sorted_vars (t : List Int) : Lib.compact (up (negs t)) = vars t := by
 have h := compact_sorted (up_sorted (negs t))
 refine rises_unique h.1 (vars_rises t) (fun x => ?_)
 rw [h.2, up_mem, vars_mem]
end varsMath
end
end Go.Proofs.Ytiimbmkofpnebaa
section
open Go.Lib (hid)
namespace Go.Proofs.Ytiimbmkofpnebaa.varsOf
open Go.RowKit base ints sig term termOk marks app sym sub segs sorted varsMath termFacts
set_option maxRecDepth 100000
def HeadNegs (w : World) (A : Option Addr) (n c m : Nat) (t : List Int) (out i : Value) (wr : World) : Prop :=
 ∃ (k : Nat) (O : Option Addr) (on oc : Nat), k ≤ m ∧ i = .int .i64 k ∧ out = .slice O on oc ∧ Own wr (w.heap.size + 1) (.slice O on oc) (negs (t.take k)) ∧ Row wr w.heap.size 29 #[.slice A n c] ∧ Below w.heap.size w wr
set_option maxHeartbeats 2000000 in
theorem implVarsOf (A A' : Option Addr) (n c m c' : Nat) (sg t : List Int) (w : World) (h : Seg w w.heap.size A n sg) (h' : Seg w w.heap.size A' m t) (hn : n ≤ 1048576) (hm : m ≤ 1048576) :
  Calls Try.prog 161 #[.agg #[.slice A n c], .slice A' m c'] w (AnsList w (varsI sg t)) := by
 obtain ⟨W, hW⟩ : ∃ W, W = w.alloc (.cells #[.slice A n c] 29) := ⟨_, rfl⟩
 have rA : Row W w.heap.size 29 #[.slice A n c] := by rw [hW]; exact Row.new _ _ _
 have bel : Below w.heap.size w W := by rw [hW]; exact (Below.refl _ _).alloc (Nat.le_refl _) _
 have s := (h.below bel).more bel.size
 have s' := (h'.below bel).more bel.size
 have HW := hid hW
 have HL := hid h'.1
 have L := hid (implTermOk A A' n c m c' sg t W s s' hn hm)
 clear hW h s
 cases hok : termOkB sg t with
 | false =>
  have HS := hid hok
  clear hok s' h'
  go_enter Try.func161, Try.ntmps161
  go_wp2_with fail
  rw [← HW.out]
  refine L.out.mono ?_
  rintro e w1 ⟨he, bb⟩
  rw [HS.out] at he
  subst he
  have F : AnsList w (varsI sg t) (.returned (.slice none 0 0)) w1 := ⟨_, _, _, rfl, by unfold varsI; rw [if_neg (by rw [HS.out]; simp)]; exact Own.nil _ _, next_trans bel bb⟩
  have HF := hid F
  clear F bb bel rA
  go_wp2
  go_ret
  exact HF.out
 | true =>
  have HS := hid hok
  have HV := hid (fun x hx => (term_mem (x := x) hok hx).1)
  clear hok s'
  go_enter Try.func161, Try.ntmps161
  go_wp2_with fail
  rw [← HW.out]
  refine L.out.mono ?_
  rintro e w1 ⟨he, bb⟩
  rw [HS.out] at he
  subst he
  have S0 : HeadNegs w A n c m t (.slice none 0 0) (.int .i64 0) w1 := ⟨0, _, _, _, Nat.zero_le _, rfl, rfl, by simpa [negs] using Own.nil w1 (w.heap.size + 1), rA.next bb, next_trans bel bb⟩
  have HS0 := hid S0
  clear S0 bb bel rA L
  go_wp2_with fail
  go_loopw [5, 14] (fun out i wr => HeadNegs w A n c m t out i wr) (fun _ i _ => m - (intOf i).toNat)
  case atStart => exact HS0.out
  case round =>
   obtain ⟨k, O, on, oc, hk, rfl, rfl, ho, hr, hb⟩ := hrel
   clear HS0
   have hon : on ≤ m := by have h1 := Own.len ho; have h2 := negs_len (t.take k); simp at h2; have h3 := HL.out; omega
   by_cases hlt : k < m
   ·obtain ⟨b, off, x, rfl, hbb, hx, ex⟩ := h'.spot hlt
    have hx1 : wr.cell? ⟨b, off + k, none⟩ = some (.int .i64 x) := (hb.cell (p := ⟨b, off + k, none⟩) hbb).trans hx
    have hsz := hr.lt
    have hmem : x ∈ t := by
     have hkl : k < t.length := by rw [HL.out]; exact hlt
     have := ex.out
     rw [← this]
     simp [List.getD, hkl]
    have hx24 : -24 ≤ x := HV.out x hmem
    clear hmem hx h'
    by_cases hneg : x < 0
    ·have E := hid (negs_yes (t := t) (k := k) (by rw [HL.out]; exact hlt) ex.out hneg)
     clear ex
     go_wp2_with (at_builtin; refine app1 rfl _ _ rfl (w.heap.size + 1) O on oc (negs (t.take k)) rfl (Own.alloc ho _) wr.heap.size 1 (-1 - x) rfl ((Row.new _ _ _).cell 0) (by omega) (by simp; omega) ?_; intro O' oc' w2 ho2 b2)
     have S : HeadNegs w A n c m t (.slice O' (on + 1) oc') (.int .i64 ((k : Int) + 1)) w2 := ⟨k + 1, O', on + 1, oc', hlt, by simp, rfl, by rw [E.out]; exact ho2, ((hr.alloc _).below b2 (Nat.lt_succ_self _)), ((hb.alloc (Nat.le_of_lt hsz) _).trans (b2.mono (Nat.le_succ _)))⟩
     replace S := hid S
     clear ho2 b2 ho hr hb
     go_wp2
     go_roundw
     case rel => exact S.out
     case measure => simp [intOf]; omega
    ·rw [← negs_no (t := t) (k := k) (by rw [HL.out]; exact hlt) ex.out hneg] at ho
     have S : HeadNegs w A n c m t (.slice O on oc) (.int .i64 ((k : Int) + 1)) wr := ⟨k + 1, O, on, oc, hlt, by simp, rfl, ho, hr, hb⟩
     replace S := hid S
     clear ho hr hb ex
     go_wp2
     go_roundw
     case rel => exact S.out
     case measure => simp [intOf]; omega
   ·rw [List.take_of_length_le (by rw [HL.out]; omega)] at ho
    have hge := Own.ge ho
    have hsz := hr.lt
    have L2 := hid (sortOwn (w.heap.size + 1) O on oc (negs t) wr ho (by omega))
    clear ho hr h'
    go_wp2_with fail
    refine L2.out.mono ?_
    rintro e w2 ⟨rfl, o2, g2⟩
    have b2 := hb.grown g2 hb.size (fun k hk => by have := hge k hk; omega)
    have L3 := hid (compactOwn (w.heap.size + 1) O on oc (up (negs t)) w2 o2 (by omega))
    clear o2 g2 L2 hb
    go_wp2_with fail
    refine L3.out.mono ?_
    rintro e w3 ⟨c3, rfl, o3, g3⟩
    have b3 := b2.grown g3 b2.size (fun k hk => by have := hge k hk; omega)
    have F : AnsList w (varsI sg t) (.returned (.slice O (Lib.compact (up (negs t))).length c3)) w3 := ⟨O, _, c3, rfl, by unfold varsI; rw [if_pos HS.out, ← sorted_vars t]; exact Own.lower o3 (Nat.le_succ _), b3⟩
    have HF := hid F
    clear F o3 g3 b2 b3 L3 hge
    go_wp2
    go_ret
    exact HF.out
end Go.Proofs.Ytiimbmkofpnebaa.varsOf
namespace Go.Proofs.Ytiimbmkofpnebaa.linear
open Go.RowKit base ints sig term termOk marks sym count varsMath termFacts varsOf
def HeadLinV (w : World) (A : Option Addr) (n c : Nat) (V : Option Addr) (vn : Nat) (t : List Int) (i : Value) (wr : World) : Prop :=
 ∃ k : Nat, k ≤ vn ∧ i = .int .i64 k ∧ (∀ j, j < k → many t (-1 - (vars t).getD j 0) ≤ 1) ∧ Seg wr wr.heap.size V vn (vars t) ∧ Row wr w.heap.size 29 #[.slice A n c] ∧ Below w.heap.size w wr
theorem vars_neg {t : List Int} {x : Int} : x ∈ vars t ↔ (-1 - x ∈ t ∧ 0 ≤ x) := by
 rw [vars_mem]
 unfold negs
 rw [List.mem_map]
 constructor
 ·rintro ⟨y, hy, rfl⟩
  rw [List.mem_filter] at hy
  have h1 : y < 0 := by simpa using hy.2
  exact ⟨by rw [show -1 - (-1 - y) = y by omega]; exact hy.1, by omega⟩
 ·rintro ⟨h1, h2⟩
  exact ⟨-1 - x, List.mem_filter.2 ⟨h1, by simp; omega⟩, by omega⟩
set_option maxHeartbeats 2000000 in
theorem implLinearIn (A A' : Option Addr) (n c m c' : Nat) (sg t : List Int) (w : World) (h : Seg w w.heap.size A n sg) (h' : Seg w w.heap.size A' m t) (hn : n ≤ 1048576) (hm : m ≤ 1048576) :
  Calls Try.prog 135 #[.agg #[.slice A n c], .slice A' m c'] w (AnsB w (linearB sg t)) := by
 obtain ⟨W, hW⟩ : ∃ W, W = w.alloc (.cells #[.slice A n c] 29) := ⟨_, rfl⟩
 have rA : Row W w.heap.size 29 #[.slice A n c] := by rw [hW]; exact Row.new _ _ _
 have bel : Below w.heap.size w W := by rw [hW]; exact (Below.refl _ _).alloc (Nat.le_refl _) _
 have s := (h.below bel).more bel.size
 have s' := (h'.below bel).more bel.size
 have HW := hid hW
 have HL := hid h'.1
 have L := hid (implTermOk A A' n c m c' sg t W s s' hn hm)
 clear hW
 cases hok : termOkB sg t with
 | false =>
  have HS := hid hok
  clear hok s s' h h'
  go_enter Try.func135, Try.ntmps135
  go_wp2_with fail
  rw [← HW.out]
  refine L.out.mono ?_
  rintro e w1 ⟨he, bb⟩
  rw [HS.out] at he
  subst he
  have F := hid (ansB (b := linearB sg t) (a := false) (by unfold linearB; rw [HS.out]; rfl) (next_trans bel bb))
  clear bb bel rA
  go_wp2
  go_ret
  exact F.out
 | true =>
  have HS := hid hok
  have HT := hid (fun x hx => term_mem (x := x) hok hx)
  have H60 := (term_len hok).2
  clear hok
  go_enter Try.func135, Try.ntmps135
  go_wp2_with fail
  rw [← HW.out]
  refine L.out.mono ?_
  rintro e w1 ⟨he, bb⟩
  rw [HS.out] at he
  subst he
  have L2 := hid (implVarsOf A A' n c m c' sg t w1 (s.next bb) (s'.next bb) hn hm)
  have cA : w1.cell? ⟨w.heap.size, 0, none⟩ = some (.slice A n c) := (rA.next bb).cell 0
  clear L s s'
  go_wp2_with fail
  refine L2.out.mono ?_
  rintro e w2 ⟨V, vn, vc, rfl, o2, b2⟩
  rw [show varsI sg t = vars t from if_pos HS.out] at o2
  have hvn : vn ≤ 60 := by have h1 := Own.len o2; have h2 := vars_len t; omega
  have S0 : HeadLinV w A n c V vn t (.int .i64 0) w2 := ⟨0, Nat.zero_le _, rfl, fun j hj => absurd hj (Nat.not_lt_zero _), Own.seg o2, (rA.next bb).next b2, next_trans (next_trans bel bb) b2⟩
  have HS0 := hid S0
  clear S0 o2 b2 L2 bb bel rA cA
  go_wp2_with fail
  go_loopw [15] (fun i wr => HeadLinV w A n c V vn t i wr) (fun i _ => vn - (intOf i).toNat)
  case atStart => exact HS0.out
  case round =>
   obtain ⟨k, hk, rfl, hlow, sv, hr, hb⟩ := hrel
   have HLOW := hid hlow
   clear hlow HS0
   have HSV := hid sv.1
   by_cases hlt : k < vn
   ·obtain ⟨b, off, x, rfl, -, hx, ex⟩ := sv.spot hlt
    have hmem : x ∈ vars t := by
     have hkl : k < (vars t).length := by rw [HSV.out]; exact hlt
     have := ex.out
     rw [← this]
     simp [List.getD, hkl]
    have hmem2 := vars_neg.1 hmem
    have hx24 := HT.out _ hmem2.1
    have hx0 : 0 ≤ x := hmem2.2
    have hx1 : x ≤ 23 := by omega
    have cA : wr.cell? ⟨w.heap.size, 0, none⟩ = some (.slice A n c) := hr.cell 0
    have L3 := hid (implCountOf A A' n c m c' sg t (-1 - x) wr ((h.below hb).more hb.size) ((h'.below hb).more hb.size) hn hm (by omega) (by omega))
    have EC := hid (show countI sg t (-1 - x) = (many t (-1 - x) : Int) from if_pos HS.out)
    obtain ⟨z, hz⟩ : ∃ z, many t (-1 - x) = z := ⟨_, rfl⟩
    have HZ := hid hz
    clear hz
    have hzl : z ≤ 60 := by rw [← HZ.out]; unfold many; have := cnt_le t (-1 - x) t.length; omega
    have F1 := hid (fun (h1 : 1 < z) => lin_no hmem2.1 (by omega) (by rw [HZ.out]; exact h1))
    clear hmem hmem2 hx24 h h'
    go_wp2_with fail
    refine L3.out.mono ?_
    rintro e w3 ⟨he, b3⟩
    rw [EC.out, HZ.out] at he
    subst he
    have hb3 := next_trans hb b3
    by_cases h1 : 1 < z
    ·have F := hid (ansB (b := linearB sg t) (a := false) (by unfold linearB; rw [HS.out, F1.out h1]; rfl) hb3)
     clear hb3 b3 hb hr sv ex L3 cA
     go_wp2
     go_ret
     exact F.out
    ·have S : HeadLinV w A n c (some ⟨b, off, none⟩) vn t (.int .i64 ((k : Int) + 1)) w3 := ⟨k + 1, hlt, by simp, fun j hj => by
      by_cases e : j = k
      ·subst e; rw [ex.out, HZ.out]; omega
      ·exact HLOW.out j (by omega), sv.next b3, hr.next b3, hb3⟩
     replace S := hid S
     clear hb3 b3 hb hr sv ex L3 cA
     go_wp2
     go_roundw
     case rel => exact S.out
     case measure => simp [intOf]; omega
   ·have F : linB t = true := lin_yes (fun x hx h0 => by
     have h1 : -1 - x ∈ vars t := vars_neg.2 ⟨by rw [show -1 - (-1 - x) = x by omega]; exact hx, by omega⟩
     obtain ⟨j, hj, e⟩ := List.getElem_of_mem h1
     have e2 : (vars t).getD j 0 = -1 - x := by simp [List.getD, hj, e]
     have h3 := HLOW.out j (by rw [HSV.out] at hj; omega)
     rw [e2, show -1 - (-1 - x) = x by omega] at h3
     exact h3)
    have HF := hid (ansB (b := linearB sg t) (a := true) (by unfold linearB; rw [HS.out, F]; rfl) hb)
    clear F hb hr sv h h'
    go_wp2
    go_ret
    exact HF.out
end Go.Proofs.Ytiimbmkofpnebaa.linear
end
namespace Go.Proofs.Ytiimbmkofpnebaa
section
open Go.Lib (hid)
namespace anyR
open Go.RowKit base ints sig segs varsOf shape kindsR ruleMath
set_option maxRecDepth 100000
theorem any_of {α : Type} [Inhabited α] {f : α → Bool} {xs : List α} {k : Nat} {x z : α} (hk : k < xs.length) (ex : xs.getD k z = x) (h : f x = true) : xs.any f = true := by
 rw [List.any_eq_true]
 refine ⟨xs[k], List.getElem_mem hk, ?_⟩
 have : xs.getD k z = xs[k] := by simp [List.getD, hk]
 rw [← this, ex]; exact h
theorem none_of {α : Type} {f : α → Bool} {xs : List α} {z : α} (h : ∀ j, j < xs.length → f (xs.getD j z) = false) : xs.any f = false := by
 rw [List.any_eq_false]
 intro x hx
 obtain ⟨i, hi, rfl⟩ := List.getElem_of_mem hx
 have := h i hi
 simpa [List.getD, hi] using this
theorem mem_at {α : Type} {xs : List α} {k : Nat} {x z : α} (hk : k < xs.length) (ex : xs.getD k z = x) : x ∈ xs := by
 have : xs.getD k z = xs[k] := by simp [List.getD, hk]
 rw [← ex, this]; exact List.getElem_mem hk
def TestsI (g : Nat) (fa lb : Array Value) (w : World) (xs : List Int) (f : Int → Bool) : Prop := ∀ (W : World) (x : Int), Below w.heap.size w W → x ∈ xs → Calls Try.prog g (fa ++ #[.int .i64 x] ++ lb) W (AnsB W (f x))
def AnsIxI (w : World) (f : Int → Bool) (xs : List Int) (e : Ending) (w' : World) : Prop := ∃ z : Int, e = .returned (.int .i64 z) ∧ -1 ≤ z ∧ z ≤ 1048576 ∧ decide (0 ≤ z) = xs.any f ∧ Below w.heap.size w w'
def HeadIxI (w : World) (n : Nat) (f : Int → Bool) (xs : List Int) (i : Value) (wr : World) : Prop := ∃ k : Nat, k ≤ n ∧ i = .int .i64 k ∧ (∀ j, j < k → f (xs.getD j 0) = false) ∧ Below w.heap.size w wr
set_option maxHeartbeats 2000000 in
theorem indexFuncI (g : Nat) (fa lb : Array Value) (eg : ∀ args w, (callFunc g args).run Try.prog w = .ok (.enter g args) w) (f : Int → Bool) (A : Option Addr) (n c : Nat) (xs : List Int) (w : World) (hT : TestsI g fa lb w xs f)
  (h : Rd w w.heap.size sI [.slice A n c] xs) (hl : xs.length = n) (hn : n ≤ 1048576) :
  Calls Try.prog 145 #[.slice A n c, .func (.func g) fa lb] w (AnsIxI w f xs) := by
 have HL := hid hl
 have HK := hid hT
 have HR := hid h
 have HH : Hid (HeadIxI w n f xs (.int .i64 0) w) := hid ⟨0, Nat.zero_le _, rfl, fun j hj => absurd hj (Nat.not_lt_zero _), Below.refl _ _⟩
 clear hT h hl
 go_enter Try.func145, Try.ntmps145
 go_wp2_with fail
 go_loopw [8] (fun i wr => HeadIxI w n f xs i wr) (fun i _ => n - (intOf i).toNat)
 case atStart => exact HH.out
 case round =>
  obtain ⟨k, hk, rfl, hlow, hb⟩ := hrel
  have HLOW := hid hlow
  clear hlow HH
  by_cases hlt : k < n
  ·have hkD : k < xs.length := by rw [HL.out]; exact hlt
   obtain ⟨b, off, x, rfl, hbB, hx0, ex⟩ := HR.out.seg.spot hlt
   have hx : wr.cell? ⟨b, off + k, none⟩ = some (.int .i64 x) := (hb.cell (p := ⟨b, off + k, none⟩) hbB).trans hx0
   have hcall := HK.out wr x hb (mem_at hkD ex.out)
   obtain ⟨v, hv⟩ : ∃ v, f x = v := ⟨_, rfl⟩
   rw [hv] at hcall
   have HV := hid hv
   have HC := hid hcall
   have i0 : (0 : Int) ≤ (k : Int) := by omega
   have i1 : (k : Int) < (n : Int) := by omega
   clear hv hcall
   cases v with
   | true =>
    go_wp2_with (first
     | (go_at_fn g; refine HC.out.mono ?_; rintro e w1 ⟨rfl, bb⟩))
    have F : AnsIxI w f xs (.returned (.int .i64 (k : Int))) w1 := ⟨k, rfl, by omega, by omega, by rw [decide_eq_true (by omega)]; exact (any_of hkD ex.out HV.out).symm, next_trans hb bb⟩
    have HF := hid F
    clear F bb hb HC
    go_wp2
    go_ret
    exact HF.out
   | false =>
    go_wp2_with (first
     | (go_at_fn g; refine HC.out.mono ?_; rintro e w1 ⟨rfl, bb⟩))
    have S1 : HeadIxI w n f xs (.int .i64 ((k : Int) + 1)) w1 := ⟨k + 1, hlt, by simp, fun j hj => by
     by_cases e : j = k
     ·rw [e, ex.out]; exact HV.out
     ·exact HLOW.out j (by omega), next_trans hb bb⟩
    have HS1 := hid S1
    clear S1 bb hb HC
    go_wp2
    go_roundw
    case rel => exact HS1.out
    case measure => simp [intOf]; omega
  ·have F : AnsIxI w f xs (.returned (.int .i64 (-1))) wr := ⟨-1, rfl, by omega, by omega, (none_of (fun j hj => HLOW.out j (by rw [HL.out] at hj; omega))).symm, hb⟩
   have HF := hid F
   clear F hb
   go_wp2
   go_ret
   exact HF.out
theorem containsFuncI (g : Nat) (fa lb : Array Value) (eg : ∀ args w, (callFunc g args).run Try.prog w = .ok (.enter g args) w) (f : Int → Bool) (A : Option Addr) (n c : Nat) (xs : List Int) (w : World) (hT : TestsI g fa lb w xs f)
  (h : Rd w w.heap.size sI [.slice A n c] xs) (hl : xs.length = n) (hn : n ≤ 1048576) :
  Calls Try.prog 116 #[.slice A n c, .func (.func g) fa lb] w (AnsB w (xs.any f)) := by
 have L := hid (indexFuncI g fa lb eg f A n c xs w hT h hl hn)
 clear h hl hT
 go_enter Try.func116, Try.ntmps116
 go_wp2_with fail
 refine L.out.mono ?_
 rintro e w' ⟨z, rfl, h1, h2, hz, bb⟩
 have HZ := hid hz
 have HB := hid bb
 clear hz L bb
 go_wp2
 go_ret
 exact ⟨by rw [← HZ.out]; rfl, HB.out⟩
def TestsRule (g : Nat) (fa lb : Array Value) (w : World) (xs : List (Dat sRule)) (f : Dat sRule → Bool) : Prop := ∀ (W : World) (l r : Value) (x : Dat sRule), Below w.heap.size w W → x ∈ xs → Rd W W.heap.size sRule [l, r] x → Calls Try.prog g (fa ++ #[.agg #[l, r]] ++ lb) W (AnsB W (f x))
def AnsIxRule (w : World) (f : Dat sRule → Bool) (xs : List (Dat sRule)) (e : Ending) (w' : World) : Prop := ∃ z : Int, e = .returned (.int .i64 z) ∧ -1 ≤ z ∧ z ≤ 1048576 ∧ decide (0 ≤ z) = xs.any f ∧ Below w.heap.size w w'
def HeadIxRule (w : World) (n : Nat) (f : Dat sRule → Bool) (xs : List (Dat sRule)) (i : Value) (wr : World) : Prop := ∃ k : Nat, k ≤ n ∧ i = .int .i64 k ∧ (∀ j, j < k → f (xs.getD j (dft sRule)) = false) ∧ Below w.heap.size w wr
set_option maxHeartbeats 2000000 in
theorem indexFuncRule (g : Nat) (fa lb : Array Value) (eg : ∀ args w, (callFunc g args).run Try.prog w = .ok (.enter g args) w) (f : Dat sRule → Bool) (A : Option Addr) (n c : Nat) (xs : List (Dat sRule)) (w : World) (hT : TestsRule g fa lb w xs f)
  (h : Rd w w.heap.size sRuleS [.slice A n c] xs) (hl : xs.length = n) (hn : n ≤ 1048576) :
  Calls Try.prog 153 #[.slice A n c, .func (.func g) fa lb] w (AnsIxRule w f xs) := by
 have HL := hid hl
 have HK := hid hT
 have HR := hid h
 have HH : Hid (HeadIxRule w n f xs (.int .i64 0) w) := hid ⟨0, Nat.zero_le _, rfl, fun j hj => absurd hj (Nat.not_lt_zero _), Below.refl _ _⟩
 clear hT h hl
 go_enter Try.func153, Try.ntmps153
 go_wp2_with fail
 go_loopw [8] (fun i wr => HeadIxRule w n f xs i wr) (fun i _ => n - (intOf i).toNat)
 case atStart => exact HH.out
 case round =>
  obtain ⟨k, hk, rfl, hlow, hb⟩ := hrel
  have HLOW := hid hlow
  clear hlow HH
  by_cases hlt : k < n
  ·have hkD : k < xs.length := by rw [HL.out]; exact hlt
   obtain ⟨b, off, n2, c2, es, ev, -, -, hbB, hel, hp, hr⟩ := HR.out.elem hkD
   injection ev with e1 e2 e3
   subst e1 e2 e3
   obtain ⟨l, r, rfl⟩ := cells_Rule hr
   have hpw := hp.keep (w' := wr) (fun p hp => hb.cell (p := p) (by rw [hp]; exact hbB))
   have c0 : wr.cell? ⟨b, off + k * 2, none⟩ = some l := hpw 0 (by simp)
   have c1 : wr.cell? ⟨b, off + k * 2 + 1, none⟩ = some r := hpw 1 (by simp)
   obtain ⟨x, hx⟩ : ∃ x, xs.getD k (dft sRule) = x := ⟨_, rfl⟩
   have ex := hid hx
   rw [hx] at hr
   have hcall := HK.out wr l r x hb (mem_at hkD hx) ((hr.below hb).more hb.size)
   clear hpw hp hel hr
   clear hx
   obtain ⟨v, hv⟩ : ∃ v, f x = v := ⟨_, rfl⟩
   rw [hv] at hcall
   have HV := hid hv
   have HC := hid hcall
   have i0 : (0 : Int) ≤ (k : Int) := by omega
   have i1 : (k : Int) < (n : Int) := by omega
   clear hv hcall
   cases v with
   | true =>
    go_wp2_with (first
     | (go_at_fn g; refine HC.out.mono ?_; rintro e w1 ⟨rfl, bb⟩))
    have F : AnsIxRule w f xs (.returned (.int .i64 (k : Int))) w1 := ⟨k, rfl, by omega, by omega, by rw [decide_eq_true (by omega)]; exact (any_of hkD ex.out HV.out).symm, next_trans hb bb⟩
    have HF := hid F
    clear F bb hb HC
    go_wp2
    go_ret
    exact HF.out
   | false =>
    go_wp2_with (first
     | (go_at_fn g; refine HC.out.mono ?_; rintro e w1 ⟨rfl, bb⟩))
    have S1 : HeadIxRule w n f xs (.int .i64 ((k : Int) + 1)) w1 := ⟨k + 1, hlt, by simp, fun j hj => by
     by_cases e : j = k
     ·rw [e, ex.out]; exact HV.out
     ·exact HLOW.out j (by omega), next_trans hb bb⟩
    have HS1 := hid S1
    clear S1 bb hb HC
    go_wp2
    go_roundw
    case rel => exact HS1.out
    case measure => simp [intOf]; omega
  ·have F : AnsIxRule w f xs (.returned (.int .i64 (-1))) wr := ⟨-1, rfl, by omega, by omega, (none_of (fun j hj => HLOW.out j (by rw [HL.out] at hj; omega))).symm, hb⟩
   have HF := hid F
   clear F hb
   go_wp2
   go_ret
   exact HF.out
theorem containsFuncRule (g : Nat) (fa lb : Array Value) (eg : ∀ args w, (callFunc g args).run Try.prog w = .ok (.enter g args) w) (f : Dat sRule → Bool) (A : Option Addr) (n c : Nat) (xs : List (Dat sRule)) (w : World) (hT : TestsRule g fa lb w xs f)
  (h : Rd w w.heap.size sRuleS [.slice A n c] xs) (hl : xs.length = n) (hn : n ≤ 1048576) :
  Calls Try.prog 129 #[.slice A n c, .func (.func g) fa lb] w (AnsB w (xs.any f)) := by
 have L := hid (indexFuncRule g fa lb eg f A n c xs w hT h hl hn)
 clear h hl hT
 go_enter Try.func129, Try.ntmps129
 go_wp2_with fail
 refine L.out.mono ?_
 rintro e w' ⟨z, rfl, h1, h2, hz, bb⟩
 have HZ := hid hz
 have HB := hid bb
 clear hz L bb
 go_wp2
 go_ret
 exact ⟨by rw [← HZ.out]; rfl, HB.out⟩
end anyR
end
section
open Go.Lib (hid)
namespace ruleImpl
open Go.RowKit base ints sig term termOk marks app sym segs termFacts varsMath varsOf rename same count linear shape kindsR ruleMath ruleSpec anyR
set_option maxRecDepth 100000
theorem containsI (A : Option Addr) (n c : Nat) (xs : List Int) (x : Int) (w : World) (h : Seg w w.heap.size A n xs) (hn : n ≤ 1048576) :
  Calls Try.prog 152 #[.slice A n c, .int .i64 x] w fun e w' => w = w' ∧ e = .returned (.bool (decide (x ∈ xs))) := by
 have L := hid (indexOf A n c xs x w h hn)
 clear h
 go_enter Try.func152, Try.ntmps152
 go_wp2_with fail
 refine L.out.mono ?_
 rintro e w' ⟨rfl, rfl⟩
 have E : decide (0 ≤ indexI xs x) = decide (x ∈ xs) := decide_eq_decide.2 (by unfold indexI; split <;> simp_all)
 have HE := hid E
 clear L E
 generalize indexI xs x = z at *
 go_wp2
 go_ret
 exact ⟨rfl, by rw [← HE.out]; rfl⟩
set_option maxHeartbeats 1000000 in
theorem ruleNew (g : Nat) (A1 : Option Addr) (n1 c1 : Nat) (r : Value) (t : List Int) (x : Int) (W : World) (hr : Row W g 85 #[.slice A1 n1 c1, r]) (h : Seg W W.heap.size A1 n1 t) (hn : n1 ≤ 1048576) :
  Calls Try.prog 151 #[.int .i64 x, .pointer (some ⟨g, 0, none⟩)] W (AnsB W (newB t x)) := by
 have L := hid (containsI A1 n1 c1 t x W h hn)
 have c0 : W.cell? ⟨g, 0, none⟩ = some (.slice A1 n1 c1) := hr.cell 0
 clear h hr
 by_cases hx : x < 0
 ·have hd : decide (x < 0) = true := decide_eq_true hx
  have E : (!decide (x ∈ t)) = newB t x := by unfold newB; by_cases h : x ∈ t <;> simp [h, hx]
  have HE := hid E
  clear E
  go_enter Try.func151, Try.ntmps151
  go_wp2_with fail
  refine L.out.mono ?_
  rintro e w' ⟨rfl, rfl⟩
  have F : AnsB W (newB t x) (.returned (.bool (!decide (x ∈ t)))) W := ⟨by rw [HE.out], Below.refl _ _⟩
  have HF := hid F
  clear L F
  generalize decide (x ∈ t) = z at *
  go_wp2
  go_ret
  exact HF.out
 ·have hd : decide (x < 0) = false := decide_eq_false hx
  have F : AnsB W (newB t x) (.returned (.bool false)) W := ⟨by unfold newB; rw [decide_eq_false (fun h => hx h.1)], Below.refl _ _⟩
  have HF := hid F
  clear F L
  go_enter Try.func151, Try.ntmps151
  go_wp2
  go_ret
  exact HF.out
theorem rule_all {sg : List Int} {d : Rl} (h1 : termOkB sg d.1 = true) (h2 : termOkB sg d.2 = true) (h0 : ¬ hd d.1 < 0) : ruleOkB sg d = !d.2.any (newB d.1) := by
 unfold ruleOkB; rw [h1, h2, decide_eq_false h0]; rfl
set_option maxHeartbeats 4000000 in
theorem implRuleOk (a l r : Value) (sg : List Int) (d : Dat sRule) (w : World) (h : Rd w w.heap.size sI [a] sg) (h' : Rd w w.heap.size sRule [l, r] d) (hz : sz sI sg ≤ 1048576) (hz' : sz sRule d ≤ 1048576) :
  Calls Try.prog 128 #[.agg #[a], .agg #[l, r]] w (AnsB w (ruleOkB sg d)) := by
 have g1 := (parts_Rule h').2
 obtain ⟨A, n, c, rfl, hs, hc⟩ := rd_ints.1 h
 have hn := len_ints hs.1 hz
 obtain ⟨A1, n1, c1, A2, n2, c2, rfl, rfl, s1, k1, s2, k2, hn1, hn2⟩ := rd_rule h' hz'
 obtain ⟨W, hW, rA, rR, bel⟩ := box2 w 29 85 #[.slice A n c] #[.slice A1 n1 c1, .slice A2 n2 c2]
 have HW := hid hW
 have HL1 := hid s1.1
 have HL2 := hid s2.1
 have L1 := hid (implTermOk A A1 n c n1 c1 sg d.1 W (hs.next bel) (s1.next bel) hn hn1)
 have L2 := hid (fun (w1 : World) (bb : Below w.heap.size w w1) => implTermOk A A2 n c n2 c2 sg d.2 w1 (hs.next bb) (s2.next bb) hn hn2)
 have LC := hid (fun (w1 : World) (bb : Below w.heap.size w w1) (hr : Row w1 (w.heap.size + 1) 85 #[.slice A1 n1 c1, .slice A2 n2 c2]) => containsFuncI 151 #[] #[.pointer (some ⟨w.heap.size + 1, 0, none⟩)] (fun _ _ => rfl) (newB d.1) A2 n2 c2 d.2 w1
  (fun W x hW _ => ruleNew (w.heap.size + 1) A1 n1 c1 (.slice A2 n2 c2) d.1 x W (hr.next hW) (s1.next (next_trans bb hW)) hn1) (g1.next bb) s2.1 hn2)
 clear hW h h' hz hz' hs hc k1 k2 g1
 cases ok1 : termOkB sg d.1 with
 | false =>
  have HS := hid ok1
  clear ok1 s1 s2
  go_enter Try.func128, Try.ntmps128
  go_wp2_with fail
  rw [← HW.out]
  refine L1.out.mono ?_
  rintro e w1 ⟨he, bb⟩
  rw [HS.out] at he
  subst he
  have F := hid (ansB (b := ruleOkB sg d) (a := false) (by rw [rule_noL HS.out]) (next_trans bel bb))
  clear bb bel rA rR
  go_wp2
  go_ret
  exact F.out
 | true =>
  have hp1 := (term_len ok1).1
  rw [s1.1] at hp1
  obtain ⟨b, off, x, rfl, hbB, hx, ex⟩ := s1.spot (k := 0) (by omega)
  have HS := hid ok1
  have EX := hid (show hd d.1 = x from ex.out)
  have i0 : (0 : Int) < (n1 : Int) := by omega
  clear ok1 ex
  go_enter Try.func128, Try.ntmps128
  go_wp2_with fail
  rw [← HW.out]
  refine L1.out.mono ?_
  rintro e w1 ⟨he, bb⟩
  rw [HS.out] at he
  subst he
  replace rA := rA.next bb
  replace rR := rR.next bb
  replace bel := next_trans bel bb
  have cA : w1.cell? ⟨w.heap.size, 0, none⟩ = some (.slice A n c) := rA.cell 0
  have cR : w1.cell? ⟨w.heap.size + 1, 1, none⟩ = some (.slice A2 n2 c2) := rR.cell 1
  clear bb L1
  go_wp2_with fail
  refine (L2.out w1 bel).mono ?_
  cases ok2 : termOkB sg d.2 with
  | false =>
   have HS2 := hid ok2
   clear ok2
   rintro e w2 ⟨he, bb⟩
   rw [HS2.out] at he
   subst he
   have F := hid (ansB (b := ruleOkB sg d) (a := false) (by rw [rule_noR HS2.out]) (next_trans bel bb))
   clear bb bel rA rR cA cR s1 s2
   go_wp2
   go_ret
   exact F.out
  | true =>
   have HS2 := hid ok2
   clear ok2
   rintro e w2 ⟨he, bb⟩
   rw [HS2.out] at he
   subst he
   replace rR := rR.next bb
   replace bel := next_trans bel bb
   have cR0 : w2.cell? ⟨w.heap.size + 1, 0, none⟩ = some (.slice (some ⟨b, off, none⟩) n1 c1) := rR.cell 0
   have cX : w2.cell? ⟨b, off, none⟩ = some (.int .i64 x) := by have := (bel.cell (p := ⟨b, off + 0, none⟩) hbB).trans hx; simpa using this
   clear bb rA cA cR L2
   by_cases hneg : x < 0
   ·have F := hid (ansB (b := ruleOkB sg d) (a := false) (by rw [rule_var (by rw [EX.out]; exact hneg)]) bel)
    have hdx : decide (x < 0) = true := decide_eq_true hneg
    clear bel rR s1 s2 LC
    go_wp2
    go_ret
    exact F.out
   ·have hdx : decide (x < 0) = false := decide_eq_false hneg
    have cR1 : w2.cell? ⟨w.heap.size + 1, 1, none⟩ = some (.slice A2 n2 c2) := rR.cell 1
    have LC2 := hid (LC.out w2 bel rR)
    have hmf : ∀ (fn : Fn) (first cap : Array Value) (w : World), (Instr.makeFunc fn first cap).run Try.prog w = .ok (.func fn first cap) w := fun _ _ _ _ => rfl
    have E := hid (rule_all HS.out HS2.out (by rw [EX.out]; exact hneg))
    clear LC s1 s2
    go_wp2_with fail
    refine LC2.out.mono ?_
    obtain ⟨z, hzz⟩ : ∃ z, d.2.any (newB d.1) = z := ⟨_, rfl⟩
    rw [hzz] at E
    rintro e w3 ⟨he, bb⟩
    rw [hzz] at he
    subst he
    have F := hid (ansB (b := ruleOkB sg d) (a := !z) E.out.symm (next_trans bel bb))
    clear bb bel rR cR0 cR1 cX LC2 E hzz
    go_wp2
    go_ret
    exact F.out
end ruleImpl
end
section
open Go.Lib (hid)
namespace ruleImpl
open Go.RowKit base ints sig term termOk marks app sym segs termFacts varsMath varsOf rename same count linear shape kindsR ruleMath ruleSpec anyR
set_option maxRecDepth 100000
def sysV (a v : Value) (ok : Bool) : Value := if ok = true then .agg #[a, v] else .agg #[.slice none 0 0, .slice none 0 0]
def AnsSys (w : World) (a v : Value) (ok : Bool) (e : Ending) (w' : World) : Prop := e = .returned (.tuple #[sysV a v ok, .bool ok]) ∧ Below w.heap.size w w'
def HeadSO (w : World) (T T' : TypeId) (cs cs' : Array Value) (n : Nat) (f : Rl → Bool) (rs : List Rl) (i : Value) (wr : World) : Prop :=
 ∃ k : Nat, k ≤ n ∧ i = .int .i64 k ∧ (∀ j, j < k → f (rs.getD j ([], [])) = true) ∧ Row wr w.heap.size T cs ∧ Row wr (w.heap.size + 1) T' cs' ∧ Below w.heap.size w wr
theorem headSO_step {w wr : World} {T T' : TypeId} {cs cs' : Array Value} {n k : Nat} {f : Rl → Bool} {rs : List Rl} {x : Rl} (hk : k < n) (hlow : ∀ j, j < k → f (rs.getD j ([], [])) = true) (ex : Hid (rs.getD k ([], []) = x)) (h : f x = true) (hr : Row wr w.heap.size T cs) (hr' : Row wr (w.heap.size + 1) T' cs') (hb : Below w.heap.size w wr) : HeadSO w T T' cs cs' n f rs (.int .i64 ((k : Int) + 1)) wr :=
 ⟨k + 1, hk, by simp, fun j hj => by
  by_cases e : j = k
  ·subst e; rw [ex.out]; exact h
  ·exact hlow j (by omega), hr, hr', hb⟩
set_option maxHeartbeats 8000000 in
theorem systemOf (a v : Value) (d : Dat sSystem) (w : World) (h : Rd w w.heap.size sSystem [a, v] d) (hz : sz sSystem d ≤ 1048576) :
  Calls Try.prog 96 #[.agg #[a, v]] w (AnsSys w a v (sysOkB d.1 d.2)) := by
 have hzs := hid (sys_szs hz)
 obtain ⟨A, n, c, V, m, cv, rfl, rfl, hs, hc, hcv, hm, hn, hm1, hrs, hsg, hE⟩ := rd_sys h hz
 obtain ⟨W, hW, rA, rR, bel⟩ := box2 w 51 114 #[.slice A n c, .slice V m cv] #[.slice none 0 0, .slice none 0 0]
 have HW := hid hW
 have HM := hid hm
 have HE := hid hE
 have HR := hid hrs
 have L1 := hid (implSigOk A n c d.1 W (hs.next bel) hn)
 have LR := hid (fun (w1 : World) (l r : Value) (x : Dat sRule) (bb : Below w.heap.size w w1) (hx : Rd w1 w1.heap.size sRule [l, r] x) (hzx : sz sRule x ≤ 1048576) => implRuleOk (.slice A n c) l r d.1 x w1 (hsg.next bb) hx hzs.out.1 hzx)
 clear hW h hz hs hc hcv hm hE hrs hsg
 cases ok1 : sigOkB d.1 with
 | false =>
  have HS := hid ok1
  clear ok1
  go_enter Try.func96, Try.ntmps96
  go_wp2_with fail
  rw [← HW.out]
  refine L1.out.mono ?_
  rintro e w1 ⟨he, bb⟩
  rw [HS.out] at he
  subst he
  replace rR := rR.next bb
  replace bel := next_trans bel bb
  have y0 : w1.cell? ⟨w.heap.size + 1, 0, none⟩ = some (.slice none 0 0) := rR.cell 0
  have y1 : w1.cell? ⟨w.heap.size + 1, 1, none⟩ = some (.slice none 0 0) := rR.cell 1
  have f0 := rR.free 0
  have f1 := rR.free 1
  have r1 := rR.put 0 (.slice none 0 0)
  have y2 : (w1.setCell ⟨w.heap.size + 1, 0, none⟩ (.slice none 0 0)).cell? ⟨w.heap.size + 1, 1, none⟩ = some (.slice none 0 0) := r1.cell 1
  have f2 := r1.free 1
  have r2 := r1.put 1 (.slice none 0 0)
  have u0 : ((w1.setCell ⟨w.heap.size + 1, 0, none⟩ (.slice none 0 0)).setCell ⟨w.heap.size + 1, 1, none⟩ (.slice none 0 0)).cell? ⟨w.heap.size + 1, 0, none⟩ = some (.slice none 0 0) := r2.cell 0
  have u1 : ((w1.setCell ⟨w.heap.size + 1, 0, none⟩ (.slice none 0 0)).setCell ⟨w.heap.size + 1, 1, none⟩ (.slice none 0 0)).cell? ⟨w.heap.size + 1, 1, none⟩ = some (.slice none 0 0) := r2.cell 1
  have F : AnsSys w (.slice A n c) (.slice V m cv) (sysOkB d.1 d.2) (.returned (.tuple #[.agg #[.slice none 0 0, .slice none 0 0], .bool false])) ((w1.setCell ⟨w.heap.size + 1, 0, none⟩ (.slice none 0 0)).setCell ⟨w.heap.size + 1, 1, none⟩ (.slice none 0 0)) :=
   ⟨by rw [sys_sig HS.out]; rfl, (bel.setCell (by simp) _).setCell (by simp) _⟩
  have HF := hid F
  clear F bel rA rR bb r1 r2 LR
  go_wp2
  exact bodyPost_ret (v := .tuple #[.agg #[.slice none 0 0, .slice none 0 0], .bool false]) (by simp [results, Try.results96, go_sem, u0, u1]) rfl HF.out
 | true =>
  have HS := hid ok1
  clear ok1
  go_enter Try.func96, Try.ntmps96
  go_wp2_with fail
  rw [← HW.out]
  refine L1.out.mono ?_
  rintro e w1 ⟨he, bb⟩
  rw [HS.out] at he
  subst he
  replace rA := rA.next bb
  replace rR := rR.next bb
  replace bel := next_trans bel bb
  have cR : w1.cell? ⟨w.heap.size, 1, none⟩ = some (.slice V m cv) := rA.cell 1
  clear bb L1
  by_cases h12 : m ≤ 12
  ·have H0 : Hid (HeadSO w 51 114 #[.slice A n c, .slice V m cv] #[.slice none 0 0, .slice none 0 0] m (ruleOkB d.1) d.2 (.int .i64 0) w1) := hid ⟨0, Nat.zero_le _, rfl, fun j hj => absurd hj (Nat.not_lt_zero _), rA, rR, bel⟩
   clear rA rR bel
   go_wp2_with fail
   go_loopw [20] (fun i wr => HeadSO w 51 114 #[.slice A n c, .slice V m cv] #[.slice none 0 0, .slice none 0 0] m (ruleOkB d.1) d.2 i wr) (fun i _ => m - (intOf i).toNat)
   case atStart => exact H0.out
   case round =>
    obtain ⟨k, hk, rfl, hlow, rr, rs, hb⟩ := hrel
    have HLOW := hid hlow
    clear hlow H0 cR
    have cA0 : wr.cell? ⟨w.heap.size, 0, none⟩ = some (.slice A n c) := rr.cell 0
    have cA1 : wr.cell? ⟨w.heap.size, 1, none⟩ = some (.slice V m cv) := rr.cell 1
    by_cases hlt : k < m
    ·obtain ⟨b, off, l, r, x, rfl, hbB, ex, hc0, hc1, hx⟩ := rd_at HR.out hb HM.out hlt
     have hzx : sz sRule x ≤ 1048576 := by have := HE.out k hlt; rw [ex.out] at this; exact this
     obtain ⟨A1, n1, c1, A2, n2, c2, rfl, rfl, s1, k1, s2, k2, hn1, hn2⟩ := rd_rule hx hzx
     obtain ⟨w2, hw2⟩ : ∃ x, x = wr.alloc (.cells #[.slice A1 n1 c1, .slice A2 n2 c2] 85) := ⟨_, rfl⟩
     have bb : Below wr.heap.size wr w2 := by rw [hw2]; exact (Below.refl _ _).alloc (Nat.le_refl _) _
     have rx : Row w2 wr.heap.size 85 #[.slice A1 n1 c1, .slice A2 n2 c2] := by rw [hw2]; exact Row.new wr 85 #[.slice A1 n1 c1, .slice A2 n2 c2]
     have rr2 := rr.next bb
     have rs2 := rs.next bb
     have hb2 := next_trans hb bb
     have L := hid (LR.out w2 (.slice A1 n1 c1) (.slice A2 n2 c2) x hb2 ((hx.more hb.size).next bb) hzx)
     have x0 : w2.cell? ⟨wr.heap.size, 0, none⟩ = some (.slice A1 n1 c1) := rx.cell 0
     have x1 : w2.cell? ⟨wr.heap.size, 1, none⟩ = some (.slice A2 n2 c2) := rx.cell 1
     have x2 : w2.cell? ⟨w.heap.size, 0, none⟩ = some (.slice A n c) := rr2.cell 0
     have X0 := x0
     have X1 := x1
     have X2 := x2
     rw [hw2] at X0 X1 X2
     have HW2 := hid hw2
     have i0 : (0 : Int) ≤ (k : Int) := by omega
     have i1 : (k : Int) < (m : Int) := by omega
     clear hx hzx s1 s2 k1 k2 rr rs hb bb rx hw2
     go_wp2_with fail
     rw [← HW2.out]
     refine L.out.mono ?_
     cases ok : ruleOkB d.1 x with
     | false =>
      have HO := hid ok
      clear ok
      rintro e w3 ⟨he, bb⟩
      subst he
      have rR := rs2.next bb
      have bel := next_trans hb2 bb
      have y0 : w3.cell? ⟨w.heap.size + 1, 0, none⟩ = some (.slice none 0 0) := rR.cell 0
      have y1 : w3.cell? ⟨w.heap.size + 1, 1, none⟩ = some (.slice none 0 0) := rR.cell 1
      have f0 := rR.free 0
      have f1 := rR.free 1
      have r1 := rR.put 0 (.slice none 0 0)
      have y2 : (w3.setCell ⟨w.heap.size + 1, 0, none⟩ (.slice none 0 0)).cell? ⟨w.heap.size + 1, 1, none⟩ = some (.slice none 0 0) := r1.cell 1
      have f2 := r1.free 1
      have r2 := r1.put 1 (.slice none 0 0)
      have u0 : ((w3.setCell ⟨w.heap.size + 1, 0, none⟩ (.slice none 0 0)).setCell ⟨w.heap.size + 1, 1, none⟩ (.slice none 0 0)).cell? ⟨w.heap.size + 1, 0, none⟩ = some (.slice none 0 0) := r2.cell 0
      have u1 : ((w3.setCell ⟨w.heap.size + 1, 0, none⟩ (.slice none 0 0)).setCell ⟨w.heap.size + 1, 1, none⟩ (.slice none 0 0)).cell? ⟨w.heap.size + 1, 1, none⟩ = some (.slice none 0 0) := r2.cell 1
      have F : AnsSys w (.slice A n c) (.slice (some ⟨b, off, none⟩) m cv) (sysOkB d.1 d.2) (.returned (.tuple #[.agg #[.slice none 0 0, .slice none 0 0], .bool false])) ((w3.setCell ⟨w.heap.size + 1, 0, none⟩ (.slice none 0 0)).setCell ⟨w.heap.size + 1, 1, none⟩ (.slice none 0 0)) :=
       ⟨by rw [sys_bad (k := k) (by rw [HM.out]; exact hlt) (by rw [ex.out]; exact HO.out)]; rfl, (bel.setCell (by simp) _).setCell (by simp) _⟩
      have HF := hid F
      clear F bel rR bb r1 r2 LR rr2 rs2 hb2 x0 x1 x2 X0 X1 X2 cA0 cA1 hc0 hc1 L
      go_wp2
      exact bodyPost_ret (v := .tuple #[.agg #[.slice none 0 0, .slice none 0 0], .bool false]) (by simp [results, Try.results96, go_sem, u0, u1]) rfl HF.out
     | true =>
      have HO := hid ok
      clear ok
      rintro e w3 ⟨he, bb⟩
      subst he
      have F := hid (headSO_step (f := ruleOkB d.1) (w := w) hlt HLOW.out ex HO.out (rr2.next bb) (rs2.next bb) (next_trans hb2 bb))
      clear bb rr2 rs2 hb2 L x0 x1 x2 X0 X1 X2 cA0 cA1 hc0 hc1
      go_wp2
      go_roundw
      case rel => exact F.out
      case measure => simp [intOf]; omega
    ·have OK := hid (show sysOkB d.1 d.2 = true from sys_good HS.out (by rw [HM.out]; exact h12) (fun j hj => HLOW.out j (by rw [HM.out] at hj; omega)))
     have y0 : wr.cell? ⟨w.heap.size + 1, 0, none⟩ = some (.slice none 0 0) := rs.cell 0
     have f0 := rs.free 0
     have r1 := rs.put 0 (.slice A n c)
     have y2 : (wr.setCell ⟨w.heap.size + 1, 0, none⟩ (.slice A n c)).cell? ⟨w.heap.size + 1, 1, none⟩ = some (.slice none 0 0) := r1.cell 1
     have f2 := r1.free 1
     have r2 := r1.put 1 (.slice V m cv)
     have u0 : ((wr.setCell ⟨w.heap.size + 1, 0, none⟩ (.slice A n c)).setCell ⟨w.heap.size + 1, 1, none⟩ (.slice V m cv)).cell? ⟨w.heap.size + 1, 0, none⟩ = some (.slice A n c) := r2.cell 0
     have u1 : ((wr.setCell ⟨w.heap.size + 1, 0, none⟩ (.slice A n c)).setCell ⟨w.heap.size + 1, 1, none⟩ (.slice V m cv)).cell? ⟨w.heap.size + 1, 1, none⟩ = some (.slice V m cv) := r2.cell 1
     have F : AnsSys w (.slice A n c) (.slice V m cv) (sysOkB d.1 d.2) (.returned (.tuple #[.agg #[.slice A n c, .slice V m cv], .bool true])) ((wr.setCell ⟨w.heap.size + 1, 0, none⟩ (.slice A n c)).setCell ⟨w.heap.size + 1, 1, none⟩ (.slice V m cv)) :=
      ⟨by rw [OK.out]; rfl, (hb.setCell (by simp) _).setCell (by simp) _⟩
     have HF := hid F
     clear F hb rr rs r1 r2 LR
     go_wp2
     exact bodyPost_ret (v := .tuple #[.agg #[.slice A n c, .slice V m cv], .bool true]) (by simp [results, Try.results96, go_sem, u0, u1]) rfl HF.out
  ·have i1 : (12 : Int) < (m : Int) := by omega
   have y0 : w1.cell? ⟨w.heap.size + 1, 0, none⟩ = some (.slice none 0 0) := rR.cell 0
   have y1 : w1.cell? ⟨w.heap.size + 1, 1, none⟩ = some (.slice none 0 0) := rR.cell 1
   have f0 := rR.free 0
   have f1 := rR.free 1
   have r1 := rR.put 0 (.slice none 0 0)
   have y2 : (w1.setCell ⟨w.heap.size + 1, 0, none⟩ (.slice none 0 0)).cell? ⟨w.heap.size + 1, 1, none⟩ = some (.slice none 0 0) := r1.cell 1
   have f2 := r1.free 1
   have r2 := r1.put 1 (.slice none 0 0)
   have u0 : ((w1.setCell ⟨w.heap.size + 1, 0, none⟩ (.slice none 0 0)).setCell ⟨w.heap.size + 1, 1, none⟩ (.slice none 0 0)).cell? ⟨w.heap.size + 1, 0, none⟩ = some (.slice none 0 0) := r2.cell 0
   have u1 : ((w1.setCell ⟨w.heap.size + 1, 0, none⟩ (.slice none 0 0)).setCell ⟨w.heap.size + 1, 1, none⟩ (.slice none 0 0)).cell? ⟨w.heap.size + 1, 1, none⟩ = some (.slice none 0 0) := r2.cell 1
   have F : AnsSys w (.slice A n c) (.slice V m cv) (sysOkB d.1 d.2) (.returned (.tuple #[.agg #[.slice none 0 0, .slice none 0 0], .bool false])) ((w1.setCell ⟨w.heap.size + 1, 0, none⟩ (.slice none 0 0)).setCell ⟨w.heap.size + 1, 1, none⟩ (.slice none 0 0)) :=
    ⟨by rw [sys_long HM.out h12]; rfl, (bel.setCell (by simp) _).setCell (by simp) _⟩
   have HF := hid F
   clear F bel rA rR r1 r2 LR
   go_wp2
   exact bodyPost_ret (v := .tuple #[.agg #[.slice none 0 0, .slice none 0 0], .bool false]) (by simp [results, Try.results96, go_sem, u0, u1]) rfl HF.out
end ruleImpl
end
section
open Go.Lib (hid)
namespace ruleImpl
open Go.RowKit base ints sig term termOk marks app appAt sym segs termFacts varsMath varsOf rename same count linear shape kindsR ruleMath ruleSpec anyR
set_option maxRecDepth 100000
theorem sz_mem {rs : List Rl} {x : Rl} (h : sz sRuleS rs ≤ 1048576) (hx : x ∈ rs) : sz sRule x ≤ 1048576 := by
 obtain ⟨i, hi, rfl⟩ := List.getElem_of_mem hx
 have := sz_each h hi
 have e : rs.getD i (dft sRule) = rs[i] := by simp [List.getD, hi]
 rw [e] at this; exact this
theorem tests_next {g : Nat} {fa lb : Array Value} {w w' : World} {rs : List Rl} {f : Rl → Bool} (h : TestsRule g fa lb w rs f) (hb : Below w.heap.size w w') : TestsRule g fa lb w' rs f := fun W l r x hW hx hr => h W l r x (next_trans hb hW) hx hr
theorem makeFn : ∀ (fn : Fn) (first cap : Array Value) (w : World), (Instr.makeFunc fn first cap).run Try.prog w = .ok (.func fn first cap) w := fun _ _ _ _ => rfl
set_option maxHeartbeats 2000000 in
theorem some_ (g : Nat) (fa lb : Array Value) (eg : ∀ args w, (callFunc g args).run Try.prog w = .ok (.enter g args) w) (f : Rl → Bool) (a v : Value) (d : Dat sSystem) (w : World) (hT : TestsRule g fa lb w d.2 f) (h : Rd w w.heap.size sSystem [a, v] d) (hz : sz sSystem d ≤ 1048576) :
  Calls Try.prog 97 #[.agg #[a, v], .func (.func g) fa lb] w (AnsB w (d.2.any f)) := by
 have hv := (parts_System h).2
 obtain ⟨A, n, c, V, m, cv, rfl, rfl, hs, hc, hcv, hm, hn, hm1, hrs, hsg, hE⟩ := rd_sys h hz
 obtain ⟨W, hW, rA, bel⟩ := box1 w 114 #[.slice A n c, .slice V m cv]
 have HW := hid hW
 have L := hid (containsFuncRule g fa lb eg f V m cv d.2 W (tests_next hT bel) (hv.next bel) hm hm1)
 clear hW h hz hT hs hc hcv hm hrs hsg hE hv
 go_enter Try.func97, Try.ntmps97
 go_wp2_with fail
 rw [← HW.out]
 refine L.out.mono ?_
 rintro e w1 ⟨rfl, bb⟩
 have F := hid (next_trans bel bb)
 clear bel bb rA L
 generalize List.any d.2 f = z at *
 go_wp2
 go_ret
 exact ⟨rfl, F.out⟩
set_option maxHeartbeats 1000000 in
theorem headIs (g : Nat) (l r : Value) (x : Rl) (y : Int) (W : World) (hr : Row W g 2 #[.int .i64 y]) (h : Rd W W.heap.size sRule [l, r] x) (hz : sz sRule x ≤ 1048576) (h1 : 1 ≤ x.1.length) :
  Calls Try.prog 163 #[.agg #[l, r], .pointer (some ⟨g, 0, none⟩)] W (AnsB W (decide (hd x.1 = y))) := by
 obtain ⟨A1, n1, c1, A2, n2, c2, rfl, rfl, s1, k1, s2, k2, hn1, hn2⟩ := rd_rule h hz
 rw [s1.1] at h1
 obtain ⟨b, off, p, rfl, hbB, hp, ep⟩ := s1.spot (k := 0) (by omega)
 obtain ⟨W1, hW, rA, bel⟩ := box1 W 85 #[.slice (some ⟨b, off, none⟩) n1 c1, .slice A2 n2 c2]
 have hg := (hr.next bel)
 have hp1 : W1.cell? ⟨b, off, none⟩ = some (.int .i64 p) := by have := (bel.cell (p := ⟨b, off + 0, none⟩) hbB).trans hp; simpa using this
 have cg : W1.cell? ⟨g, 0, none⟩ = some (.int .i64 y) := hg.cell 0
 have cr : W1.cell? ⟨W.heap.size, 0, none⟩ = some (.slice (some ⟨b, off, none⟩) n1 c1) := rA.cell 0
 have E := hid (show decide (hd x.1 = y) = (p == y) by unfold hd; rw [ep.out]; by_cases h : p = y <;> simp [h])
 have i0 : (0 : Int) < (n1 : Int) := by omega
 have hq1 := hp1
 have cg1 := cg
 have cr1 := cr
 rw [hW] at hq1 cg1 cr1
 have HB := hid bel
 have HW := hid hW
 clear h hz s1 s2 k1 k2 hr hg rA bel ep hp hW hp1 cg cr
 go_enter Try.func163, Try.ntmps163
 go_wp2_with fail
 go_quiet (fail)
 rw [← HW.out]
 generalize (p == y) = z at *
 go_wp2
 go_ret
 exact ⟨by rw [E.out]; rfl, by have := below_drewN HB.out 0; first | exact below_drewN HB.out _ | exact HB.out⟩
set_option maxHeartbeats 2000000 in
theorem defines_ (a v : Value) (d : Dat sSystem) (y : Int) (w : World) (h : Rd w w.heap.size sSystem [a, v] d) (hz : sz sSystem d ≤ 1048576) (hL : ∀ x ∈ d.2, 1 ≤ x.1.length) :
  Calls Try.prog 136 #[.agg #[a, v], .int .i64 y] w (AnsB w (isDef d.2 y)) := by
 have hzr := (sys_szs hz).2
 obtain ⟨W, hW, rA, rB, bel⟩ := box2 w 114 2 #[a, v] #[.int .i64 y]
 have HW := hid hW
 have L := hid (some_ 163 #[] #[.pointer (some ⟨w.heap.size + 1, 0, none⟩)] (fun _ _ => rfl) (fun x => decide (hd x.1 = y)) a v d W
  (fun W' l r x hW' hx hr => headIs (w.heap.size + 1) l r x y W' (rB.next hW') hr (sz_mem hzr hx) (hL x hx)) (h.next bel) hz)
 have hmf := makeFn
 clear hW h hz hL hzr rB rA
 go_enter Try.func136, Try.ntmps136
 go_wp2_with fail
 rw [← HW.out]
 refine L.out.mono ?_
 rintro e w1 ⟨rfl, bb⟩
 have F : AnsB w (isDef d.2 y) (.returned (.bool (isDef d.2 y))) w1 := ⟨rfl, next_trans bel bb⟩
 have HF := hid F
 clear bel bb L F
 have e1 : (List.any d.2 fun x => decide (hd x.1 = y)) = isDef d.2 y := rfl
 rw [e1]
 clear e1
 generalize isDef d.2 y = z at *
 go_wp2
 go_ret
 exact HF.out
end ruleImpl
end
section
open Go.Lib (hid)
namespace ruleImpl
open Go.RowKit base ints sig term termOk marks app appAt sym segs termFacts varsMath varsOf rename same count linear shape kindsR ruleMath ruleSpec anyR
set_option maxRecDepth 100000
set_option maxHeartbeats 4000000 in
theorem nests_ (a v l r : Value) (d : Dat sSystem) (x : Dat sRule) (w : World) (h : Rd w w.heap.size sSystem [a, v] d) (hz : sz sSystem d ≤ 1048576) (hL : ∀ x ∈ d.2, 1 ≤ x.1.length) (h' : Rd w w.heap.size sRule [l, r] x) (hz' : sz sRule x ≤ 1048576) (h1 : 1 ≤ x.1.length) :
  Calls Try.prog 104 #[.agg #[a, v], .agg #[l, r]] w (AnsB w (nestB d.2 x)) := by
 obtain ⟨A1, n1, c1, A2, n2, c2, rfl, rfl, s1, k1, s2, k2, hn1, hn2⟩ := rd_rule h' hz'
 have hl1 := s1.1
 have h2 := h1
 rw [hl1] at h2
 obtain ⟨b, off, p, rfl, hbB, hp, ep⟩ := s1.spot (k := 0) (by omega)
 obtain ⟨W, hW, rA, rB, bel⟩ := box2 w 114 85 #[a, v] #[.slice (some ⟨b, off, none⟩) n1 c1, .slice A2 n2 c2]
 have cut := Seg.post s1 (k := 1) (by omega)
 have hll : (x.1.drop 1).length = n1 - 1 := by rw [List.length_drop, hl1]
 have HW := hid hW
 have i1 : (1 : Int) ≤ (n1 : Int) := by omega
 have i2 : (n1 : Int) ≤ (c1 : Int) := by have := k1.1; omega
 have i3 : (1 : Int) ≤ (c1 : Int) := by omega
 have d0 : W.drew.cell? ⟨w.heap.size, 0, none⟩ = some a := rA.cell 0
 have d1 : W.drew.cell? ⟨w.heap.size, 1, none⟩ = some v := rA.cell 1
 have d2 : W.drew.cell? ⟨w.heap.size + 1, 0, none⟩ = some (.slice (some ⟨b, off, none⟩) n1 c1) := rB.cell 0
 have lt0 : w.heap.size < W.drew.heap.size := rA.lt
 have lt1 : w.heap.size + 1 < W.drew.heap.size := rB.lt
 by_cases hc : c1 = 1
 ·have hn : n1 = 1 := by have := k1.1; omega
  subst hn hc
  clear cut
  have hrd : Rd w w.heap.size sI [.slice (some ⟨b, off, none⟩) 0 0] (x.1.drop 1) := rd_ints.2 ⟨_, _, _, rfl, ⟨hll, fun h => absurd h (by omega)⟩, by omega, by omega, fun e => by cases e⟩
  have L := hid (fun (w1 : World) (bb : Below w.heap.size w w1) => containsFuncI 136 #[.agg #[a, v]] #[] (fun _ _ => rfl) (isDef d.2) (some ⟨b, off, none⟩) (0) (0) (x.1.drop 1) w1
   (fun W' y hW' _ => defines_ a v d y W' (h.next (next_trans bb hW')) hz hL) (hrd.next bb) hll (by omega))
  have hmf := makeFn
  have HB := hid bel.drew
  have HN := hid (show (List.drop 1 x.1).any (isDef d.2) = nestB d.2 x from rfl)
  clear hW h hz hL h' hz' s1 s2 k1 k2 bel hrd hll ep hp hl1 h1 rA rB
  go_enter Try.func104, Try.ntmps104
  go_wp2_with fail
  rw [← HW.out]
  go_region_held3 (fun w' => w'.cell? ⟨w.heap.size, 0, none⟩ = some a ∧ w'.cell? ⟨w.heap.size, 1, none⟩ = some v ∧ w'.cell? ⟨w.heap.size + 1, 0, none⟩ = some (.slice (some ⟨b, off, none⟩) 1 1))
   (go_keep)
   (first
    | (go_at_call 116; refine (L.out W.drew HB.out).mono ?_; rintro e w1 ⟨he, bb⟩; rw [HN.out] at he; subst he; have F := hid (next_trans HB.out bb); have e0 : w1.cell? ⟨w.heap.size, 0, none⟩ = some a := (bb.cell (p := ⟨w.heap.size, 0, none⟩) lt0).trans d0; have e1 : w1.cell? ⟨w.heap.size, 1, none⟩ = some v := (bb.cell (p := ⟨w.heap.size, 1, none⟩) lt0).trans d1; have e2 : w1.cell? ⟨w.heap.size + 1, 0, none⟩ = some (.slice (some ⟨b, off, none⟩) 1 1) := (bb.cell (p := ⟨w.heap.size + 1, 0, none⟩) lt1).trans d2; clear bb))
  clear L d0 d1 d2 e0 e1 e2
  generalize nestB d.2 x = z at *
  go_wp2
  go_ret
  exact ⟨rfl, F.out⟩
 ·have hrd : Rd w w.heap.size sI [.slice (some ⟨b, off + 1, none⟩) (n1 - 1) (c1 - 1)] (x.1.drop 1) := rd_ints.2 ⟨_, _, _, rfl, cut, by have := k1.1; omega, by have := k1.2.1; omega, fun e => by cases e⟩
  clear cut
  have L := hid (fun (w1 : World) (bb : Below w.heap.size w w1) => containsFuncI 136 #[.agg #[a, v]] #[] (fun _ _ => rfl) (isDef d.2) (some ⟨b, off + 1, none⟩) (n1 - 1) (c1 - 1) (x.1.drop 1) w1
   (fun W' y hW' _ => defines_ a v d y W' (h.next (next_trans bb hW')) hz hL) (hrd.next bb) hll (by omega))
  have hmf := makeFn
  have HB := hid bel.drew
  have HN := hid (show (List.drop 1 x.1).any (isDef d.2) = nestB d.2 x from rfl)
  clear hW h hz hL h' hz' s1 s2 k1 k2 bel hrd hll ep hp hl1 h1 rA rB
  go_enter Try.func104, Try.ntmps104
  go_wp2_with fail
  rw [← HW.out]
  go_region_held3 (fun w' => w'.cell? ⟨w.heap.size, 0, none⟩ = some a ∧ w'.cell? ⟨w.heap.size, 1, none⟩ = some v ∧ w'.cell? ⟨w.heap.size + 1, 0, none⟩ = some (.slice (some ⟨b, off, none⟩) n1 c1))
   (go_keep)
   (first
    | (go_at_call 116; refine (L.out W.drew HB.out).mono ?_; rintro e w1 ⟨he, bb⟩; rw [HN.out] at he; subst he; have F := hid (next_trans HB.out bb); have e0 : w1.cell? ⟨w.heap.size, 0, none⟩ = some a := (bb.cell (p := ⟨w.heap.size, 0, none⟩) lt0).trans d0; have e1 : w1.cell? ⟨w.heap.size, 1, none⟩ = some v := (bb.cell (p := ⟨w.heap.size, 1, none⟩) lt0).trans d1; have e2 : w1.cell? ⟨w.heap.size + 1, 0, none⟩ = some (.slice (some ⟨b, off, none⟩) n1 c1) := (bb.cell (p := ⟨w.heap.size + 1, 0, none⟩) lt1).trans d2; clear bb))
  clear L d0 d1 d2 e0 e1 e2
  generalize nestB d.2 x = z at *
  go_wp2
  go_ret
  exact ⟨rfl, F.out⟩
set_option maxHeartbeats 1000000 in
theorem collapses_ (l r : Value) (x : Dat sRule) (w : World) (h : Rd w w.heap.size sRule [l, r] x) (hz : sz sRule x ≤ 1048576) (h1 : 1 ≤ x.2.length) :
  Calls Try.prog 102 #[.agg #[l, r]] w (AnsB w (fallsB x)) := by
 obtain ⟨A1, n1, c1, A2, n2, c2, rfl, rfl, s1, k1, s2, k2, hn1, hn2⟩ := rd_rule h hz
 rw [s2.1] at h1
 obtain ⟨b, off, p, rfl, hbB, hp, ep⟩ := s2.spot (k := 0) (by omega)
 obtain ⟨W1, hW, rA, bel⟩ := box1 w 85 #[.slice A1 n1 c1, .slice (some ⟨b, off, none⟩) n2 c2]
 have hp1 : W1.cell? ⟨b, off, none⟩ = some (.int .i64 p) := by have := (bel.cell (p := ⟨b, off + 0, none⟩) hbB).trans hp; simpa using this
 have E := hid (show fallsB x = decide (p < 0) by unfold fallsB hd; rw [ep.out])
 have i0 : (0 : Int) < (n2 : Int) := by omega
 rw [hW] at hp1
 have HB := hid bel
 have HW := hid hW
 clear h hz s1 s2 k1 k2 rA bel ep hp hW
 go_enter Try.func102, Try.ntmps102
 go_wp2_with fail
 generalize decide (p < 0) = z at *
 go_wp2
 go_ret
 exact ⟨by rw [E.out]; rfl, by rw [← HW.out]; exact HB.out⟩
set_option maxHeartbeats 1000000 in
theorem repeats_ (a l r : Value) (sg : List Int) (x : Dat sRule) (w : World) (h0 : Rd w w.heap.size sI [a] sg) (hz0 : sz sI sg ≤ 1048576) (h : Rd w w.heap.size sRule [l, r] x) (hz : sz sRule x ≤ 1048576) :
  Calls Try.prog 101 #[.agg #[a], .agg #[l, r]] w (AnsB w (!linearB sg x.1)) := by
 obtain ⟨A, n, c, rfl, hs, hc⟩ := rd_ints.1 h0
 have hn := len_ints hs.1 hz0
 obtain ⟨A1, n1, c1, A2, n2, c2, rfl, rfl, s1, k1, s2, k2, hn1, hn2⟩ := rd_rule h hz
 obtain ⟨W, hW, rA, rB, bel⟩ := box2 w 29 85 #[.slice A n c] #[.slice A1 n1 c1, .slice A2 n2 c2]
 have L := hid (implLinearIn A A1 n c n1 c1 sg x.1 W (hs.next bel) (s1.next bel) hn hn1)
 have HW := hid hW
 clear h0 hz0 h hz hs hc s1 k1 s2 k2 hW
 go_enter Try.func101, Try.ntmps101
 go_wp2_with fail
 rw [← HW.out]
 refine L.out.mono ?_
 rintro e w1 ⟨rfl, bb⟩
 have F := hid (next_trans bel bb)
 clear bel bb rA rB L
 generalize linearB sg x.1 = z at *
 go_wp2
 go_ret
 exact ⟨rfl, F.out⟩
end ruleImpl
end
section
open Go.Lib (hid)
namespace ruleImpl
open Go.RowKit base ints sig term termOk marks app appAt sym segs termFacts varsMath varsOf rename same count linear shape kindsR ruleMath ruleSpec anyR
set_option maxRecDepth 100000
theorem boxN {w w1 : World} {T : TypeId} {cs : Array Value} (bel : Below w.heap.size w w1) : Row (w1.alloc (.cells cs T)) w1.heap.size T cs ∧ Below w.heap.size w (w1.alloc (.cells cs T)) ∧ Below w1.heap.size w1 (w1.alloc (.cells cs T)) :=
 ⟨Row.new _ _ _, bel.alloc bel.size _, (Below.refl _ _).alloc (Nat.le_refl _) _⟩
theorem any_congr {rs : List Rl} {f g : Rl → Bool} (h : ∀ x ∈ rs, f x = g x) : rs.any f = rs.any g := by
 induction rs with
 | nil => rfl
 | cons x rs ih => rw [List.any_cons, List.any_cons, h x (List.mem_cons_self ..), ih (fun y hy => h y (List.mem_cons_of_mem _ hy))]
theorem fin_LeftLinearIn_no {sg : List Int} {rs : List Rl} (h : sysOkB sg rs = false) : leftLinB sg rs = false := by unfold leftLinB; rw [h]; rfl
theorem fin_LeftLinearIn_yes {sg : List Int} {rs : List Rl} (h : sysOkB sg rs = true) : leftLinB sg rs = !rs.any (fun x => !linearB sg x.1) := by
 unfold leftLinB leftB; rw [h, Bool.true_and]; congr 1
 exact any_congr fun x hx => by unfold linearB; rw [(rule_parts ((sys_parts h).2.2 x hx)).1]; rfl
set_option maxHeartbeats 4000000 in
theorem implLeftLinearIn (a v : Value) (d : Dat sSystem) (w : World) (h : Rd w w.heap.size sSystem [a, v] d) (hz : sz sSystem d ≤ 1048576) :
  Calls Try.prog 59 #[.agg #[a, v]] w (AnsB w (leftLinB d.1 d.2)) := by
 have hzs := sys_szs hz
 have hsg := (parts_System h).1
 have SO := fun (w1 : World) (bb : Below w.heap.size w w1) => systemOf a v d w1 (h.next bb) hz
 have LT := fun (ok : sysOkB d.1 d.2 = true) (w1 : World) (bb : Below w.heap.size w w1) => some_ 101 #[.agg #[a]] #[] (fun _ _ => rfl) (fun x => !linearB d.1 x.1) a v d w1
  (fun W' l r (x : Rl) hW' hx hr => repeats_ a l r d.1 x W' (hsg.next (next_trans bb hW')) hzs.1 hr (sz_mem hzs.2 hx)) (h.next bb) hz
 obtain ⟨A, n, c, V, m, cv, rfl, rfl, -⟩ := rd_sys h hz
 obtain ⟨W, hW, rA, bel⟩ := box1 w 51 #[.slice A n c, .slice V m cv]
 have HW := hid hW
 have L := hid (SO W bel)
 have HLT := hid LT
 have hmf := makeFn
 clear hW h hz SO LT hzs hsg
 go_enter Try.func59, Try.ntmps59
 go_wp2_with fail
 rw [← HW.out]
 refine L.out.mono ?_
 cases ok : sysOkB d.1 d.2 with
 | false =>
  have HO := hid ok
  rintro e w1 ⟨rfl, bb⟩
  have F := hid (boxN (T := 114) (cs := #[.slice none 0 0, .slice none 0 0]) (next_trans bel bb)).2.1
  simp only [sysV, if_true, Bool.false_eq_true, if_false]
  clear bel bb rA L HLT ok
  go_wp2
  go_ret
  exact ⟨by rw [fin_LeftLinearIn_no HO.out]; rfl, F.out⟩
 | true =>
  have HO := hid ok
  rintro e w1 ⟨rfl, bb⟩
  obtain ⟨rS, belS, bS⟩ := boxN (T := 114) (cs := #[.slice A n c, .slice V m cv]) (next_trans bel bb)
  have L2 := hid (HLT.out ok _ belS)
  have c0 := rS.cell 0
  have c1 := rS.cell 1
  have E := hid (fin_LeftLinearIn_yes HO.out)
  simp only [sysV, if_true]
  clear bel bb rA L HLT ok rS bS
  go_wp2_with fail
  refine L2.out.mono ?_
  rintro e w2 ⟨he, bb⟩
  obtain ⟨z, hzz⟩ : ∃ z, d.2.any (fun x => !linearB d.1 x.1) = z := ⟨_, rfl⟩
  rw [hzz] at E
  rw [show (List.any d.2 fun x => !linearB d.1 x.1) = z from hzz] at he
  subst he
  have F := hid (next_trans belS bb)
  clear bb belS L2 c0 c1 hzz
  go_wp2
  go_ret
  exact ⟨by rw [E.out]; rfl, F.out⟩
theorem fin_CollapsingIn_no {sg : List Int} {rs : List Rl} (h : sysOkB sg rs = false) : collB sg rs = false := by unfold collB; rw [h]; rfl
theorem fin_CollapsingIn_yes {sg : List Int} {rs : List Rl} (h : sysOkB sg rs = true) : collB sg rs = rs.any (fallsB) := by
 unfold collB; rw [h]; rfl
set_option maxHeartbeats 4000000 in
theorem implCollapsingIn (a v : Value) (d : Dat sSystem) (w : World) (h : Rd w w.heap.size sSystem [a, v] d) (hz : sz sSystem d ≤ 1048576) :
  Calls Try.prog 60 #[.agg #[a, v]] w (AnsB w (collB d.1 d.2)) := by
 have hzs := sys_szs hz
 have hsg := (parts_System h).1
 have SO := fun (w1 : World) (bb : Below w.heap.size w w1) => systemOf a v d w1 (h.next bb) hz
 have LT := fun (ok : sysOkB d.1 d.2 = true) (w1 : World) (bb : Below w.heap.size w w1) => some_ 102 #[] #[] (fun _ _ => rfl) (fun x => fallsB x) a v d w1
  (fun W' l r (x : Rl) hW' hx hr => collapses_ l r x W' hr (sz_mem hzs.2 hx) (term_len (rule_parts ((sys_parts ok).2.2 x hx)).2.1).1) (h.next bb) hz
 obtain ⟨A, n, c, V, m, cv, rfl, rfl, -⟩ := rd_sys h hz
 obtain ⟨W, hW, rA, bel⟩ := box1 w 51 #[.slice A n c, .slice V m cv]
 have HW := hid hW
 have L := hid (SO W bel)
 have HLT := hid LT
 have hmf := makeFn
 clear hW h hz SO LT hzs hsg
 go_enter Try.func60, Try.ntmps60
 go_wp2_with fail
 rw [← HW.out]
 refine L.out.mono ?_
 cases ok : sysOkB d.1 d.2 with
 | false =>
  have HO := hid ok
  rintro e w1 ⟨rfl, bb⟩
  have F := hid (boxN (T := 114) (cs := #[.slice none 0 0, .slice none 0 0]) (next_trans bel bb)).2.1
  simp only [sysV, if_true, Bool.false_eq_true, if_false]
  clear bel bb rA L HLT ok
  go_wp2
  go_ret
  exact ⟨by rw [fin_CollapsingIn_no HO.out]; rfl, F.out⟩
 | true =>
  have HO := hid ok
  rintro e w1 ⟨rfl, bb⟩
  obtain ⟨rS, belS, bS⟩ := boxN (T := 114) (cs := #[.slice A n c, .slice V m cv]) (next_trans bel bb)
  have L2 := hid (HLT.out ok _ belS)
  have c0 := rS.cell 0
  have c1 := rS.cell 1
  have E := hid (fin_CollapsingIn_yes HO.out)
  simp only [sysV, if_true]
  clear bel bb rA L HLT ok rS bS
  go_wp2_with fail
  refine L2.out.mono ?_
  rintro e w2 ⟨he, bb⟩
  obtain ⟨z, hzz⟩ : ∃ z, d.2.any (fallsB) = z := ⟨_, rfl⟩
  rw [hzz] at E
  rw [show (List.any d.2 fun x => fallsB x) = z from hzz] at he
  subst he
  have F := hid (next_trans belS bb)
  clear bb belS L2 c0 c1 hzz
  go_wp2
  go_ret
  exact ⟨by rw [E.out]; rfl, F.out⟩
theorem fin_ConstructorSystem_no {sg : List Int} {rs : List Rl} (h : sysOkB sg rs = false) : consB sg rs = false := by unfold consB; rw [h]; rfl
theorem fin_ConstructorSystem_yes {sg : List Int} {rs : List Rl} (h : sysOkB sg rs = true) : consB sg rs = !rs.any (nestB rs) := by
 unfold consB; rw [h]; rfl
set_option maxHeartbeats 4000000 in
theorem implConstructorSystem (a v : Value) (d : Dat sSystem) (w : World) (h : Rd w w.heap.size sSystem [a, v] d) (hz : sz sSystem d ≤ 1048576) :
  Calls Try.prog 63 #[.agg #[a, v]] w (AnsB w (consB d.1 d.2)) := by
 have hzs := sys_szs hz
 have hsg := (parts_System h).1
 have SO := fun (w1 : World) (bb : Below w.heap.size w w1) => systemOf a v d w1 (h.next bb) hz
 have LT := fun (ok : sysOkB d.1 d.2 = true) (w1 : World) (bb : Below w.heap.size w w1) => some_ 104 #[.agg #[a, v]] #[] (fun _ _ => rfl) (fun x => nestB d.2 x) a v d w1
  (fun W' l r (x : Rl) hW' hx hr => nests_ a v l r d x W' (h.next (next_trans bb hW')) hz (fun y hy => (term_len (rule_parts ((sys_parts ok).2.2 y hy)).1).1) hr (sz_mem hzs.2 hx) (term_len (rule_parts ((sys_parts ok).2.2 x hx)).1).1) (h.next bb) hz
 obtain ⟨A, n, c, V, m, cv, rfl, rfl, -⟩ := rd_sys h hz
 obtain ⟨W, hW, rA, bel⟩ := box1 w 51 #[.slice A n c, .slice V m cv]
 have HW := hid hW
 have L := hid (SO W bel)
 have HLT := hid LT
 have hmf := makeFn
 clear hW h hz SO LT hzs hsg
 go_enter Try.func63, Try.ntmps63
 go_wp2_with fail
 rw [← HW.out]
 refine L.out.mono ?_
 cases ok : sysOkB d.1 d.2 with
 | false =>
  have HO := hid ok
  rintro e w1 ⟨rfl, bb⟩
  have F := hid (boxN (T := 114) (cs := #[.slice none 0 0, .slice none 0 0]) (next_trans bel bb)).2.1
  simp only [sysV, if_true, Bool.false_eq_true, if_false]
  clear bel bb rA L HLT ok
  go_wp2
  go_ret
  exact ⟨by rw [fin_ConstructorSystem_no HO.out]; rfl, F.out⟩
 | true =>
  have HO := hid ok
  rintro e w1 ⟨rfl, bb⟩
  obtain ⟨rS, belS, bS⟩ := boxN (T := 114) (cs := #[.slice A n c, .slice V m cv]) (next_trans bel bb)
  have L2 := hid (HLT.out ok _ belS)
  have c0 := rS.cell 0
  have c1 := rS.cell 1
  have E := hid (fin_ConstructorSystem_yes HO.out)
  simp only [sysV, if_true]
  clear bel bb rA L HLT ok rS bS
  go_wp2_with fail
  refine L2.out.mono ?_
  rintro e w2 ⟨he, bb⟩
  obtain ⟨z, hzz⟩ : ∃ z, d.2.any (nestB d.2) = z := ⟨_, rfl⟩
  rw [hzz] at E
  rw [show (List.any d.2 fun x => nestB d.2 x) = z from hzz] at he
  subst he
  have F := hid (next_trans belS bb)
  clear bb belS L2 c0 c1 hzz
  go_wp2
  go_ret
  exact ⟨by rw [E.out]; rfl, F.out⟩
end ruleImpl
end
section
namespace lpoMath
abbrev Tm := List Int
def hd (t : Tm) : Int := t.getD 0 0
def lexB (g : Tm → Tm → Bool) : List Tm → List Tm → Bool
 | p :: ps, q :: qs => if p = q then lexB g ps qs else g p q
 | _, _ => false
def dif : List Tm → List Tm → List Tm
 | ts, [] => ts
 | ts, s :: ss => dif (ts.erase s) ss
def bagB (g : Tm → Tm → Bool) (ts ss : List Tm) : Bool := !(dif ts ss).isEmpty && (dif ss ts).all fun q => (dif ts ss).any fun p => g p q
def byArgs (bag : Bool) (g : Tm → Tm → Bool) (ps qs : List Tm) (over : Bool) : Bool := if bag then bagB g ps qs else over && lexB g ps qs
def stepW (bag : Bool) (pts : Tm → List Tm) (rk : Int → Int) (g : Tm → Tm → Bool) (t s : Tm) : Int :=
 if (pts t).any (fun p => decide (p = s) || g p s) = true then 1
 else if hd t < 0 ∨ hd s < 0 then 0
 else if rk (hd s) < rk (hd t) ∧ (pts s).all (fun q => g t q) = true then 2
 else if hd t = hd s ∧ byArgs bag g (pts t) (pts s) ((pts s).all fun q => g t q) = true then 3
 else 0
def gF (bag : Bool) (pts : Tm → List Tm) (rk : Int → Int) : Nat → Tm → Tm → Bool
 | 0, _, _ => false
 | n + 1, t, s => decide (0 < stepW bag pts rk (gF bag pts rk n) t s)
def gt (bag : Bool) (pts : Tm → List Tm) (rk : Int → Int) (t s : Tm) : Bool := gF bag pts rk (t.length + s.length + 1) t s
theorem any_congr {α : Type} {f g : α → Bool} {l : List α} (h : ∀ x ∈ l, f x = g x) : l.any f = l.any g := by
 induction l with
 | nil => rfl
 | cons a r ih => simp only [List.any_cons]; rw [h a (List.mem_cons_self ..), ih fun x hx => h x (List.mem_cons_of_mem _ hx)]
section
variable {bag : Bool} {pts : Tm → List Tm} {rk : Int → Int}
end
section
variable {bag : Bool} {pts : Tm → List Tm} {rk : Int → Int} {T : Tm → Prop}
end
end lpoMath
end
section
namespace rankMath
def upI (n : Nat) : List Int := (List.range n).map fun k : Nat => (k : Int)
theorem up_mem {n : Nat} {x : Int} : x ∈ upI n ↔ 0 ≤ x ∧ x < n := by
 unfold upI
 rw [List.mem_map]
 constructor
 ·rintro ⟨k, hk, rfl⟩
  rw [List.mem_range] at hk
  omega
 ·rintro ⟨h0, h1⟩
  exact ⟨x.toNat, List.mem_range.2 (by omega), by omega⟩
end rankMath
end
section
namespace args
open Go.RowKit base ints sig term arity endOf cursor termOk endAt marks app sym
def argsL (sg t : List Int) (a : Nat) : List Int := places sg t (ar sg (t.getD a 0)).toNat (a + 1)
def Coll (sg t : List Int) (m : Nat) (L ys : List Int) (q p : Nat) : Prop := ys ++ places sg t q p = L ∧ ∃ i, scan sg q (t.drop p) = some i ∧ p + i ≤ m
theorem Coll.first {sg t : List Int} {m : Nat} {L ys : List Int} {q p : Nat} (h : Coll sg t m L ys (q + 1) p) : ∃ j, scan sg 1 (t.drop p) = some j ∧ p + j ≤ m ∧ p < t.length ∧ Coll sg t m L (ys ++ [(p : Int)]) q (p + j) := by
 obtain ⟨h1, i, h2, h3⟩ := h
 obtain ⟨j, e1, e2, e3, e4⟩ := scan_first h2
 have e5 := scan_le h2
 refine ⟨j, e1, by omega, ?_, ?_, i - j, e4, by omega⟩
 ·simp only [List.length_drop] at e5; omega
 ·rw [← h1, List.append_assoc]
  congr 1
  simp only [places, len1_eq e1, List.singleton_append]
theorem Coll.done {sg t : List Int} {m : Nat} {L ys : List Int} {p : Nat} (h : Coll sg t m L ys 0 p) : ys = L := by
 have := h.1
 simpa [places] using this
theorem Coll.len {sg t : List Int} {m : Nat} {L ys : List Int} {q p : Nat} (h : Coll sg t m L ys q p) : ys.length ≤ L.length := by
 rw [← h.1]; simp
theorem Cur.keep {w w' : World} {p : Nat} {A : Option Addr} {n c : Nat} {A' : Option Addr} {m c' : Nat} {sg t : List Int} {k : Nat} (h : Cur w p A n c A' m c' sg t k) (hb : Below (p + 1) w w') : Cur w' p A n c A' m c' sg t k :=
 ⟨h.row.below hb (Nat.lt_succ_self _), h.s.below (hb.mono (Nat.le_succ _)), h.s'.below (hb.mono (Nat.le_succ _)), h.le, h.hn, h.hm, h.ars⟩
end args
end
section
namespace depth
open Go.RowKit base ints sig term arity endOf cursor termOk endAt marks app sym args
def Deep (sg t : List Int) (f : Nat) (M d : Int) (q p : Nat) : Prop := max d (maxOver sg t (dep sg t f) q p) = M ∧ 0 ≤ d ∧ d ≤ f ∧ ∃ i, scan sg q (t.drop p) = some i ∧ i ≤ f ∧ p + i ≤ t.length
theorem Deep.first {sg t : List Int} {f : Nat} {M d : Int} {q p : Nat} (h : Deep sg t f M d (q + 1) p) : ∃ j, scan sg 1 (t.drop p) = some j ∧ j ≤ f ∧ p < t.length ∧ p + j ≤ t.length ∧ Deep sg t f M (max d (dep sg t f p)) q (p + j) := by
 obtain ⟨h1, h2, h3, i, h4, h5, h6⟩ := h
 obtain ⟨j, e1, e2, e3, e4⟩ := scan_first h4
 have hb := dep_bd (sg := sg) (t := t) f p
 refine ⟨j, e1, by omega, by omega, by omega, ?_, by omega, by omega, i - j, e4, by omega, by omega⟩
 simp only [maxOver, len1_eq e1] at h1
 omega
theorem Deep.done {sg t : List Int} {f : Nat} {M d : Int} {p : Nat} (h : Deep sg t f M d 0 p) : d = M := by
 have h1 := h.1
 have h2 := h.2.1
 simp only [maxOver] at h1
 omega
end depth
end
section
namespace termMath
open term termOk endAt sub args depth sig
theorem scan_append {sg : List Int} : ∀ {l r : List Int} {q j : Nat}, scan sg q l = some j → scan sg q (l ++ r) = some j := by
 intro l
 induction l with
 | nil =>
  intro r q j h
  cases q with
  | zero => rw [scan_zero] at h ⊢; exact h
  | succ q => rw [scan_nil] at h; cases h
 | cons x l ih =>
  intro r q j h
  cases q with
  | zero => rw [scan_zero] at h ⊢; exact h
  | succ q =>
   by_cases ha : ar sg x < 0
   ·rw [scan_bad ha] at h; cases h
   ·rw [scan_step ha] at h
    rw [List.cons_append, scan_step ha]
    obtain ⟨j', hj', rfl⟩ := Option.map_eq_some_iff.1 h
    rw [ih hj']
    rfl
theorem scan_take {sg : List Int} : ∀ {l : List Int} {q j : Nat}, scan sg q l = some j → scan sg q (l.take j) = some j := by
 intro l
 induction l with
 | nil => intro q j h; simpa using h
 | cons x l ih =>
  intro q j h
  cases q with
  | zero => rw [scan_zero] at h ⊢; exact h
  | succ q =>
   by_cases ha : ar sg x < 0
   ·rw [scan_bad ha] at h; cases h
   ·rw [scan_step ha] at h
    obtain ⟨j', hj', rfl⟩ := Option.map_eq_some_iff.1 h
    rw [List.take_succ_cons, scan_step ha, ih hj']
    rfl
def Loop (sg t : List Int) (a : Nat) (M : Int) (zs args : List Int) (d : Int) (k q pp : Nat) : Prop :=
 args.drop k = places sg t q pp ∧ max d (maxOver sg t (dep sg t t.length) q pp) = M ∧ 0 ≤ d ∧ d ≤ t.length ∧ ∃ i, scan sg q (t.drop pp) = some i ∧ pp + i ≤ t.length ∧ zs ++ (t.drop pp).take i = subL sg t a
theorem Loop.done {sg t : List Int} {a : Nat} {M : Int} {zs args : List Int} {d : Int} {k pp : Nat} (h : Loop sg t a M zs args d k 0 pp) : zs = subL sg t a ∧ d = M := by
 obtain ⟨_, h2, h3, _, i, h5, _, h7⟩ := h
 rw [scan_zero] at h5
 injection h5 with h5
 subst h5
 simp only [maxOver] at h2
 exact ⟨by simpa using h7, by omega⟩
end termMath
end
section
namespace posMath
open sig term termOk termFacts endAt sub args depth termMath
def argP (sg t : List Int) : Nat → Nat → Nat
 | 0, p => p
 | k + 1, p => argP sg t k (p + len1 sg t p)
theorem argP_succ {sg t : List Int} : ∀ k p, argP sg t (k + 1) p = argP sg t k p + len1 sg t (argP sg t k p)
 | 0, _ => rfl
 | k + 1, p => by
  show argP sg t (k + 1) (p + len1 sg t p) = _
  rw [argP_succ k]
  rfl
theorem argP_mono {sg t : List Int} {p k : Nat} : ∀ {k' : Nat}, k ≤ k' → argP sg t k p ≤ argP sg t k' p := by
 intro k' h
 induction k' with
 | zero => rw [Nat.le_zero.1 h]; exact Nat.le_refl _
 | succ k' ih =>
  by_cases e : k = k' + 1
  ·rw [e]; exact Nat.le_refl _
  ·have := ih (by omega)
   rw [argP_succ]
   omega
theorem places_get {sg t : List Int} : ∀ {q p k : Nat}, k < q → (places sg t q p).getD k 0 = (argP sg t k p : Int) := by
 intro q
 induction q with
 | zero => intro p k h; omega
 | succ q ih =>
  intro p k h
  cases k with
  | zero => rfl
  | succ k =>
   show ((p : Int) :: places sg t q (p + len1 sg t p)).getD (k + 1) 0 = _
   rw [List.getD_cons_succ, ih (by omega)]
   rfl
def arN (sg t : List Int) (p : Nat) : Nat := (ar sg (t.getD p 0)).toNat
inductive Trail (sg t : List Int) (at_ : Nat) : Nat → List Int → List Int → Prop
 | here : Trail sg t at_ at_ [] []
 | down {p k : Nat} {ab pa : List Int} (h1 : p < at_) (h2 : k < arN sg t p) (h3 : argP sg t k (p + 1) ≤ at_) (h4 : at_ < argP sg t k (p + 1) + len1 sg t (argP sg t k (p + 1))) (h5 : p < argP sg t k (p + 1)) (h6 : at_ < p + len1 sg t p) (hw : Trail sg t at_ (argP sg t k (p + 1)) ab pa) : Trail sg t at_ p ((p : Int) :: ab) ((k : Int) :: pa)
theorem Trail.here_eq {sg t : List Int} {at_ : Nat} {ab pa : List Int} (h : Trail sg t at_ at_ ab pa) : ab = [] ∧ pa = [] := by
 cases h with
 | here => exact ⟨rfl, rfl⟩
 | down h1 => omega
theorem arg_one {sg t : List Int} {p at_ k k' : Nat} (h3 : argP sg t k p ≤ at_) (h4 : at_ < argP sg t k p + len1 sg t (argP sg t k p)) (h3' : argP sg t k' p ≤ at_) (h4' : at_ < argP sg t k' p + len1 sg t (argP sg t k' p)) : k = k' := by
 rcases Nat.lt_trichotomy k k' with h | h | h
 ·have := argP_mono (sg := sg) (t := t) (p := p) (show k + 1 ≤ k' by omega)
  rw [argP_succ] at this
  omega
 ·exact h
 ·have := argP_mono (sg := sg) (t := t) (p := p) (show k' + 1 ≤ k by omega)
  rw [argP_succ] at this
  omega
theorem Trail.one {sg t : List Int} {at_ p : Nat} {ab pa : List Int} (h : Trail sg t at_ p ab pa) : ∀ {ab' pa' : List Int}, Trail sg t at_ p ab' pa' → ab = ab' ∧ pa = pa' := by
 induction h with
 | here => intro ab' pa' h'; obtain ⟨rfl, rfl⟩ := h'.here_eq; exact ⟨rfl, rfl⟩
 | @down p k ab pa h1 h2 h3 h4 h5 h6 hw ih =>
  intro ab' pa' h'
  cases h' with
  | here => omega
  | @down _ k' ab' pa' g1 g2 g3 g4 g5 g6 gw =>
   obtain rfl := arg_one h3 h4 g3 g4
   obtain ⟨rfl, rfl⟩ := ih gw
   exact ⟨rfl, rfl⟩
theorem Trail.len {sg t : List Int} {at_ p : Nat} {ab pa : List Int} (h : Trail sg t at_ p ab pa) : ab.length = pa.length := by
 induction h with
 | here => rfl
 | down _ _ _ _ _ _ _ ih => simp [ih]
theorem Trail.le {sg t : List Int} {at_ p : Nat} {ab pa : List Int} (h : Trail sg t at_ p ab pa) : p ≤ at_ ∧ pa.length ≤ at_ - p := by
 induction h with
 | here => simp
 | down h1 _ _ _ h5 _ _ ih => simp only [List.length_cons]; omega
theorem over_ge {sg t : List Int} {g : Nat → Int} : ∀ {q k p : Nat}, k < q → g (argP sg t k p) ≤ maxOver sg t g q p := by
 intro q
 induction q with
 | zero => intro k p h; omega
 | succ q ih =>
  intro k p h
  cases k with
  | zero => simp only [maxOver, argP]; omega
  | succ k =>
   have := ih (k := k) (p := p + len1 sg t p) (by omega)
   simp only [maxOver, argP]
   omega
theorem over_nonneg {sg t : List Int} {g : Nat → Int} : ∀ (q p : Nat), 0 ≤ maxOver sg t g q p
 | 0, _ => by simp [maxOver]
 | q + 1, p => by
  have := over_nonneg (sg := sg) (t := t) (g := g) q (p + len1 sg t p)
  simp only [maxOver]
  omega
theorem Trail.depth {sg t : List Int} {at_ p : Nat} {ab pa : List Int} (h : Trail sg t at_ p ab pa) : ∀ f, pa.length < f → (pa.length : Int) + 1 ≤ dep sg t f p := by
 induction h with
 | here =>
  intro f hf
  obtain ⟨f, rfl⟩ : ∃ f', f = f' + 1 := ⟨f - 1, by simp at hf; omega⟩
  have := over_nonneg (sg := sg) (t := t) (g := dep sg t f) (ar sg (t.getD at_ 0)).toNat (at_ + 1)
  simp only [dep, List.length_nil]
  omega
 | @down p k ab pa h1 h2 h3 h4 h5 h6 hw ih =>
  intro f hf
  simp only [List.length_cons] at hf ⊢
  obtain ⟨f, rfl⟩ : ∃ f', f = f' + 1 := ⟨f - 1, by omega⟩
  have e := ih f (by omega)
  have e2 := over_ge (sg := sg) (t := t) (g := dep sg t f) (p := p + 1) h2
  unfold arN at e2
  simp only [dep]
  omega
end posMath
end
section
namespace matchMath
open sig term termOk termFacts endAt sub termMath fillMath posMath renMath
def vr (x : Int) : Nat := (-1 - x).toNat
def mst (sg t : List Int) : List Int → Nat → List (List Int) → Option (List (List Int))
 | [], _, s => some s
 | x :: r, k, s =>
  if t.length ≤ k then none
  else if 0 ≤ x then (if x = t.getD k 0 then mst sg t r (k + 1) s else none)
  else if (s.getD (vr x) []).length ≠ 0 ∧ s.getD (vr x) [] ≠ subL sg t k then none
  else mst sg t r (k + (subL sg t k).length) (s.set (vr x) (subL sg t k))
section
variable {sg t : List Int} {r : List Int} {x : Int} {k : Nat} {s : List (List Int)}
end
def s0 : List (List Int) := List.replicate 24 []
def matchO (sg p t : List Int) : Option (List (List Int)) := if (termOkB sg p && termOkB sg t) = true then mst sg t p 0 s0 else none
def instB (sg p t : List Int) : Bool := (matchO sg p t).isSome
theorem scan_one {sg : List Int} {y : Int} (h : -24 ≤ y ∧ y ≤ -1) : scan sg 1 [y] = some [y].length := by
 rw [scan_step (by rw [ar_var h]; omega), ar_var h]
 rfl
def moreB (sg a b : List Int) : Bool := instB sg a b && !instB sg b a
end matchMath
end
section
namespace unifMath
open sig term termOk termFacts endAt sub termMath fillMath posMath renMath matchMath plainMath
def Trm (sg t : List Int) : Prop := scan sg 1 t = some t.length
theorem scan_ar {sg : List Int} : ∀ {l : List Int} {q : Nat}, scan sg q l = some l.length → ∀ x ∈ l, ¬ ar sg x < 0 := by
 intro l
 induction l with
 | nil => intro q _ x hx; exact absurd hx (List.not_mem_nil)
 | cons y r ih =>
  intro q h x hx
  cases q with
  | zero => rw [scan_zero] at h; injection h with h; simp at h
  | succ q =>
   by_cases hy : ar sg y < 0
   ·rw [scan_bad hy] at h; cases h
   ·rw [scan_step hy, Option.map_eq_some_iff] at h
    obtain ⟨a, e1, e2⟩ := h
    rcases List.mem_cons.1 hx with rfl | hx
    ·exact hy
    ·exact ih (q := q + (ar sg y).toNat) (by rw [e1]; congr 1; simp at e2; omega) x hx
theorem Trm.mem {sg t : List Int} (h : Trm sg t) {x : Int} (hx : x ∈ t) : -24 ≤ x := by
 have h1 := scan_ar h x hx
 by_cases h2 : -24 ≤ x
 ·exact h2
 ·rw [ar_no (by omega) (by omega)] at h1; omega
theorem Trm.pos {sg t : List Int} (h : Trm sg t) : 1 ≤ t.length := scan_pos (q := 0) h
theorem Trm.vt {sg : List Int} {i : Nat} (hi : i < 24) : Trm sg (vt i) := scan_one (y := -1 - (i : Int)) (by omega)
structure Sub (sg : List Int) (L : Nat → List Int) : Prop where
 trm : ∀ i, i < 24 → Trm sg (L i)
 out : ∀ i, 24 ≤ i → L i = vt i
theorem Sub.pos {sg : List Int} {L : Nat → List Int} (h : Sub sg L) (i : Nat) : 1 ≤ (L i).length := by
 by_cases hi : i < 24
 ·exact (h.trm i hi).pos
 ·rw [h.out i (by omega)]; simp [vt]
theorem Sub.vt (sg : List Int) : Sub sg vt := ⟨fun _ hi => Trm.vt hi, fun _ _ => rfl⟩
theorem Sub.fill {sg : List Int} {L : Nat → List Int} (h : Sub sg L) {t : List Int} (ht : Trm sg t) : Trm sg (fillL L t) :=
 scan_fill ht (fun x hx h0 => h.trm _ (by have := ht.mem hx; omega))
structure Uni (sg a b : List Int) (L : Nat → List Int) : Prop where
 sub : Sub sg L
 eq : fillL L a = fillL L b
structure Part (sg a b : List Int) (L : Nat → List Int) : Prop where
 sub : Sub sg L
 gen : ∀ M, Uni sg a b M → ∀ i, fillL M (L i) = M i
 ide : ∀ i x, x ∈ L i → x < 0 → L (vr x) = [x]
 ord : ∀ i j, L i = vt j → j ≤ i
structure Mg (sg a b : List Int) (L : Nat → List Int) : Prop extends Part sg a b L where
 eq : fillL L a = fillL L b
theorem fill_drop {L : Nat → List Int} {x y : List Int} {k : Nat} (e : x.take k = y.take k) (h : fillL L x = fillL L y) : fillL L (x.drop k) = fillL L (y.drop k) := by
 rw [← List.take_append_drop k x, ← List.take_append_drop k y, fill_append, fill_append, e] at h
 exact List.append_cancel_left h
theorem sub_trm {sg x : List Int} (hx : Trm sg x) {k : Nat} (hk : k < x.length) : Trm sg (subL sg x k) ∧ x.drop k = subL sg x k ++ x.drop (k + (subL sg x k).length) := by
 obtain ⟨j, h1, h2, h3⟩ := scan_at hx hk
 have hl : subL sg x k = (x.drop k).take j := by unfold subL; rw [len1_eq h1]
 have hlen : (subL sg x k).length = j := by rw [hl, List.length_take, List.length_drop]; omega
 refine ⟨?_, ?_⟩
 ·unfold Trm
  rw [hlen, hl]
  exact scan_take h1
 ·rw [hlen, hl, ← List.drop_drop]
  exact (List.take_append_drop _ _).symm
theorem uni_sub {sg x y : List Int} {M : Nat → List Int} (hx : Trm sg x) (hy : Trm sg y) (hM : Sub sg M) (h : fillL M x = fillL M y) {k : Nat} (e : x.take k = y.take k) (hkx : k < x.length) (hky : k < y.length) : fillL M (subL sg x k) = fillL M (subL sg y k) := by
 have h1 := fill_drop e h
 obtain ⟨tx, ex⟩ := sub_trm hx hkx
 obtain ⟨ty, ey⟩ := sub_trm hy hky
 rw [ex, ey, fill_append, fill_append] at h1
 have s1 := scan_append (r := fillL M (x.drop (k + (subL sg x k).length))) (hM.fill tx)
 have s2 := scan_append (r := fillL M (y.drop (k + (subL sg y k).length))) (hM.fill ty)
 rw [h1, s2] at s1
 injection s1 with s1
 have := congrArg (List.take (fillL M (subL sg x k)).length) h1
 rw [List.take_left' rfl, List.take_left' s1] at this
 exact this
structure Spot (sg a b : List Int) (L : Nat → List Int) (k : Nat) : Prop where
 ta : Trm sg a
 tb : Trm sg b
 pre : (fillL L a).take k = (fillL L b).take k
 kx : k < (fillL L a).length
 ky : k < (fillL L b).length
 ne : (fillL L a).getD k 0 ≠ (fillL L b).getD k 0
theorem part_uni {sg a b : List Int} {L M : Nat → List Int} (h : Part sg a b L) (hM : Uni sg a b M) (z : List Int) : fillL M (fillL L z) = fillL M z := by
 rw [fill_fill]
 exact fill_ext (fun x _ _ => h.gen M hM _)
theorem Spot.sub {sg a b : List Int} {L M : Nat → List Int} {k : Nat} (s : Spot sg a b L k) (h : Part sg a b L) (hM : Uni sg a b M) : fillL M (subL sg (fillL L a) k) = fillL M (subL sg (fillL L b) k) :=
 uni_sub (h.sub.fill s.ta) (h.sub.fill s.tb) hM.sub (by rw [part_uni h hM, part_uni h hM, hM.eq]) s.pre s.kx s.ky
theorem Part.done {sg a b : List Int} {L : Nat → List Int} (h : Part sg a b L) (he : fillL L a = fillL L b) : Mg sg a b L := ⟨h, he⟩
structure Short (sg a b : List Int) (M : Nat → List Int) : Prop extends Uni sg a b M where
 each : ∀ i, (M i).length ≤ 60
 all : (fillL M a).length ≤ 60
theorem Part.each {sg a b : List Int} {L M : Nat → List Int} (h : Part sg a b L) (hM : Short sg a b M) (i : Nat) : (L i).length ≤ 60 := by
 have h1 := fill_ge hM.sub.pos (L i)
 rw [h.gen M hM.toUni] at h1
 exact Nat.le_trans h1 (hM.each i)
theorem Part.len {sg a b : List Int} {L M : Nat → List Int} (h : Part sg a b L) (hM : Short sg a b M) : (fillL L a).length ≤ 60 ∧ (fillL L b).length ≤ 60 := by
 have h1 := fill_ge hM.sub.pos (fillL L a)
 have h2 := fill_ge hM.sub.pos (fillL L b)
 rw [part_uni h hM.toUni] at h1 h2
 rw [← hM.eq] at h2
 exact ⟨Nat.le_trans h1 hM.all, Nat.le_trans h2 hM.all⟩
end unifMath
end
section
namespace forest
open sig term termOk termFacts fillMath renMath matchMath unifMath
inductive Fo (sg : List Int) : Nat → List Int → Prop
 | nil : Fo sg 0 []
 | var (x : Int) (r : List Int) (q : Nat) (h : x < 0) (h1 : Fo sg q r) : Fo sg (q + 1) (x :: r)
 | app (x : Int) (r : List Int) (q : Nat) (h : 0 ≤ x) (h2 : 0 ≤ ar sg x) (h1 : Fo sg ((ar sg x).toNat + q) r) : Fo sg (q + 1) (x :: r)
variable {sg : List Int}
theorem Fo.zero {l : List Int} (h : Fo sg 0 l) : l = [] := by cases h; rfl
theorem Fo.none {q : Nat} (h : Fo sg q []) : q = 0 := by cases h; rfl
theorem Fo.inv {n : Nat} {x : Int} {r : List Int} (h : Fo sg n (x :: r)) : ∃ q, n = q + 1 ∧ ((x < 0 ∧ Fo sg q r) ∨ (0 ≤ x ∧ 0 ≤ ar sg x ∧ Fo sg ((ar sg x).toNat + q) r)) := by
 cases h with
 | var x r q h h1 => exact ⟨q, rfl, .inl ⟨h, h1⟩⟩
 | app x r q h h2 h1 => exact ⟨q, rfl, .inr ⟨h, h2, h1⟩⟩
theorem Fo.split : ∀ {l : List Int} {p q : Nat}, Fo sg (p + q) l → ∃ a b, l = a ++ b ∧ Fo sg p a ∧ Fo sg q b
 | [], p, q, h => by
  have h0 := h.none
  have h1 : p = 0 := by omega
  have h2 : q = 0 := by omega
  subst h1 h2
  exact ⟨[], [], rfl, .nil, .nil⟩
 | x :: r, 0, q, h => by
  rw [Nat.zero_add] at h
  exact ⟨[], x :: r, rfl, .nil, h⟩
 | x :: r, p + 1, q, h => by
  obtain ⟨k, e, h⟩ := h.inv
  have e1 : k = p + q := by omega
  subst e1
  rcases h with ⟨h0, h1⟩ | ⟨h0, h2, h1⟩
  ·obtain ⟨a, b, rfl, ha, hb⟩ := Fo.split h1
   exact ⟨x :: a, b, rfl, .var x a p h0 ha, hb⟩
  ·rw [← Nat.add_assoc] at h1
   obtain ⟨a, b, rfl, ha, hb⟩ := Fo.split h1
   exact ⟨x :: a, b, rfl, .app x a p h0 h2 ha, hb⟩
theorem Fo.vt (i : Nat) : Fo sg 1 (vt i) := Fo.var _ _ 0 (by omega) .nil
def Prt (sg u : List Int) (ps : List (List Int)) : Prop := (∃ x, 0 ≤ x ∧ 0 ≤ ar sg x ∧ u = x :: ps.flatten ∧ ps.length = (ar sg x).toNat) ∧ ∀ p ∈ ps, Fo sg 1 p
theorem Prt.len {u : List Int} {ps : List (List Int)} (h : Prt sg u ps) : u.length = (ps.map List.length).sum + 1 := by
 obtain ⟨⟨x, -, -, rfl, -⟩, -⟩ := h
 rw [List.length_cons, List.length_flatten]
end forest
end
section
namespace nodes
open sig term termOk termFacts depth args fillMath matchMath unifMath forest
def chN (sg t : List Int) (p : Nat) : List Nat := (argsL sg t p).map Int.toNat
variable {sg t t' : List Int}
end nodes
end
section
namespace putMath
open sig term termOk termFacts endAt sub args depth termMath posMath
section
variable {sg t u : List Int} {a : Nat}
def Out (sg t : List Int) (a r : Nat) : Prop := r ≤ a ∨ a + len1 sg t a ≤ r
end
end putMath
end
section
namespace stepMath
open sig term termOk termFacts fillMath gives endAt sub matchMath termMath posMath putMath ruleMath
end stepMath
end
section
namespace walkMath
open sig term termOk termFacts fillMath gives sub matchMath putMath ruleMath stepMath
end walkMath
end
section
namespace parMath
open sig term termOk termFacts fillMath ruleMath stepMath walkMath forest
variable {sg : List Int} {rs : List Rl} {a b : List Int}
end parMath
end
section
namespace lpoLink
open sig term termOk termFacts endAt depth args sub fillMath posMath matchMath unifMath forest nodes parMath lpoMath rankMath
set_option maxRecDepth 100000
open Classical in
noncomputable def ptsC (sg u : List Int) : List (List Int) := if h : ∃ ps, Prt sg u ps then h.choose else []
def rkL (rk : List Int) (x : Int) : Int := rk.getD x.toNat 0
section
variable {sg t s : List Int} {a b : Nat}
end
noncomputable def gtP (bag : Bool) (sg rk t s : List Int) (i j : Nat) : Bool := gt bag (ptsC sg) (rkL rk) (subL sg t i) (subL sg s j)
def sameP (sg t s : List Int) (i j : Nat) : Bool := decide (subL sg t i = subL sg s j)
noncomputable def argP (bag : Bool) (sg rk t s : List Int) (i j : Nat) : Bool := (chN sg t i).any fun p => sameP sg t s p j || gtP bag sg rk t s p j
end lpoLink
end
section
namespace kboMath
open sig term fillMath forest lpoMath lpoLink
def wt (v : Int) (sy : List Int) : Tm → Int
 | [] => 0
 | x :: r => (if x < 0 then v else rkL sy x) + wt v sy r
def oft (s t : Tm) : Bool := s.all fun x => !decide (x < 0) || decide (s.count x ≤ t.count x)
variable {sg sy rk : List Int} {v : Int}
theorem oft_iff {s t : Tm} : oft s t = true ↔ ∀ x, x < 0 → s.count x ≤ t.count x := by
 unfold oft
 rw [List.all_eq_true]
 constructor
 ·intro h x hx
  by_cases hm : x ∈ s
  ·have := h x hm
   rw [decide_eq_true hx] at this
   simpa using this
  ·rw [List.count_eq_zero.2 hm]; exact Nat.zero_le _
 ·intro h x _
  by_cases hx : x < 0
  ·rw [decide_eq_true (h x hx)]; simp
  ·simp [hx]
def sumN (f : Int → Nat) : Tm → Nat
 | [] => 0
 | x :: r => f x + sumN f r
theorem sum_erase {f : Int → Nat} : ∀ {t : Tm} {x : Int}, x ∈ t → sumN f t = f x + sumN f (t.erase x)
 | [], _, h => absurd h (by simp)
 | y :: r, x, h => by
  by_cases e : y = x
  ·subst e
   rw [List.erase_cons_head]
   rfl
  ·rw [List.erase_cons_tail (by simpa using e)]
   have h' : x ∈ r := by
    rcases List.mem_cons.1 h with rfl | h
    ·exact absurd rfl e
    ·exact h
   simp only [sumN, sum_erase h']
   omega
theorem sum_le {f : Int → Nat} (hf : ∀ x, 0 ≤ x → f x = 0) : ∀ {s t : Tm}, (∀ x, x < 0 → s.count x ≤ t.count x) → sumN f s ≤ sumN f t
 | [], _, _ => by simp [sumN]
 | x :: s, t, h => by
  by_cases hx : x < 0
  ·have hm : x ∈ t := by
    have := h x hx
    rw [List.count_cons_self] at this
    exact List.count_pos_iff.1 (by omega)
   have ih := sum_le hf (s := s) (t := t.erase x) (by
    intro y hy
    have i1 := h y hy
    rw [List.count_erase, ]
    rw [List.count_cons] at i1
    by_cases e : x = y
    ·subst e; simp at i1 ⊢; omega
    ·have e2 : (x == y) = false := by simpa using e
     have e3 : (y == x) = false := by simpa using (Ne.symm e)
     rw [e2] at i1
     simp [e2] at i1 ⊢
     exact i1)
   rw [sum_erase hm]
   simp only [sumN]
   omega
  ·simp only [sumN, hf x (by omega)]
   have := sum_le hf (s := s) (t := t) (fun y hy => by
    have i1 := h y hy
    rw [List.count_cons] at i1
    omega)
   omega
section
variable {L : Nat → List Int}
end
end kboMath
end
section
namespace rankSpec
open Go.RowKit base ints sig term rankMath shape kindsR ruleMath ruleSpec ruleImpl
set_option maxRecDepth 100000
end rankSpec
end
section
namespace stk
open Go.RowKit base ints marks app sym appAt segs segsMark kinds shape drawX
set_option maxRecDepth 100000
def Stk (w : World) (Q : Nat → Prop) (lo : Nat) (A : Option Addr) (n c : Nat) (D : List (List Int)) : Prop :=
 D.length = n ∧ ∃ vs : List Value, w.ownsRow lo 27 1 (.slice A n c) n vs ∧ ∀ j, j < n → RdQ w Q sI [vs.getD j undef] (D.getD j [])
def Keep (Q : Nat → Prop) (w w' : World) : Prop := ∀ b, Q b → w'.heap[b]? = w.heap[b]?
section
variable {w w' : World} {Q Q' : Nat → Prop} {lo n c : Nat} {A : Option Addr} {D : List (List Int)}
theorem Keep.below {B : Nat} (h : Below B w w') (hQ : ∀ b, Q b → b < B) : Keep Q w w' := fun b hb => h.block b (hQ b hb)
theorem Stk.nil (w : World) (Q : Nat → Prop) (lo : Nat) : Stk w Q lo none 0 0 [] := ⟨rfl, [], World.ownsRow_nil w lo _ _, fun j hj => absurd hj (Nat.not_lt_zero j)⟩
theorem Stk.keep {r : Option Nat} (h : Stk w Q lo A n c D) (hg : w.grownBy w' r) (hne : blk A = none ∨ blk A ≠ r) (hk : Keep Q w w') : Stk w' Q lo A n c D := by
 obtain ⟨h1, vs, h2, h3⟩ := h
 exact ⟨h1, vs, World.ownsRow.kept h2 hg (by rw [blk_own]; exact hne), fun j hj => (h3 j hj).keep hk⟩
theorem Stk.next (h : Stk w Q lo A n c D) (hb : Below w.heap.size w w') (hQ : ∀ b, Q b → b < w.heap.size) : Stk w' Q lo A n c D :=
 h.keep (r := none) ⟨hb.os, hb.tape, hb.output, hb.size, fun k hk _ => hb.block k hk⟩ (by cases blk A <;> simp) (Keep.below hb hQ)
end
theorem vs_len {w : World} {lo n c : Nat} {A : Option Addr} {vs : List Value} (h : w.ownsRow lo 27 1 (.slice A n c) n vs) : vs.length = n := by
 rcases own_form h with ⟨-, h0, -, hv⟩ | ⟨g, cur, -, -, -, -, -, -, hl, -⟩
 ·rw [hv, h0]; rfl
 ·exact hl
end stk
end
section
namespace partsSpec
open Go.RowKit base ints sig term arity endOf marks app segs kinds shape drawX forest stk
set_option maxRecDepth 100000
theorem Fo.le {sg : List Int} {q : Nat} {l : List Int} (h : Fo sg q l) : q ≤ l.length := by
 induction h with
 | nil => exact Nat.zero_le _
 | var x r q h h1 ih => simp; exact ih
 | app x r q h h2 h1 ih => simp; omega
end partsSpec
end
section
namespace kboLink
open sig term termOk forest partsSpec lpoMath lpoLink rankMath rankSpec kboMath
variable {sg sy rk : List Int} {v : Int}
theorem getD_get {l : List Int} {k : Nat} (h : k < l.length) : l.getD k 0 = l[k] := by simp [h]
def Small (v : Int) (sy : List Int) : Prop := (0 ≤ v ∧ v ≤ 20) ∧ ∀ x ∈ sy, 0 ≤ x ∧ x ≤ 20
end kboLink
end
section
open Go.Lib (hid)
namespace anyJ
open Go.RowKit base ints sig anyR
set_option maxRecDepth 100000
def TestsJ (g : Nat) (lb : Array Value) (J : World → Prop) (xs : List Int) (f : Int → Bool) : Prop := ∀ (W : World) (x : Int), J W → x ∈ xs → Calls Try.prog g (#[.int .i64 x] ++ lb) W fun e w' => e = .returned (.bool (f x)) ∧ J w'
def FstJ (f : Int → Bool) (xs : List Int) (z : Int) : Prop := (z = -1 ∧ ∀ j, j < xs.length → f (xs.getD j 0) = false) ∨ ∃ k : Nat, z = (k : Int) ∧ k < xs.length ∧ f (xs.getD k 0) = true ∧ ∀ j, j < k → f (xs.getD j 0) = false
def AnsJx (J : World → Prop) (f : Int → Bool) (xs : List Int) (e : Ending) (w' : World) : Prop := ∃ z : Int, e = .returned (.int .i64 z) ∧ FstJ f xs z ∧ J w'
def HeadJx (J : World → Prop) (n : Nat) (f : Int → Bool) (xs : List Int) (i : Value) (wr : World) : Prop := ∃ k : Nat, k ≤ n ∧ i = .int .i64 k ∧ (∀ j, j < k → f (xs.getD j 0) = false) ∧ J wr
set_option maxHeartbeats 2000000 in
theorem indexFuncJ (g : Nat) (lb : Array Value) (eg : ∀ args w, (callFunc g args).run Try.prog w = .ok (.enter g args) w) (J : World → Prop) (f : Int → Bool) (A : Option Addr) (n c : Nat) (xs : List Int) (w : World) (hT : TestsJ g lb J xs f)
  (hR : ∀ W, J W → Seg W W.heap.size A n xs) (hJ : J w) (hl : xs.length = n) (hn : n ≤ 1048576) :
  Calls Try.prog 145 #[.slice A n c, .func (.func g) #[] lb] w (AnsJx J f xs) := by
 have HL := hid hl
 have HK := hid hT
 have HR := hid hR
 have HH : Hid (HeadJx J n f xs (.int .i64 0) w) := hid ⟨0, Nat.zero_le _, rfl, fun j hj => absurd hj (Nat.not_lt_zero _), hJ⟩
 clear hT hR hl hJ
 go_enter Try.func145, Try.ntmps145
 go_wp2_with fail
 go_loopw [8] (fun i wr => HeadJx J n f xs i wr) (fun i _ => n - (intOf i).toNat)
 case atStart => exact HH.out
 case round =>
  obtain ⟨k, hk, rfl, hlow, hJ⟩ := hrel
  have HLOW := hid hlow
  have HJ := hid hJ
  clear hlow HH hJ
  by_cases hlt : k < n
  ·have hkD : k < xs.length := by rw [HL.out]; exact hlt
   obtain ⟨b, off, x, rfl, hbB, hx, ex⟩ := (HR.out wr HJ.out).spot hlt
   have hcall := HK.out wr x HJ.out (mem_at hkD ex.out)
   obtain ⟨v, hv⟩ : ∃ v, f x = v := ⟨_, rfl⟩
   rw [hv] at hcall
   have HV := hid hv
   have HC := hid hcall
   have i0 : (0 : Int) ≤ (k : Int) := by omega
   have i1 : (k : Int) < (n : Int) := by omega
   clear hv hcall
   cases v with
   | true =>
    go_wp2_with (first
     | (go_at_fn g; refine HC.out.mono ?_; rintro e w1 ⟨rfl, jj⟩))
    have F : AnsJx J f xs (.returned (.int .i64 (k : Int))) w1 := ⟨k, rfl, .inr ⟨k, rfl, hkD, by rw [ex.out]; exact HV.out, HLOW.out⟩, jj⟩
    have HF := hid F
    clear F jj HC
    go_wp2
    go_ret
    exact HF.out
   | false =>
    go_wp2_with (first
     | (go_at_fn g; refine HC.out.mono ?_; rintro e w1 ⟨rfl, jj⟩))
    have S1 : HeadJx J n f xs (.int .i64 ((k : Int) + 1)) w1 := ⟨k + 1, hlt, by simp, fun j hj => by
     by_cases e : j = k
     ·rw [e, ex.out]; exact HV.out
     ·exact HLOW.out j (by omega), jj⟩
    have HS1 := hid S1
    clear S1 jj HC
    go_wp2
    go_roundw
    case rel => exact HS1.out
    case measure => simp [intOf]; omega
  ·have F : AnsJx J f xs (.returned (.int .i64 (-1))) wr := ⟨-1, rfl, .inl ⟨rfl, fun j hj => HLOW.out j (by rw [HL.out] at hj; omega)⟩, HJ.out⟩
   have HF := hid F
   clear F
   go_wp2
   go_ret
   exact HF.out
theorem fstJ_any {f : Int → Bool} {xs : List Int} {z : Int} (h : FstJ f xs z) : decide (0 ≤ z) = xs.any f := by
 rcases h with ⟨rfl, h⟩ | ⟨k, rfl, hk, h, -⟩
 ·rw [decide_eq_false (by omega)]
  exact (none_of h).symm
 ·rw [decide_eq_true (by omega)]
  exact (any_of hk rfl h).symm
theorem fstJ_bd {f : Int → Bool} {xs : List Int} {z : Int} (h : FstJ f xs z) (hn : xs.length ≤ 1048576) : -1 ≤ z ∧ z ≤ 1048576 := by
 rcases h with ⟨rfl, -⟩ | ⟨k, rfl, hk, -⟩ <;> omega
theorem containsFuncJ (g : Nat) (lb : Array Value) (eg : ∀ args w, (callFunc g args).run Try.prog w = .ok (.enter g args) w) (J : World → Prop) (f : Int → Bool) (A : Option Addr) (n c : Nat) (xs : List Int) (w : World) (hT : TestsJ g lb J xs f)
  (hR : ∀ W, J W → Seg W W.heap.size A n xs) (hJ : J w) (hl : xs.length = n) (hn : n ≤ 1048576) :
  Calls Try.prog 116 #[.slice A n c, .func (.func g) #[] lb] w (fun e w' => e = .returned (.bool (xs.any f)) ∧ J w') := by
 have L := hid (indexFuncJ g lb eg J f A n c xs w hT hR hJ hl hn)
 have hlen : xs.length ≤ 1048576 := by rw [hl]; exact hn
 clear hl hT hR hJ
 go_enter Try.func116, Try.ntmps116
 go_wp2_with fail
 refine L.out.mono ?_
 rintro e w' ⟨z, rfl, hz, jj⟩
 obtain ⟨h1, h2⟩ := fstJ_bd hz hlen
 have HZ := hid (fstJ_any hz)
 have HB := hid jj
 clear hz L jj hlen
 go_wp2
 go_ret
 exact ⟨by rw [← HZ.out]; rfl, HB.out⟩
end anyJ
end
section
namespace whole
open Go.RowKit base segs matchMath
set_option maxRecDepth 100000
section
variable {w w' : World} {B B' g : Nat} {cs : Array Value} {s : List (List Int)} {t : TypeId}
def TabR (w : World) (B : Nat) (cs : Array Value) (s : List (List Int)) : Prop :=
 cs.size = 24 ∧ s.length = 24 ∧ ∀ j, j < 24 → ∃ A n c, cs[j]? = some (.slice A n c) ∧ Seg w B A n (s.getD j []) ∧ Cap A n c
theorem TabR.keep (h : TabR w B cs s) (hk : ∀ p : Addr, p.block < B → w'.cell? p = w.cell? p) : TabR w' B cs s :=
 ⟨h.1, h.2.1, fun j hj => by obtain ⟨A, n, c, e, hs, hc⟩ := h.2.2 j hj; exact ⟨A, n, c, e, hs.keep hk, hc⟩⟩
theorem TabR.below (h : TabR w B cs s) (hb : Below B w w') : TabR w' B cs s := h.keep fun _ hp => hb.cell hp
theorem TabR.one (h : TabR w B cs s) : cs.all (·.oneCell') = true := by
 rw [Array.all_eq_true]
 intro i hi
 obtain ⟨A, n, c, e, _⟩ := h.2.2 i (by rw [← h.1]; exact hi)
 rw [Array.getElem?_eq_getElem hi] at e
 injection e with e
 rw [e]; rfl
end
end whole
end
section
namespace inside
open Go.RowKit base ints sig term arity endOf cursor termOk endAt
set_option maxRecDepth 100000
structure Fr (w wr : World) (A : Option Addr) (n c : Nat) (sg : List Int) (A' : Option Addr) (m : Nat) (t : List Int) : Prop where
 r : Row wr w.heap.size 29 #[.slice A n c]
 s : Seg wr w.heap.size A n sg
 s' : Seg wr w.heap.size A' m t
 b : Below w.heap.size w wr
section
variable {w wr w' : World} {A : Option Addr} {n c : Nat} {sg : List Int} {A' : Option Addr} {m : Nat} {t : List Int}
theorem Fr.next (f : Fr w wr A n c sg A' m t) (hb : Below wr.heap.size wr w') : Fr w w' A n c sg A' m t :=
 have b : Below w.heap.size wr w' := hb.mono (Nat.le_of_lt f.r.lt)
 ⟨f.r.next hb, f.s.below b, f.s'.below b, f.b.trans b⟩
theorem Fr.over (f : Fr w wr A n c sg A' m t) (hb : Below (w.heap.size + 1) wr w') : Fr w w' A n c sg A' m t :=
 have b : Below w.heap.size wr w' := hb.mono (Nat.le_succ _)
 ⟨f.r.below hb (Nat.lt_succ_self _), f.s.below b, f.s'.below b, f.b.trans b⟩
theorem Fr.s1 (f : Fr w wr A n c sg A' m t) : Seg wr wr.heap.size A n sg := f.s.more (Nat.le_of_lt f.r.lt)
theorem Fr.size (f : Fr w wr A n c sg A' m t) : w.heap.size < wr.heap.size := f.r.lt
end
end inside
end
section
namespace matchSpec
open Go.RowKit base ints sig same term termOk endAt inside marks app sym sub segs segsHelp termFacts termMath posMath plainMath plain plainOf gives cursor matchMath
set_option maxRecDepth 100000
structure Tab (w : World) (T : Nat) (s : List (List Int)) : Prop where
 len : s.length = 24
 row : ∃ cs, Row w T 27 cs ∧ cs.size = 24 ∧ ∀ j, j < 24 → ∃ A n c, cs[j]? = some (.slice A n c) ∧ Own w (T + 1) (.slice A n c) (s.getD j [])
section
variable {w w' : World} {T : Nat} {s : List (List Int)}
theorem Tab.next (h : Tab w T s) (hb : Below w.heap.size w w') : Tab w' T s := by
 obtain ⟨cs, hr, hs, hc⟩ := h.row
 exact ⟨h.len, cs, hr.next hb, hs, fun j hj => by obtain ⟨A, n, c, e, ho⟩ := hc j hj; exact ⟨A, n, c, e, Own.next ho hb⟩⟩
theorem Tab.at (h : Tab w T s) {j : Nat} (hj : j < 24) : ∃ A n c, w.cell? ⟨T, j, none⟩ = some (.slice A n c) ∧ Own w (T + 1) (.slice A n c) (s.getD j []) := by
 obtain ⟨cs, hr, hs, hc⟩ := h.row
 obtain ⟨A, n, c, e, ho⟩ := hc j hj
 exact ⟨A, n, c, by rw [hr.cell j, e], ho⟩
end
structure Mt (w wr : World) (A : Option Addr) (n c : Nat) (sg : List Int) (P : Option Addr) (pn : Nat) (p : List Int) (Q : Option Addr) (m : Nat) (t : List Int) (s : List (List Int)) : Prop where
 r0 : Row wr w.heap.size 29 #[.slice A n c]
 r1 : Row wr (w.heap.size + 1) 37 #[.slice none 0 0]
 r3 : Row wr (w.heap.size + 1 + 1 + 1) 37 #[.slice (some ⟨w.heap.size + 1 + 1, 0, none⟩) 24 24]
 tb : Tab wr (w.heap.size + 1 + 1) s
 ss : Seg wr w.heap.size A n sg
 sp : Seg wr w.heap.size P pn p
 st : Seg wr w.heap.size Q m t
 b : Below w.heap.size w wr
section
variable {w wr w' : World} {A : Option Addr} {n c : Nat} {sg : List Int} {P : Option Addr} {pn : Nat} {p : List Int} {Q : Option Addr} {m : Nat} {t : List Int} {s : List (List Int)}
theorem Mt.next (h : Mt w wr A n c sg P pn p Q m t s) (hb : Below wr.heap.size wr w') : Mt w w' A n c sg P pn p Q m t s :=
 have b : Below w.heap.size wr w' := hb.mono h.b.size
 ⟨h.r0.next hb, h.r1.next hb, h.r3.next hb, h.tb.next hb, h.ss.below b, h.sp.below b, h.st.below b, h.b.trans b⟩
end
structure Mr (w wr : World) (A : Option Addr) (n c : Nat) (sg : List Int) (P : Option Addr) (pn : Nat) (p : List Int) (Q : Option Addr) (m : Nat) (t : List Int) : Prop where
 r0 : Row wr w.heap.size 29 #[.slice A n c]
 r1 : Row wr (w.heap.size + 1) 37 #[.slice none 0 0]
 ss : Seg wr wr.heap.size A n sg
 sp : Seg wr wr.heap.size P pn p
 st : Seg wr wr.heap.size Q m t
 b : Below w.heap.size w wr
section
variable {w wr w' : World} {A : Option Addr} {n c : Nat} {sg : List Int} {P : Option Addr} {pn : Nat} {p : List Int} {Q : Option Addr} {m : Nat} {t : List Int}
theorem Mr.next (h : Mr w wr A n c sg P pn p Q m t) (hb : Below wr.heap.size wr w') : Mr w w' A n c sg P pn p Q m t :=
 ⟨h.r0.next hb, h.r1.next hb, h.ss.next hb, h.sp.next hb, h.st.next hb, next_trans h.b hb⟩
end
end matchSpec
end
section
namespace whole
open Go.RowKit base cursor marks app sym segs matchMath matchSpec
set_option maxRecDepth 100000
section
variable {P : Program} {ops : Array Oper} {rest : List Oper} {o : Oper} {a : Act} {w : World} {Q : Exit → Act → World → Prop}
theorem rowAlloc (hgd : o.guard = none) (t : TypeId) (ho : o.op = .alloc t) (z : Array Value) (hz : ∀ w, (zeroValue t).run P w = .ok (.agg z) w)
  (h : wpList P ops Q rest (a.put o.dst (.pointer (some ⟨w.heap.size, 0, none⟩))) (w.alloc (.cells z t))) : wpList P ops Q (o :: rest) a w :=
 wpList_plain hgd fun _ hK => by
  unfold Oper.wp execOp
  simp only [ho, Instr.alloc, Sem.run_bind, hz, Result.andThen_ok, newVar, Value.cells]
  exact hK _ _ h
end
section
variable {w w' : World} {B B' g : Nat} {cs : Array Value} {s : List (List Int)} {t : TypeId}
end
end whole
end
end Go.Proofs.Ytiimbmkofpnebaa
