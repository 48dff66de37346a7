/-
  MERGED: my texts RevSteps, ReachWords, ReachSpec, WalkSpec, WalkSpecB, WalkSpecC, WalkFound, WalkToSpec, ReachWalk, TabR, Whole, TakeMath, Take, Extended, one behind the other, as they are. By an AI agent.
-/
import Derived.Test.YtblhmplpcdcejaaMFnExactWalkTo6
import Derived.Laws.Rows
import Derived.Laws.ResultCell
import Derived.Deep.RegionHeld3
namespace Go.Proofs.Ytblhmplpcdcejaa
section
namespace revSteps
open Go.RowKit base ints marks app appAt segs shape drawX
set_option maxRecDepth 100000
abbrev El := Int × Int × Option Addr × Nat × Nat
def encEl (x : El) : List Value := [.int .i64 x.1, .int .i64 x.2.1, .slice x.2.2.1 x.2.2.2.1 x.2.2.2.2]
theorem enc_len (x : El) : (encEl x).length = 3 := rfl
theorem enc_one (x : El) : ∀ v ∈ encEl x, v.oneCell' = true := fun v hv => by
 simp only [encEl, List.mem_cons, List.not_mem_nil, or_false] at hv
 rcases hv with rfl | rfl | rfl <;> rfl
theorem els {vs : List Value} : ∀ {n : Nat}, (∀ j, j < n → ∃ x : El, cellsOf 3 vs j = encEl x) → ∃ d : List El, d.length = n ∧ ∀ j, j < n → cellsOf 3 vs j = encEl (d.getD j default)
 | 0, _ => ⟨[], rfl, fun j h => by omega⟩
 | n + 1, h => by
  obtain ⟨d, hd, h1⟩ := els (n := n) fun j hj => h j (by omega)
  obtain ⟨x, hx⟩ := h n (by omega)
  refine ⟨d ++ [x], by simp [hd], fun j hj => ?_⟩
  by_cases e : j = n
  ·subst e; rw [hx]; simp [List.getD, ← hd]
  ·rw [h1 j (by omega)]; simp [List.getD, List.getElem?_append_left (show j < d.length by omega)]
theorem cells_get {vs : List Value} {j i : Nat} (hi : i < 3) : (cellsOf 3 vs j)[i]? = vs[j * 3 + i]? := by
 unfold cellsOf
 rw [List.getElem?_take, if_pos hi, List.getElem?_drop]
theorem flat_get {d : List El} {t : Nat} (h : t < d.length * 3) : (Sort.flatK encEl 3 d.toArray)[t]! = ((encEl (d.getD (t / 3) default))[t % 3]?).getD undef := by
 rw [Sort.get_flatK encEl 3 d.toArray t (by simpa using h)]
 have h1 : t / 3 < d.length := by omega
 have h2 : t % 3 < 3 := Nat.mod_lt _ (by omega)
 have e1 : d.toArray[t / 3]! = d.getD (t / 3) default := by simp [List.getD, h1]
 rw [e1]
 rw [getElem!_pos _ _ (by rw [enc_len]; exact h2), List.getElem?_eq_getElem (by rw [enc_len]; exact h2)]
 rfl
theorem revSteps (lo g n c : Nat) (vs : List Value) (w : World) (h : w.ownsRow lo 92 3 (.slice (some ⟨g, 0, none⟩) n c) n vs) (hv : ∀ j, j < n → ∃ x : El, cellsOf 3 vs j = encEl x) :
  Calls Try.prog 83 #[.slice (some ⟨g, 0, none⟩) n c] w fun e w' => e = .returned (.tuple #[]) ∧ ∃ us, w'.ownsRow lo 92 3 (.slice (some ⟨g, 0, none⟩) n c) n us ∧ (∀ j, j < n → cellsOf 3 us j = cellsOf 3 vs (n - 1 - j)) ∧ w.grownBy w' (some g) ∧ w'.heap.size = w.heap.size := by
 obtain ⟨d, hd, h1⟩ := els hv
 obtain ⟨hvl, h2⟩ := h
 rcases h2 with ⟨e1, -⟩ | ⟨g', cap, cur, e1, hg, hrow, hn, hm, hs, ht⟩
 ·cases e1
 injection e1 with e1 e2 e3
 injection e1 with e1
 injection e1 with e1
 subst e1 e3
 have hcur : ∀ t, t < n * 3 → cur[t]? = vs[t]? := fun t htn => by
  rw [← ht, List.getElem?_take, if_pos htn, Array.getElem?_toList]
 have hflat : ∀ t, t < n * 3 → cur[t]? = some ((Sort.flatK encEl 3 d.toArray)[t]!) := fun t htn => by
  rw [hcur t htn, flat_get (by rw [hd]; exact htn), ← h1 (t / 3) (by omega), cells_get (Nat.mod_lt _ (by omega))]
  have e : t / 3 * 3 + t % 3 = t := by omega
  rw [e, List.getElem?_eq_getElem (by rw [hvl]; exact htn)]
  rfl
 have hr : Row w g 92 cur := hrow
 have hH : Sort.HoldsK encEl 3 w g 0 d.toArray := by
  intro t htn
  have htn : t < n * 3 := by rw [Sort.size_flatK] at htn; simpa [hd] using htn
  rw [Nat.zero_add, hr.cell t, hflat t htn]
  exact ⟨rfl, hr.free t⟩
 have hc := AnyQ.slices_Reverse Try.reverseStep 3 Try.isAgg92 Try.sizeOf92 encEl enc_len enc_one g 0 c d.toArray w hH (by simp [hd]; unfold maxLen at hm; omega)
 have hc : Calls Try.prog 83 #[.slice (some ⟨g, 0, none⟩) d.toArray.size c] w _ := hc
 have hdn : d.toArray.size = n := by simp [hd]
 rw [hdn] at hc
 refine hc.mono ?_
 rintro e w' ⟨rfl, q, rfl⟩
 refine ⟨rfl, (Sort.putCells id 0 (Sort.flatK encEl 3 d.toArray.reverse) cur).toList.take (n * 3), ⟨?_, .inr ⟨g, c, _, rfl, hg, ?_, hn, hm, ?_, rfl⟩⟩, fun j hj => ?_, ?_, ?_⟩
 ·simp [Sort.putCells, hs]
  omega
 ·show ((Sort.ahead w q).heap.modify g (Sort.onCells (Sort.putCells id 0 _)))[g]? = _
  rw [Array.getElem?_modify, if_pos rfl, show (Sort.ahead w q).heap = w.heap from rfl, hrow]
  rfl
 ·simp [Sort.putCells, hs]
 ·refine List.ext_getElem? fun i => ?_
  by_cases hi : i < 3
  ·have hb : j * 3 + i < n * 3 := by omega
   have hsz : j * 3 + i < cur.size := by rw [hs]; have := Nat.mul_le_mul_right 3 hn; omega
   rw [cells_get hi, List.getElem?_take, if_pos hb, Array.getElem?_toList]
   unfold Sort.putCells
   rw [Array.getElem?_mapIdx, Array.getElem?_eq_getElem hsz]
   have hfs : (Sort.flatK encEl 3 d.toArray.reverse).size = n * 3 := by rw [Sort.size_flatK]; simp [hd]
   simp only [Option.map_some, Nat.zero_le, true_and, Nat.zero_add, hfs, hb, if_true, Nat.sub_zero, id]
   have hrev : d.toArray.reverse = d.reverse.toArray := by simp
   rw [hrev, flat_get (by rw [List.length_reverse, hd]; exact hb)]
   have e3 : (j * 3 + i) / 3 = j := by omega
   have e4 : (j * 3 + i) % 3 = i := by omega
   rw [e3, e4, h1 (n - 1 - j) (by omega)]
   have e5 : d.reverse.getD j default = d.getD (n - 1 - j) default := by
    simp only [List.getD]
    rw [List.getElem?_reverse (by omega), hd]
   rw [e5, List.getElem?_eq_getElem (by rw [enc_len]; exact hi)]
   rfl
  ·rw [List.getElem?_eq_none (by unfold cellsOf; rw [List.length_take]; omega), List.getElem?_eq_none (by unfold cellsOf; rw [List.length_take]; omega)]
 ·refine ⟨rfl, rfl, rfl, ?_, fun i hi hne => ?_⟩
  ·show w.heap.size ≤ (w.heap.modify g _).size
   simp
  ·show (w.heap.modify g _)[i]? = _
   rw [Array.getElem?_modify, if_neg (fun e => hne (by rw [e]))]
 ·show (w.heap.modify g _).size = _
  simp
theorem revSteps0 (A : Option Addr) (c : Nat) (w : World) : Calls Try.prog 83 #[.slice A 0 c] w fun e w' => e = .returned (.tuple #[]) ∧ w' = w := AnyQ.slices_Reverse_empty Try.reverseStep A c w
end revSteps
end
section
namespace longest
open Go.RowKit base ints sig term termOk marks app sym sub segs segsHelp termFacts varsOf shape kindsR kindsW ruleMath ruleSpec stepMath walkMath stepSpec reachMath findW findSpec
theorem r9_parts {sg : List Int} {rs : List Rl} {t : List Int} {n : Int} (h : right9 sg rs t n = true) : rightB sg rs t = true ∧ 0 ≤ n ∧ n ≤ 20 := by
 unfold right9 stepsB at h
 rw [Bool.and_eq_true, decide_eq_true_iff] at h
 exact h
end longest
end
section
namespace reachSpec
open Go.RowKit base ints sig term termOk termFacts marks app sub varsOf appAt sym segs segsHelp kinds same shifted shape kindsR kindsW ruleMath ruleSpec stepMath stepSpec ownL drawX walkMath stepsMath reachMath findW findSpec heldT longest
set_option maxRecDepth 100000
def AnsTs (w : World) (D : List (List Int)) (b : Bool) (e : Ending) (w' : World) : Prop := ∃ A n c, e = .returned (.tuple #[.slice A n c, .bool b]) ∧ Owned w' w.heap.size w'.heap.size sTs [.slice A n c] D ∧ Below w.heap.size w w'
theorem parts_found {w : World} {B : Nat} {T P Y E : Option Addr} {tn tc pn pc yn yc en ec : Nat} {b : Bool} {S : Fs} (h : Rd w B sFound [.slice T tn tc, .slice P pn pc, .slice Y yn yc, .slice E en ec, .bool b] (fdD S)) :
  Rd w B sTs [.slice T tn tc] (termsF S.1) ∧ Rd w B sI [.slice P pn pc] (fromD S.1) ∧ Rd w B sStepS [.slice Y yn yc] (byD S.1) ∧ Rd w B sI [.slice E en ec] (deepD S.1) := by
 obtain ⟨h1, h2⟩ := Rd.split (ca := [.slice T tn tc]) (cb := [.slice P pn pc, .slice Y yn yc, .slice E en ec, .bool b]) h rfl
 obtain ⟨h3, h4⟩ := Rd.split (ca := [.slice P pn pc]) (cb := [.slice Y yn yc, .slice E en ec, .bool b]) h2 rfl
 obtain ⟨h5, h6⟩ := Rd.split (ca := [.slice Y yn yc]) (cb := [.slice E en ec, .bool b]) h4 rfl
 obtain ⟨h7, h8⟩ := Rd.split (ca := [.slice E en ec]) (cb := [.bool b]) h6 rfl
 exact ⟨h1, h3, h5, h7⟩
theorem termsF_len (L : List Fi) : (termsF L).length = L.length := List.length_map ..
theorem fd_small {sg : List Int} {rs : List Rl} {t : List Int} {n : Nat} (h : rightB sg rs t = true) : (fdA sg rs t n).1.length ≤ 60 ∧ ∀ k, ((termsF (fdA sg rs t n).1).getD k []).length ≤ 1048576 := ⟨fd_inv.len60, small_terms h fd_inv⟩
end reachSpec
end
section
namespace walkSpec
open Go.RowKit base ints sig term termOk endAt endOf marks app sym sub segs segsHelp kinds termFacts same shifted shape kindsR kindsW varsOf ruleMath ruleSpec stepMath walkMath stepSpec
set_option maxRecDepth 100000
theorem rd_step {w wr : World} {B : Nat} {A : Option Addr} {n c : Nat} {L : List St} {k : Nat} (h : Rd w B sStepS [.slice A n c] L) (hb : Below B w wr) (hl : L.length = n) (hk : k < n) :
  ∃ b off u x, A = some ⟨b, off, none⟩ ∧ b < B ∧ Hid (L.getD k (0, 0, []) = x) ∧ wr.cell? ⟨b, off + k * 3, none⟩ = some (.int .i64 x.1) ∧ wr.cell? ⟨b, off + k * 3 + 1, none⟩ = some (.int .i64 x.2.1) ∧ wr.cell? ⟨b, off + k * 3 + 2, none⟩ = some u ∧ Rd wr B sI [u] x.2.2 := by
 obtain ⟨b, off, n2, c2, es, ev, -, -, hbB, hel, hp, hr⟩ := h.elem (j := k) (by rw [hl]; exact hk)
 injection ev with e1 e2 e3
 subst e1
 obtain ⟨v0, rfl⟩ := cells_Step hr
 have hpw := hp.keep (w' := wr) (fun p hp => hb.cell (p := p) (by rw [hp]; exact hbB))
 obtain ⟨-, -, p2⟩ := parts_Step hr
 exact ⟨b, off, v0, _, rfl, hbB, Lib.hid rfl, hpw 0 (by simp), hpw 1 (by simp), hpw 2 (by simp), p2.below hb⟩
end walkSpec
end
section
namespace walkSpec
open Go.RowKit base ints sig term termOk endAt endOf marks app sym sub segs segsHelp kinds termFacts same shifted shape kindsR kindsW varsOf ruleMath ruleSpec stepMath walkMath stepSpec ownL heldT
set_option maxRecDepth 100000
theorem keep_alloc {w : World} {a : Addr} {v : Value} {o : Obj} (h : w.cell? a = some v) : (w.alloc o).cell? a = some v := (World.cell?_alloc_some w a o (by rw [h]; rfl)).trans h
end walkSpec
end
section
namespace walkSpec
open Go.RowKit base ints sig term termOk endAt endOf marks app sym sub segs segsHelp kinds termFacts same shifted shape kindsR kindsW varsOf ruleMath ruleSpec stepMath walkMath stepSpec ownL heldT
set_option maxRecDepth 100000
def AnsWalk (w : World) (k : Wk) (b : Bool) (e : Ending) (w' : World) : Prop := ∃ A0 n0 c0 A1 n1 c1, e = .returned (.tuple #[.agg #[.slice A0 n0 c0, .slice A1 n1 c1], .bool b]) ∧ Owned w' w.heap.size w'.heap.size sWalk [.slice A0 n0 c0, .slice A1 n1 c1] k ∧ Below w.heap.size w w'
theorem owned_zero (w : World) (lo hi : Nat) : Owned w lo hi sWalk [.slice none 0 0, .slice none 0 0] (([], []) : List Int × List St) :=
 ⟨[], ⟨[.slice none 0 0], [.slice none 0 0], [], [], rfl, rfl, ⟨none, 0, 0, rfl, rfl, .inl ⟨rfl, rfl, rfl, rfl⟩⟩, ⟨none, 0, 0, rfl, rfl, .inl ⟨rfl, rfl, rfl, rfl⟩⟩⟩, List.nodup_nil, fun k hk => by cases hk⟩
theorem owned_walk {w : World} {lo mid hi : Nat} {X O : Option Addr} {xn xc n c : Nat} {f : List Int} {L : List St} (h : Ownd w lo mid X xn xc f) (h2 : OwnL w mid hi 92 sStep O n c L) (h3 : lo ≤ mid) (h4 : mid ≤ hi) : Owned w lo hi sWalk [.slice X xn xc, .slice O n c] (f, L) :=
 Owned.cat (ow_ints.2 h) h2.owned (Nat.le_refl _) h3 h4
theorem ansWalk_no {w w' : World} {k : Wk} {b : Bool} (h : k = ([], []) ∧ b = false) (hb : Below w.heap.size w w') : AnsWalk w k b (.returned (.tuple #[.agg #[.slice none 0 0, .slice none 0 0], .bool false])) w' :=
 ⟨none, 0, 0, none, 0, 0, by rw [h.2], by rw [h.1]; exact owned_zero _ _ _, hb⟩
section
variable {sg : List Int} {rs : List Rl} {a b : Wk}
end
structure Jn (w : World) (a v f s f' s' : Value) (wr : World) : Prop where
 r0 : Row wr w.heap.size 34 #[a, v]
 r1 : Row wr (w.heap.size + 1) 50 #[f, s]
 r2 : Row wr (w.heap.size + 1 + 1) 50 #[f', s']
 r3 : Row wr (w.heap.size + 1 + 1 + 1) 50 #[.slice none 0 0, .slice none 0 0]
 b : Below w.heap.size w wr
section
variable {w wr w' : World} {a v f s f' s' : Value}
theorem Jn.next (h : Jn w a v f s f' s' wr) (hb : Below wr.heap.size wr w') : Jn w a v f s f' s' w' := ⟨h.r0.next hb, h.r1.next hb, h.r2.next hb, h.r3.next hb, next_trans h.b hb⟩
theorem Jn.size (h : Jn w a v f s f' s' wr) : w.heap.size + 1 + 1 + 1 + 1 ≤ wr.heap.size := h.r3.lt
end
end walkSpec
end
section
open Go.Lib (hid)
open List (setIfInBounds_toArray set_cons_zero set_cons_succ getElem_toArray getElem_cons_zero getElem_cons_succ)
namespace reachSpec
open Go.RowKit base ints sig term termOk termFacts marks app sub varsOf appAt sym segs segsHelp kinds same shifted shape kindsR kindsW ruleMath ruleSpec stepMath stepSpec ownL drawX walkMath stepsMath reachMath findW findSpec heldT longest walkSpec
set_option maxRecDepth 100000
def AnsWk (w : World) (k : Wk) (e : Ending) (w' : World) : Prop := ∃ A0 n0 c0 A1 n1 c1, e = .returned (.agg #[.slice A0 n0 c0, .slice A1 n1 c1]) ∧ Owned w' w.heap.size w'.heap.size sWalk [.slice A0 n0 c0, .slice A1 n1 c1] k ∧ Below w.heap.size w w'
structure Wz (w : World) (fs : Array Value) (B : Nat) (X O : Option Addr) (xn xc on oc : Nat) (fr : List Int) (L : List St) (wr : World) : Prop where
 r0 : Row wr w.heap.size 79 fs
 r1 : Row wr (w.heap.size + 1) 50 #[.slice none 0 0, .slice none 0 0]
 r3 : Row wr B 50 #[.slice X xn xc, .slice O on oc]
 x : Ownd wr (w.heap.size + 1 + 1) B X xn xc fr
 o : OwnL wr (B + 1) wr.heap.size 92 sStep O on oc L
 b : Below w.heap.size w wr
 z : w.heap.size + 1 + 1 ≤ B
section
variable {w w5 w4 wr w' : World} {fs : Array Value} {B : Nat} {X O : Option Addr} {xn xc on oc : Nat} {fr : List Int} {L : List St}
theorem Wz.next (h : Wz w fs B X O xn xc on oc fr L wr) (hb : Below wr.heap.size wr w') : Wz w fs B X O xn xc on oc fr L w' :=
 ⟨h.r0.next hb, h.r1.next hb, h.r3.next hb, h.x.next hb, (h.o.next hb).wider (Nat.le_refl _) hb.size, next_trans h.b hb, h.z⟩
theorem Wz.app {O' oc' : Nat} {y : St} {o : Obj} (h : Wz w fs B X O xn xc on oc fr L w5) (oL4 : OwnL w4 (B + 1) w4.heap.size 92 sStep (some ⟨O', 0, none⟩) (on + 1) oc' (L ++ [y])) (hg4 : (w5.alloc o).grownBy w4 (blk O)) :
  Wz w fs B X (some ⟨O', 0, none⟩) xn xc (on + 1) oc' fr (L ++ [y]) (w4.setCell ⟨B, 1, none⟩ (.slice (some ⟨O', 0, none⟩) (on + 1) oc')) := by
 have z := h.z
 have hB : B < w5.heap.size := h.r3.lt
 have hblk : ∀ k, blk O = some k → B + 1 ≤ k ∧ k < w5.heap.size := fun k e => h.o.ge k e
 have b0 : Below w5.heap.size w5 (w5.alloc o) := (Below.refl _ _).alloc (Nat.le_refl _) _
 have b4 : Below (B + 1) (w5.alloc o) w4 := (Below.refl _ _).grown hg4 (by simp; omega) (fun k e => (hblk k e).1)
 have b5 : Below (B + 1) w5 w4 := (b0.mono (by omega)).trans b4
 have hz4 : w5.heap.size + 1 ≤ w4.heap.size := by have := hg4.size; simpa using this
 refine ⟨(h.r0.below b5 (by omega)).far (show w.heap.size ≠ B by omega) _, (h.r1.below b5 (by omega)).far (show w.heap.size + 1 ≠ B by omega) _, (h.r3.below b5 (by omega)).put 1 _, ?_, ?_, (h.b.trans (b5.mono (by omega))).setCell (show w.heap.size ≤ B by omega) _, z⟩
 ·exact ((h.x.next b0).btw (lo' := B + 1) (hi' := w4.heap.size) (Btw.of_grown hg4 (fun q hq => by have h8 := hblk q hq; omega)) (.inl (by omega))).btw (lo' := B) (hi' := B + 1) ⟨rfl, rfl, rfl, by simp, fun k hk ho => Below.heap_setCell w4 _ _ k (by show k ≠ B; omega)⟩ (.inl (Nat.le_refl _))
 ·have o5 : OwnL (w4.setCell ⟨B, 1, none⟩ (.slice (some ⟨O', 0, none⟩) (on + 1) oc')) (B + 1) w4.heap.size 92 sStep (some ⟨O', 0, none⟩) (on + 1) oc' (L ++ [y]) := oL4.btw (lo' := B) (hi' := B + 1) ⟨rfl, rfl, rfl, by simp, fun k hk ho => Below.heap_setCell w4 _ _ k (by show k ≠ B; omega)⟩ (.inr (Nat.le_refl _))
  exact o5.wider (Nat.le_refl _) (by simp)
theorem wz_ans {k : Wk} (h : Wz w fs B X O xn xc on oc fr L wr) (hk : k = (fr, L)) :
  AnsWk w k (.returned (.agg #[.slice X xn xc, .slice O on oc])) ((wr.setCell ⟨w.heap.size + 1, 0, none⟩ (.slice X xn xc)).setCell ⟨w.heap.size + 1, 1, none⟩ (.slice O on oc)) := by
 have z := h.z
 have ow : Owned wr (w.heap.size + 1 + 1) wr.heap.size sWalk [.slice X xn xc, .slice O on oc] (fr, L) := owned_walk (h.x.wider (Nat.le_refl _) (Nat.le_succ _)) h.o (by omega) h.r3.lt
 exact ⟨_, _, _, _, _, _, rfl, by rw [hk]; exact ((ow.put (g := w.heap.size + 1) (i := 0) (by omega)).put (g := w.heap.size + 1) (i := 1) (by omega)).wider (by omega) (by simp), (h.b.setCell (show w.heap.size ≤ w.heap.size + 1 by omega) _).setCell (show w.heap.size ≤ w.heap.size + 1 by omega) _⟩
end
theorem from_at {L : List Fi} {f : Fi} {i : Nat} (h0 : 0 < i) (hf : L[i]? = some f) : (fromD L).getD i 0 = (f.2.1 : Int) ∧ (byD L).getD i (0, 0, []) = f.1 := by
 obtain ⟨j, rfl⟩ : ∃ j, i = j + 1 := ⟨i - 1, by omega⟩
 have h1 : (L.drop 1)[j]? = some f := by rw [List.getElem?_drop, Nat.add_comm]; exact hf
 constructor
 ·simp [fromD, List.getD, hf]
 ·simp [byD, List.getD, hf]
theorem rd_step_mk {w : World} {B : Nat} {x : St} {u : Value} (h : Rd w B sI [u] x.2.2) : Rd w B sStep [.int .i64 x.1, .int .i64 x.2.1, u] x :=
 ⟨[.int .i64 x.1], [.int .i64 x.2.1, u], rfl, rfl, [.int .i64 x.2.1], [u], rfl, rfl, h⟩
theorem from_zero (L : List Fi) : (fromD L).getD 0 0 = -1 := rfl
theorem fromD_len {L : List Fi} (h : 1 ≤ L.length) : (fromD L).length = L.length ∧ (byD L).length = L.length := by
 constructor
 ·simp [fromD]; omega
 ·simp [byD]; omega
theorem drop_snoc2 {L : List St} {q : Nat} {x : St} (hq : q < L.length) (hx : L.getD q (0, 0, []) = x) : (L.drop q).reverse = (L.drop (q + 1)).reverse ++ [x] := by
 rw [List.drop_eq_getElem_cons hq, List.reverse_cons]
 congr 2
 rw [← hx]
 simp [List.getD, hq]
theorem bk_le {sg : List Int} {rs : List Rl} {t : List Int} {n i : Nat} {S : Fs} (h : Inv sg rs t n S i) {j : Nat} (hj : j < S.1.length) (hn : n ≤ 60) : (bk S.1 j).length ≤ 60 := by
 rw [bk_len h j _ (List.getElem?_eq_getElem hj)]
 have := h.dn _ (List.getElem_mem hj)
 omega
theorem wk_parts {sg : List Int} {rs : List Rl} {t : List Int} {n i : Nat} {S : Fs} (_ : Inv sg rs t n S i) (j : Nat) : wkF S.1 j = ((termsF S.1).getD 0 [], (bk S.1 j).reverse) := by
 unfold wkF
 congr 1
 cases hL : S.1 with
 | nil => rfl
 | cons x r => rfl
theorem bk_small {sg : List Int} {rs : List Rl} {t : List Int} {n i : Nat} {S : Fs} (h : Inv sg rs t n S i) (hs : ∀ k, ((termsF S.1).getD k []).length ≤ 1048576) : ∀ {j : Nat}, j < S.1.length → ∀ q, ((bk S.1 j).getD q (0, 0, [])).2.2.length ≤ 1048576 := by
 intro j
 induction j using Nat.strongRecOn with
 | _ j ih =>
  intro hj q
  by_cases h0 : j = 0
  ·subst h0; rw [bk_zero]; simp
  ·have hf : S.1[j]? = some S.1[j] := List.getElem?_eq_getElem hj
   obtain ⟨g, h1, h2, -, -⟩ := h.par j _ (by omega) hf
   rw [bk_succ h (by omega) hf]
   cases q with
   | zero =>
    have := hs j
    rw [term_get hf] at this
    exact this
   | succ q => exact ih _ h1 (List.getElem?_eq_some_iff.1 h2).1 q
theorem appXm {w : World} {ops : Array Oper} {rest : List Oper} {o : Oper} {a : Act} {Q : Exit → Act → World → Prop} (hgd : o.guard = none) (sx x : Operand) (T e : TypeId) (s : Sh) (z : Value) (bytes : Nat) (hT : Try.prog.underlying T = some (.slice e))
  (hI : (Try.prog.info? e).map (fun i => (i.zero, i.size, i.bytes)) = some (some z, nc s, bytes)) (hzc : z.cells.size = nc s) (hby : bytes ≤ 4096)
  (ho : o.op = .call { callee := .builtin .append, args := #[sx, x], argTypes := #[T, T] })
  (bad : Nat → Prop) (lo g n c q c2 : Nat) (D : List (Dat s)) (es : List Value) (y : Dat s) (hs : a.eval sx = .slice (some ⟨g, 0, none⟩) n c) (hown : XS w bad lo e s g n c D) (hbad : bad g) (hxv : a.eval x = .slice (some ⟨q, 0, none⟩) 1 c2)
  (hy : ∀ i, i < es.length → w.cell? ⟨q, i, none⟩ = es[i]?) (hv : RdQ w (NotIn w bad) s es y) (hn : n ≤ 1048576) (hlo : lo ≤ w.heap.size)
  (h : ∀ g' c' w', (∀ bad' : Nat → Prop, (∀ b, b < w.heap.size → bad' b → bad b) → XS w' bad' lo e s g' (n + 1) c' (D ++ [y])) → w.grownBy w' (some g) → (g' = g ∨ g' = w.heap.size) → Below lo w w' → wpList Try.prog ops Q rest (a.put o.dst (.slice (some ⟨g', 0, none⟩) (n + 1) c')) w') : wpList Try.prog ops Q (o :: rest) a w :=
 wpList_plain hgd fun _ hK => wp_appX sx x T e s z bytes hT hI hzc hby ho bad lo g n c q c2 D es y hs hown hbad hxv hy hv hn hlo fun g' c' w' h1 h2 h3 h4 => hK _ _ (h g' c' w' h1 h2 h3 h4)
set_option maxHeartbeats 4000000 in
theorem l9Walk (T P Y E : Option Addr) (tn tc pn pc yn yc en ec : Nat) (sg : List Int) (rs : List Rl) (t : List Int) (n z0 : Nat) (S : Fs) (j : Nat) (w : World) (hR : Rd w w.heap.size sFound [.slice T tn tc, .slice P pn pc, .slice Y yn yc, .slice E en ec, .bool S.2] (fdD S)) (hI : Inv sg rs t n S z0) (hok : rightB sg rs t = true) (hj : j < S.1.length) (hn : n ≤ 20) :
  Calls Try.prog 52 #[.agg #[.slice T tn tc, .slice P pn pc, .slice Y yn yc, .slice E en ec, .bool S.2], .int .i64 (j : Int)] w (AnsWk w (wkF S.1 j)) := by
 obtain ⟨hT, hP, hY, -⟩ := parts_found hR
 have htn : (termsF S.1).length = tn := rd_ts hT
 rw [termsF_len] at htn
 obtain ⟨hfl, hbl⟩ := fromD_len hI.len1
 have hPs := hP.seg
 have hpn : pn = tn := by rw [← hPs.1, hfl, htn]
 subst hpn
 have hyn : S.1.length = yn := by
  obtain ⟨A', c', e, hc⟩ := hY.slice
  injection e with e1 e2 e3
  rw [e2, hbl]
 have hyn2 : yn = pn := by omega
 subst hyn2
 have small := small_terms hok hI
 have h60 := hI.len60
 obtain ⟨fs, hfs⟩ : ∃ fs : Array Value, fs = #[.slice T yn tc, .slice P yn pc, .slice Y yn yc, .slice E en ec, .bool S.2] := ⟨_, rfl⟩
 obtain ⟨W, hW⟩ : ∃ W, W = ((w.alloc (.cells #[.slice T yn tc, .slice P yn pc, .slice Y yn yc, .slice E en ec, .bool S.2] 79)).alloc (.cells #[.slice none 0 0, .slice none 0 0] 50)).alloc (.cells #[] 92) := ⟨_, rfl⟩
 have bW : Below w.heap.size w W := by rw [hW]; exact (((Below.refl _ _).alloc (Nat.le_refl _) _).alloc (by simp) _).alloc (by simp; omega) _
 have zW : W.heap.size = w.heap.size + 1 + 1 + 1 := by rw [hW]; simp
 have r0 : Row W w.heap.size 79 fs := by rw [hW, hfs]; exact ((Row.new w _ _).alloc _).alloc _
 have r1 : Row W (w.heap.size + 1) 50 #[.slice none 0 0, .slice none 0 0] := by
  rw [hW]
  have := (Row.new (w.alloc (.cells #[.slice T yn tc, .slice P yn pc, .slice Y yn yc, .slice E en ec, .bool S.2] 79)) 50 #[.slice none 0 0, .slice none 0 0]).alloc (.cells #[] 92)
  simpa using this
 have x0 : XS W (fun b => b = w.heap.size + 1 + 1) (w.heap.size + 1 + 1) 92 sStep (w.heap.size + 1 + 1) 0 0 [] := by
  rw [hW]
  refine ⟨rfl, [], ?_, fun k hk => by omega⟩
  have := World.ownsRow_lit (base := w.heap.size + 1 + 1) (e := 92) (size := nc sStep) ((w.alloc (.cells #[.slice T yn tc, .slice P yn pc, .slice Y yn yc, .slice E en ec, .bool S.2] 79)).alloc (.cells #[.slice none 0 0, .slice none 0 0] 50)) #[] 0 (by simp) (by unfold maxLen; omega) (by simp)
  simpa using this
 have HW := hid hW
 have HA := hid (show S.1.length = yn ∧ j < yn ∧ yn ≤ 60 ∧ Inv sg rs t n S z0 ∧ (∀ k, ((termsF S.1).getD k []).length ≤ 1048576) ∧ n ≤ 20 from ⟨htn, by omega, by omega, hI, small, hn⟩)
 have HR := hid (show Rd w w.heap.size sTs [.slice T yn tc] (termsF S.1) ∧ Seg w w.heap.size P yn (fromD S.1) ∧ Rd w w.heap.size sStepS [.slice Y yn yc] (byD S.1) ∧ (byD S.1).length = yn from ⟨hT, hPs, hY, by omega⟩)
 have H0 := hid (show XS W (fun b => b = w.heap.size + 1 + 1) (w.heap.size + 1 + 1) 92 sStep (w.heap.size + 1 + 1) 0 0 [] ∧ Row W w.heap.size 79 fs ∧ Row W (w.heap.size + 1) 50 #[.slice none 0 0, .slice none 0 0] ∧ Below w.heap.size w W from ⟨x0, r0, r1, bW⟩)
 have HF := hid hfs
 clear hR hI hok hj hT hP hY hPs hfl hbl htn hyn small h60 hW bW r0 r1 x0 hn zW hfs
 go_enter Try.func52, Try.ntmps52
 go_wp2_with fail
 rw [← HW.out]
 go_loopg [1, 5] j (fun g at_ bk_ wr => ∃ (b bn bc : Nat) (B : List St), at_ = .int .i64 (g : Int) ∧ bk_ = .slice (some ⟨b, 0, none⟩) bn bc ∧ g < yn ∧ bk S.1 j = B ++ bk S.1 g ∧ XS wr (fun k => k = b) (w.heap.size + 1 + 1) 92 sStep b bn bc B ∧ Row wr w.heap.size 79 fs ∧ Row wr (w.heap.size + 1) 50 #[.slice none 0 0, .slice none 0 0] ∧ Below w.heap.size w wr)
 case atStart => exact ⟨_, 0, 0, [], rfl, rfl, HA.out.2.1, rfl, H0.out⟩
 case round =>
  clear H0
  obtain ⟨b, bn, bc, B, rfl, rfl, hg, hbk, xs, r0, r1, bel⟩ := hrel
  have c1 : wr.cell? ⟨w.heap.size, 1, none⟩ = some (.slice P yn pc) := by rw [r0.cell 1, HF.out]; rfl
  have c2 : wr.cell? ⟨w.heap.size, 2, none⟩ = some (.slice Y yn yc) := by rw [r0.cell 2, HF.out]; rfl
  have hbn : bn ≤ 60 := by
   have h1 := bk_le HA.out.2.2.2.1 (j := j) (by rw [HA.out.1]; exact HA.out.2.1) (by have := HA.out.2.2.2.2.2; omega)
   rw [hbk, List.length_append, xs.len] at h1
   omega
  obtain ⟨pb, poff, rfl, hpb, hpc⟩ : ∃ pb poff, P = some ⟨pb, poff, none⟩ ∧ pb < w.heap.size ∧ ∀ i, i < yn → w.cell? ⟨pb, poff + i, none⟩ = some (.int .i64 ((fromD S.1).getD i 0)) := by
   obtain ⟨pb, poff, e, h1, -⟩ := HR.out.2.1.2 (by omega)
   exact ⟨pb, poff, e, h1, fun i hi => by
    have h2 := HR.out.2.1
    rw [e] at h2
    obtain ⟨pb', poff', e', h1', h3⟩ := h2.2 (by omega)
    injection e' with e'
    injection e' with q1 q2
    subst q1 q2
    exact h3 i hi⟩
  have cp : wr.cell? ⟨pb, poff + gk, none⟩ = some (.int .i64 ((fromD S.1).getD gk 0)) := (bel.cell (p := ⟨pb, poff + gk, none⟩) hpb).trans (hpc gk hg)
  have i0 : (0 : Int) ≤ (gk : Int) := by omega
  have i1 : (gk : Int) < (yn : Int) := by omega
  by_cases hg0 : gk = 0
  ·subst hg0
   rw [from_zero] at cp
   simp only [Nat.add_zero] at cp
   have HB := hid (show bk S.1 j = B from by rw [hbk, bk_zero, List.append_nil])
   have HX := hid (show XS wr (fun k => k = b) (w.heap.size + 1 + 1) 92 sStep b bn bc B ∧ Row wr w.heap.size 79 fs ∧ Row wr (w.heap.size + 1) 50 #[.slice none 0 0, .slice none 0 0] ∧ Below w.heap.size w wr from ⟨xs, r0, r1, bel⟩)
   have c0 : wr.cell? ⟨w.heap.size, 0, none⟩ = some (.slice T yn tc) := by rw [r0.cell 0, HF.out]; rfl
   obtain ⟨tb, toff, U, un, uc, rfl, htb, ct, hU, hcU⟩ := rd_term HR.out.1 bel (show 0 < yn from hg)
   rw [Nat.add_zero] at ct
   have hun : un ≤ 1048576 := by rw [← hU.1]; exact HA.out.2.2.2.2.1 0
   have LC := hid (copyInts U un uc ((termsF S.1).getD 0 []) wr (hU.more bel.size) hcU.2.2 hun)
   clear hbk xs r0 r1 bel hpc hU hcU hpb htb hg
   go_wp2_with fail
   refine LC.out.mono ?_
   rintro e w1 ⟨X, xn, xc, rfl, oX, bb⟩
   have zb := HX.out.1.ge
   obtain ⟨fr, hfr⟩ : ∃ fr, (termsF S.1).getD 0 [] = fr := ⟨_, rfl⟩
   rw [hfr] at oX
   obtain ⟨V, hV⟩ : ∃ V, V = w1.alloc (.cells #[.slice X xn xc, .slice none 0 0] 50) := ⟨_, rfl⟩
   have bV : Below w1.heap.size w1 V := by rw [hV]; exact (Below.refl _ _).alloc (Nat.le_refl _) _
   have rV : Row V w1.heap.size 50 #[.slice X xn xc, .slice none 0 0] := by rw [hV]; exact Row.new _ _ _
   have z1 : wr.heap.size ≤ w1.heap.size := bb.size
   have WZ : Wz w fs w1.heap.size X none xn xc 0 0 fr (B.drop bn).reverse V := ⟨(HX.out.2.1.next bb).next bV, (HX.out.2.2.1.next bb).next bV, rV, ((Ownd.of_own (Own.lower oX (by omega))).next bV), by rw [List.drop_eq_nil_of_le (by rw [HX.out.1.len]; exact Nat.le_refl _)]; exact OwnL.nil _ _ _ _ _, next_trans (next_trans HX.out.2.2.2 bb) bV, by omega⟩
   obtain ⟨B0, rB, zB⟩ : ∃ B0, Rd V B0 sStepS [.slice (some ⟨b, 0, none⟩) bn bc] B ∧ B0 ≤ w1.heap.size := ⟨wr.heap.size, Rd.below HX.out.1.rd (bb.trans (bV.mono z1)), z1⟩
   have HV := hid (show V = w1.alloc (.cells #[.slice X xn xc, .slice none 0 0] 50) ∧ Rd V B0 sStepS [.slice (some ⟨b, 0, none⟩) bn bc] B ∧ B0 ≤ w1.heap.size ∧ B.length = bn ∧ wkF S.1 j = (fr, B.reverse) ∧ (∀ q, (B.getD q (0, 0, [])).2.2.length ≤ 1048576) ∧ w1.heap.size < V.heap.size from
    ⟨hV, rB, zB, HX.out.1.len, by rw [← HB.out, ← hfr]; exact wk_parts HA.out.2.2.2.1 j, fun q => by rw [← HB.out]; exact bk_small HA.out.2.2.2.1 HA.out.2.2.2.2.1 (by rw [HA.out.1]; exact HA.out.2.1) q, rV.lt⟩)
   have W0 := hid WZ
   clear WZ bV rV hV oX bb LC HX HB hfr z1 zb rB zB ct c0 c1 c2 cp
   go_wp2_with fail
   rw [← HV.out.1]
   go_loopg [7] bn (fun g i_ wv => ∃ (on oc : Nat) (O : Option Addr), i_ = .int .i64 ((g : Int) - 1) ∧ g ≤ bn ∧ Wz w fs w1.heap.size X O xn xc on oc fr (B.drop g).reverse wv ∧ Below w1.heap.size V wv)
   case atStart => exact ⟨0, 0, none, rfl, Nat.le_refl _, W0.out, Below.refl _ _⟩
   case round =>
    clear W0
    obtain ⟨on, oc, O, rfl, hgb, wz, bel⟩ := hrel
    have zB1 := HV.out.2.2.2.2.2.2
    have zw := wz.z
    by_cases hg0 : gk = 0
    ·subst hg0
     have y0 : wr.cell? ⟨w1.heap.size, 0, none⟩ = some (.slice X xn xc) := wz.r3.cell 0
     have y1 : wr.cell? ⟨w1.heap.size, 1, none⟩ = some (.slice O on oc) := wz.r3.cell 1
     have z0 : wr.cell? ⟨w.heap.size + 1, 0, none⟩ = some (.slice none 0 0) := wz.r1.cell 0
     have z1 : wr.cell? ⟨w.heap.size + 1, 1, none⟩ = some (.slice none 0 0) := wz.r1.cell 1
     have g0 := wz.r1.free 0
     have g1 := wz.r1.free 1
     have ra := wz.r1.put 0 (.slice X xn xc)
     have z2 : (wr.setCell ⟨w.heap.size + 1, 0, none⟩ (.slice X xn xc)).cell? ⟨w.heap.size + 1, 1, none⟩ = some (.slice none 0 0) := ra.cell 1
     have g2 := ra.free 1
     have rb := ra.put 1 (.slice O on oc)
     have u0 : ((wr.setCell ⟨w.heap.size + 1, 0, none⟩ (.slice X xn xc)).setCell ⟨w.heap.size + 1, 1, none⟩ (.slice O on oc)).cell? ⟨w.heap.size + 1, 0, none⟩ = some (.slice X xn xc) := rb.cell 0
     have u1 : ((wr.setCell ⟨w.heap.size + 1, 0, none⟩ (.slice X xn xc)).setCell ⟨w.heap.size + 1, 1, none⟩ (.slice O on oc)).cell? ⟨w.heap.size + 1, 1, none⟩ = some (.slice O on oc) := rb.cell 1
     have FZ := wz_ans (k := wkF S.1 j) wz HV.out.2.2.2.2.1
     have HFZ := hid FZ
     clear FZ ra rb wz bel hgb zB1
     go_wp2
     exact bodyPost_ret (v := .agg #[.slice X xn xc, .slice O on oc]) (by simp [results, Try.results52, go_sem, u0, u1]) rfl HFZ.out
    ·obtain ⟨q, rfl⟩ : ∃ q, gk = q + 1 := ⟨gk - 1, by omega⟩
     have eq1 : ((q + 1 : Nat) : Int) - 1 = (q : Int) := by omega
     rw [eq1]
     have hq : q < bn := hgb
     obtain ⟨yb, yoff, u, x, ey, hyb, ex, k0, k1, k2, hx2⟩ := rd_step HV.out.2.1 (bel.mono HV.out.2.2.1) HV.out.2.2.2.1 hq
     injection ey with ey
     injection ey with ey1 ey2
     subst ey1 ey2
     rw [Nat.zero_add] at k0 k1 k2
     obtain ⟨U, un, uc, rfl, hU, hcU⟩ := rd_ints.1 hx2
     have hsm := HV.out.2.2.2.2.2.1 q
     have hap := drop_snoc2 (L := B) (q := q) (by rw [HV.out.2.2.2.1]; exact hq) ex.out
     rw [ex.out] at hsm
     obtain ⟨xa, xr, ys⟩ := x
     have hun : un ≤ 1048576 := by rw [← hU.1]; exact hsm
     have hU' : Seg wr wr.heap.size U un ys := hU.more (by have := bel.size; have := HV.out.2.2.1; omega)
     have LC := hid (copyInts U un uc ys wr.drew hU'.drew hcU.2.2 hun)
     have kO : wr.cell? ⟨w1.heap.size, 1, none⟩ = some (.slice O on oc) := wz.r3.cell 1
     have k0 : wr.cell? ⟨b, q * 3, none⟩ = some (.int .i64 xa) := k0
     have k1 : wr.cell? ⟨b, q * 3 + 1, none⟩ = some (.int .i64 xr) := k1
     have hbw : b < wr.drew.heap.size := by show b < wr.heap.size; have := bel.size; have := HV.out.2.2.1; omega
     have hBw : w1.heap.size < wr.drew.heap.size := wz.r3.lt
     have hon : on = bn - (q + 1) := by have := wz.o.1; rw [← this, List.length_reverse, List.length_drop, HV.out.2.2.2.1]
     have hon2 : on ≤ 1048576 := by have := HA.out.2.2.1; omega
     have WZ := hid (show Wz w fs w1.heap.size X O xn xc on oc fr (B.drop (q + 1)).reverse wr.drew from wz.next (drew_below wr))
     have HG := hid (show q + 1 ≤ bn ∧ (B.drop q).reverse = (B.drop (q + 1)).reverse ++ [(xa, xr, ys)] ∧ Below w1.heap.size V wr.drew from ⟨hgb, hap, bel.trans ((drew_below wr).mono bel.size |>.mono (by omega))⟩)
     have i0 : (0 : Int) ≤ (q : Int) := by omega
     have i1 : (q : Int) < (bn : Int) := by omega
     clear hx2 hU hcU hU' wz bel hgb hap ex hsm hun hon hyb hg0 eq1
     go_upto_region 9 with fail
     refine AnyT.start (S := (fun w' => w'.cell? ⟨w1.heap.size, 1, none⟩ = some (.slice O on oc) ∧ w'.cell? ⟨b, q * 3, none⟩ = some (.int .i64 xa) ∧ w'.cell? ⟨b, q * 3 + 1, none⟩ = some (.int .i64 xr) ∧ w'.cell? ⟨b, q * 3 + 2, none⟩ = some (.slice U un uc))) (fun j => j == 20 || j == 22) (by kernel_rfl) ⟨kO, k0, k1, k2⟩ (fun hHeld => ?_)
     refine AnyT.takeA (i := 0) (v := ?_) rfl (by kernel_rfl) (by kernel_rfl) (by kernel_rfl) (fun _ _ _ h => h) (Or.inl ⟨by rfl, ?_⟩) ?_
     rotate_left 1
     ·(intro w0 _; go_simp; try with_reducible rfl)
     try simp only [Act.put, setIfInBounds_toArray, set_cons_zero, set_cons_succ, getElem_toArray, getElem_cons_zero, getElem_cons_succ]
     refine AnyT.takeU (i := 1) (v := ?_) rfl (by kernel_rfl) (by kernel_rfl) (by kernel_rfl) (by kernel_rfl) (by kernel_rfl) (fun _ _ _ h => h) (Or.inl ⟨by rfl, ?_⟩) (by assumption) ?_
     rotate_left 1
     ·(intro w0 hSw; (try dsimp only at hSw); go_simp; try with_reducible rfl)
     try simp only [Act.put, setIfInBounds_toArray, set_cons_zero, set_cons_succ, getElem_toArray, getElem_cons_zero, getElem_cons_succ]
     refine AnyT.takeA (i := 2) (v := ?_) rfl (by kernel_rfl) (by kernel_rfl) (by kernel_rfl) (fun _ _ _ h => h) (Or.inl ⟨by rfl, ?_⟩) ?_
     rotate_left 1
     ·(intro w0 _; go_simp; try with_reducible rfl)
     try simp only [Act.put, setIfInBounds_toArray, set_cons_zero, set_cons_succ, getElem_toArray, getElem_cons_zero, getElem_cons_succ]
     refine AnyT.takeA (i := 3) (v := ?_) rfl (by kernel_rfl) (by kernel_rfl) (by kernel_rfl) (fun _ _ _ h => h) (Or.inl ⟨by rfl, ?_⟩) ?_
     rotate_left 1
     ·(intro w0 _; go_simp; try with_reducible rfl)
     try simp only [Act.put, setIfInBounds_toArray, set_cons_zero, set_cons_succ, getElem_toArray, getElem_cons_zero, getElem_cons_succ]
     refine AnyT.takeA (i := 4) (v := ?_) rfl (by kernel_rfl) (by kernel_rfl) (by kernel_rfl) (fun _ _ _ h => h) (Or.inl ⟨by rfl, ?_⟩) ?_
     rotate_left 1
     ·(intro w0 _; go_simp; try with_reducible rfl)
     try simp only [Act.put, setIfInBounds_toArray, set_cons_zero, set_cons_succ, getElem_toArray, getElem_cons_zero, getElem_cons_succ]
     refine AnyT.takeA (i := 5) (v := ?_) rfl (by kernel_rfl) (by kernel_rfl) (by kernel_rfl) (fun _ _ _ h => h) (Or.inl ⟨by rfl, ?_⟩) ?_
     rotate_left 1
     ·(intro w0 _; go_simp; try with_reducible rfl)
     try simp only [Act.put, setIfInBounds_toArray, set_cons_zero, set_cons_succ, getElem_toArray, getElem_cons_zero, getElem_cons_succ]
     refine AnyT.takeU (i := 6) (v := ?_) rfl (by kernel_rfl) (by kernel_rfl) (by kernel_rfl) (by kernel_rfl) (by kernel_rfl) (fun _ _ _ h => h) (Or.inl ⟨by rfl, ?_⟩) (by assumption) ?_
     rotate_left 1
     ·(intro w0 hSw; (try dsimp only at hSw); go_simp; try with_reducible rfl)
     try simp only [Act.put, setIfInBounds_toArray, set_cons_zero, set_cons_succ, getElem_toArray, getElem_cons_zero, getElem_cons_succ]
     refine AnyT.takeA (i := 7) (v := ?_) rfl (by kernel_rfl) (by kernel_rfl) (by kernel_rfl) (fun _ _ _ h => h) (Or.inl ⟨by rfl, ?_⟩) ?_
     rotate_left 1
     ·(intro w0 _; go_simp; try with_reducible rfl)
     try simp only [Act.put, setIfInBounds_toArray, set_cons_zero, set_cons_succ, getElem_toArray, getElem_cons_zero, getElem_cons_succ]
     refine AnyT.takeA (i := 8) (v := ?_) rfl (by kernel_rfl) (by kernel_rfl) (by kernel_rfl) (fun _ _ _ h => h) (Or.inl ⟨by rfl, ?_⟩) ?_
     rotate_left 1
     ·(intro w0 _; go_simp; try with_reducible rfl)
     try simp only [Act.put, setIfInBounds_toArray, set_cons_zero, set_cons_succ, getElem_toArray, getElem_cons_zero, getElem_cons_succ]
     refine AnyT.takeA (i := 9) (v := ?_) rfl (by kernel_rfl) (by kernel_rfl) (by kernel_rfl) (fun _ _ _ h => h) (Or.inl ⟨by rfl, ?_⟩) ?_
     rotate_left 1
     ·(intro w0 _; go_simp; try with_reducible rfl)
     try simp only [Act.put, setIfInBounds_toArray, set_cons_zero, set_cons_succ, getElem_toArray, getElem_cons_zero, getElem_cons_succ]
     refine AnyT.takeA (i := 10) (v := ?_) rfl (by kernel_rfl) (by kernel_rfl) (by kernel_rfl) (fun _ _ _ h => h) (Or.inl ⟨by rfl, ?_⟩) ?_
     rotate_left 1
     ·(intro w0 _; go_simp; try with_reducible rfl)
     try simp only [Act.put, setIfInBounds_toArray, set_cons_zero, set_cons_succ, getElem_toArray, getElem_cons_zero, getElem_cons_succ]
     refine AnyT.takeU (i := 11) (v := ?_) rfl (by kernel_rfl) (by kernel_rfl) (by kernel_rfl) (by kernel_rfl) (by kernel_rfl) (fun _ _ _ h => h) (Or.inl ⟨by rfl, ?_⟩) (by assumption) ?_
     rotate_left 1
     ·(intro w0 hSw; (try dsimp only at hSw); go_simp; try with_reducible rfl)
     try simp only [Act.put, setIfInBounds_toArray, set_cons_zero, set_cons_succ, getElem_toArray, getElem_cons_zero, getElem_cons_succ]
     refine AnyT.takeA (i := 12) (v := ?_) rfl (by kernel_rfl) (by kernel_rfl) (by kernel_rfl) (fun _ _ _ h => h) (Or.inl ⟨by rfl, ?_⟩) ?_
     rotate_left 1
     ·(intro w0 _; go_simp; try with_reducible rfl)
     try simp only [Act.put, setIfInBounds_toArray, set_cons_zero, set_cons_succ, getElem_toArray, getElem_cons_zero, getElem_cons_succ]
     refine AnyT.takeA (i := 13) (v := ?_) rfl (by kernel_rfl) (by kernel_rfl) (by kernel_rfl) (fun _ _ _ h => h) (Or.inl ⟨by rfl, ?_⟩) ?_
     rotate_left 1
     ·(intro w0 _; go_simp; try with_reducible rfl)
     try simp only [Act.put, setIfInBounds_toArray, set_cons_zero, set_cons_succ, getElem_toArray, getElem_cons_zero, getElem_cons_succ]
     refine AnyT.takeA (i := 14) (v := ?_) rfl (by kernel_rfl) (by kernel_rfl) (by kernel_rfl) (fun _ _ _ h => h) (Or.inl ⟨by rfl, ?_⟩) ?_
     rotate_left 1
     ·(intro w0 _; go_simp; try with_reducible rfl)
     try simp only [Act.put, setIfInBounds_toArray, set_cons_zero, set_cons_succ, getElem_toArray, getElem_cons_zero, getElem_cons_succ]
     refine AnyT.takeA (i := 15) (v := ?_) rfl (by kernel_rfl) (by kernel_rfl) (by kernel_rfl) (fun _ _ _ h => h) (Or.inl ⟨by rfl, ?_⟩) ?_
     rotate_left 1
     ·(intro w0 _; go_simp; try with_reducible rfl)
     try simp only [Act.put, setIfInBounds_toArray, set_cons_zero, set_cons_succ, getElem_toArray, getElem_cons_zero, getElem_cons_succ]
     refine AnyT.takeU (i := 16) (v := ?_) rfl (by kernel_rfl) (by kernel_rfl) (by kernel_rfl) (by kernel_rfl) (by kernel_rfl) (fun _ _ _ h => h) (Or.inl ⟨by rfl, ?_⟩) (by assumption) ?_
     rotate_left 1
     ·(intro w0 hSw; (try dsimp only at hSw); go_simp; try with_reducible rfl)
     try simp only [Act.put, setIfInBounds_toArray, set_cons_zero, set_cons_succ, getElem_toArray, getElem_cons_zero, getElem_cons_succ]
     refine AnyT.call (i := 17) (by kernel_rfl) rfl (fun K hK => ?_)
     try simp only [Act.put, setIfInBounds_toArray, set_cons_zero, set_cons_succ, getElem_toArray, getElem_cons_zero, getElem_cons_succ]
     rw [if_pos (by rfl)]
     go_simp
     (go_at_call 73; refine LC.out.mono ?_; rintro e w2 ⟨Z, zn, zc, rfl, oZ, bb⟩; have zz : wr.drew.heap.size ≤ w2.heap.size := bb.size; have dw20 : w2.cell? ⟨w1.heap.size, 1, none⟩ = some (.slice O on oc) := (bb.cell (p := ⟨w1.heap.size, 1, none⟩) hBw).trans kO; have dw21 : w2.cell? ⟨b, q * 3, none⟩ = some (.int .i64 xa) := (bb.cell (p := ⟨b, q * 3, none⟩) hbw).trans k0; have dw22 : w2.cell? ⟨b, q * 3 + 1, none⟩ = some (.int .i64 xr) := (bb.cell (p := ⟨b, q * 3 + 1, none⟩) hbw).trans k1; have dw23 : w2.cell? ⟨b, q * 3 + 2, none⟩ = some (.slice U un uc) := (bb.cell (p := ⟨b, q * 3 + 2, none⟩) hbw).trans k2; go_wp2_with fail)
     refine hK.out _ _ (fun _ _ => ?_) (fun hKeep => ?_)
     ·exact ⟨dw20, dw21, dw22, dw23⟩
     replace hHeld := hKeep (by first | rfl | trivial) hHeld
     clear hK K hKeep
     try simp only [Act.put, setIfInBounds_toArray, set_cons_zero, set_cons_succ, getElem_toArray, getElem_cons_zero, getElem_cons_succ]
     refine AnyT.takeA (i := 18) (v := ?_) rfl (by kernel_rfl) (by kernel_rfl) (by kernel_rfl) (fun _ _ _ h => h) (Or.inl ⟨by rfl, ?_⟩) ?_
     rotate_left 1
     ·(intro w0 _; go_simp; try with_reducible rfl)
     try simp only [Act.put, setIfInBounds_toArray, set_cons_zero, set_cons_succ, getElem_toArray, getElem_cons_zero, getElem_cons_succ]
     refine AnyT.call (i := 19) (by kernel_rfl) rfl (fun K hK => ?_)
     try simp only [Act.put, setIfInBounds_toArray, set_cons_zero, set_cons_succ, getElem_toArray, getElem_cons_zero, getElem_cons_succ]
     rw [if_pos (by rfl)]
     go_simp
     refine hK.out _ _ (fun _ _ => ?_) (fun hKeep => ?_)
     ·exact ⟨findSpec.keep_alloc dw20, findSpec.keep_alloc dw21, findSpec.keep_alloc dw22, findSpec.keep_alloc dw23⟩
     replace hHeld := hKeep (by first | rfl | trivial) hHeld
     clear hK K hKeep
     try simp only [Act.put, setIfInBounds_toArray, set_cons_zero, set_cons_succ, getElem_toArray, getElem_cons_zero, getElem_cons_succ]
     refine AnyT.call (i := 20) (by kernel_rfl) rfl (fun K hK => ?_)
     try simp only [Act.put, setIfInBounds_toArray, set_cons_zero, set_cons_succ, getElem_toArray, getElem_cons_zero, getElem_cons_succ]
     rw [if_pos (by rfl)]
     have b3 : Below w2.heap.size w2 (w2.alloc (.cells #[.int .i64 xa, .int .i64 xr, .slice Z zn zc] 92)) := (Below.refl _ _).alloc (Nat.le_refl _) _
     have W2 := hid (WZ.out.next bb)
     have HAPP := hid (show OwnL (w2.alloc (.cells #[.int .i64 xa, .int .i64 xr, .slice Z zn zc] 92)) (w1.heap.size + 1) wr.drew.heap.size 92 sStep O on oc (B.drop (q + 1)).reverse ∧ OwnL (w2.alloc (.cells #[.int .i64 xa, .int .i64 xr, .slice Z zn zc] 92)) wr.drew.heap.size (w2.heap.size + 1) 92 sStep (some ⟨w2.heap.size, 0, none⟩) 1 1 [(xa, xr, ys)] from ⟨((WZ.out.o).next bb).next b3, OwnL.single (e := 92) (s := sStep) (Row.new w2 92 #[.int .i64 xa, .int .i64 xr, .slice Z zn zc]) ((owned_step oZ xa xr).next b3) (Nat.le_refl _) bb.size⟩)
     refine wp_appL _ _ 48 92 sStep _ _ Try.underlying48 info_StepS rfl (by decide) rfl (w1.heap.size + 1) wr.drew.heap.size wr.drew.heap.size (w2.heap.size + 1) O on oc w2.heap.size 1 1 _ _ rfl HAPP.out.1 rfl HAPP.out.2 (Nat.le_refl _) (by omega) hon2 (by omega) (by simp; have := W2.out.r3.lt; omega) ?_
     intro A4 oc' w4 oL4 hg4 hat4 b4 hf4
     obtain ⟨O', rfl⟩ := hf4 (.inr (by omega))
     have y4 : w4.cell? ⟨w1.heap.size, 1, none⟩ = some (.slice O on oc) := (b4.cell (p := ⟨w1.heap.size, 1, none⟩) (by show w1.heap.size < w1.heap.size + 1; omega)).trans ((b3.cell (p := ⟨w1.heap.size, 1, none⟩) (by have := W2.out.r3.lt; exact this)).trans dw20)
     have f4 : w4.frozen? ⟨w1.heap.size, 1, none⟩ = false := ((W2.out.r3.next b3).below b4 (by omega)).free 1
     refine hK.out _ _ (fun h => by cases h) (fun _ => ?_)
     clear hK K
     try simp only [Act.put, setIfInBounds_toArray, set_cons_zero, set_cons_succ, getElem_toArray, getElem_cons_zero, getElem_cons_succ]
     refine AnyT.takeA (i := 21) (v := ?_) rfl (by kernel_rfl) (by kernel_rfl) (by kernel_rfl) (fun _ _ _ h => h) (Or.inl ⟨by rfl, ?_⟩) ?_
     rotate_left 1
     ·(intro w0 _; go_simp; try with_reducible rfl)
     try simp only [Act.put, setIfInBounds_toArray, set_cons_zero, set_cons_succ, getElem_toArray, getElem_cons_zero, getElem_cons_succ]
     refine AnyT.call (i := 22) (by kernel_rfl) rfl (fun K hK => ?_)
     try simp only [Act.put, setIfInBounds_toArray, set_cons_zero, set_cons_succ, getElem_toArray, getElem_cons_zero, getElem_cons_succ]
     rw [if_pos (by rfl)]
     go_simp
     refine hK.out _ _ (fun h => by cases h) (fun _ => ?_)
     clear hK K
     try simp only [Act.put, setIfInBounds_toArray, set_cons_zero, set_cons_succ, getElem_toArray, getElem_cons_zero, getElem_cons_succ]
     refine AnyT.done (by kernel_rfl) ?_ _
     have F := hid (show q ≤ bn ∧ Wz w fs w1.heap.size X (some ⟨O', 0, none⟩) xn xc (on + 1) oc' fr (B.drop q).reverse (w4.setCell ⟨w1.heap.size, 1, none⟩ (.slice (some ⟨O', 0, none⟩) (on + 1) oc')) ∧ Below w1.heap.size V (w4.setCell ⟨w1.heap.size, 1, none⟩ (.slice (some ⟨O', 0, none⟩) (on + 1) oc')) from
      ⟨by omega, by rw [HG.out.2.1]; exact W2.out.app oL4 hg4, (((HG.out.2.2.trans (bb.mono (by omega))).trans (b3.mono (by omega))).trans (b4.mono (by omega))).setCell (Nat.le_refl _) _⟩)
     clear oL4 hg4 hat4 b4 b3 y4 f4 W2 HAPP oZ bb dw20 dw21 dw22 dw23 kO k0 k1 k2 WZ HG LC
     go_wp2
     go_roundg q
     case measure => omega
     case rel => exact ⟨on + 1, oc', _, by simp, F.out⟩
  ·obtain ⟨f, hf⟩ : ∃ f, S.1[gk]? = some f := ⟨_, List.getElem?_eq_getElem (by rw [HA.out.1]; exact hg)⟩
   obtain ⟨hfr, hby⟩ := from_at (by omega) hf
   rw [hfr] at cp
   obtain ⟨pf, hpf, -, -, -⟩ := HA.out.2.2.2.1.par gk f (by omega) hf
   obtain ⟨yb, yoff, u, x, rfl, hyb, ex, k0, k1, k2, hx2⟩ := rd_step HR.out.2.2.1 bel HR.out.2.2.2 hg
   have hxf : x = f.1 := by rw [← hby]; exact ex.out.symm
   subst hxf
   obtain ⟨U, un, uc, rfl, hU, hcU⟩ := rd_ints.1 hx2
   have f0 : (0 : Int) ≤ (f.2.1 : Int) := by omega
   obtain ⟨V, hV⟩ : ∃ V, V = wr.alloc (.cells #[.int .i64 f.1.1, .int .i64 f.1.2.1, .slice U un uc] 92) := ⟨_, rfl⟩
   have bV : Below wr.heap.size wr V := by rw [hV]; exact (Below.refl _ _).alloc (Nat.le_refl _) _
   have rV : Row V wr.heap.size 92 #[.int .i64 f.1.1, .int .i64 f.1.2.1, .slice U un uc] := by rw [hV]; exact Row.new _ _ _
   have hge := xs.ge
   have hv : RdQ V (NotIn V (fun k => k = b)) sStep [.int .i64 f.1.1, .int .i64 f.1.2.1, .slice U un uc] f.1 := by
    refine notIn_of (B := w.heap.size) ?_ (Nat.le_trans bel.size bV.size) (fun k hk => by have hk : k = b := hk; omega)
    exact Rd.below (rd_step_mk hx2) (bV.mono bel.size)
   have HV := hid (show V = wr.alloc (.cells #[.int .i64 f.1.1, .int .i64 f.1.2.1, .slice U un uc] 92) ∧ XS V (fun k => k = b) (w.heap.size + 1 + 1) 92 sStep b bn bc B ∧ Row V wr.heap.size 92 #[.int .i64 f.1.1, .int .i64 f.1.2.1, .slice U un uc] ∧ RdQ V (NotIn V (fun k => k = b)) sStep [.int .i64 f.1.1, .int .i64 f.1.2.1, .slice U un uc] f.1 ∧ w.heap.size + 1 + 1 ≤ V.heap.size from ⟨hV, xs.below bV, rV, hv, by have := bV.size; omega⟩)
   have HK := hid (show Row V w.heap.size 79 fs ∧ Row V (w.heap.size + 1) 50 #[.slice none 0 0, .slice none 0 0] ∧ Below w.heap.size w V ∧ bk S.1 j = (B ++ [f.1]) ++ bk S.1 f.2.1 ∧ f.2.1 < gk ∧ pb < w.heap.size ∧ V.cell? ⟨pb, poff + gk, none⟩ = some (.int .i64 (f.2.1 : Int)) ∧ gk < yn from ⟨r0.next bV, r1.next bV, next_trans bel bV, by rw [hbk, bk_succ HA.out.2.2.2.1 (by omega) hf]; simp, hpf, hpb, by rw [← cp]; exact (next_trans bel bV).cell (p := ⟨pb, poff + gk, none⟩) hpb |>.trans (bel.cell (p := ⟨pb, poff + gk, none⟩) hpb).symm, hg⟩)
   clear hbk xs r0 r1 bel hpc hU hcU hpb hg hV bV rV hv hx2 ex hfr hby hpf pf hf hge hyb
   go_wp2_with (at_builtin; rw [← HV.out.1]; refine appXm rfl _ _ 48 92 sStep _ _ Try.underlying48 info_StepS rfl (by decide) rfl (fun k => k = b) (w.heap.size + 1 + 1) b bn bc wr.heap.size 1 B [.int .i64 f.1.1, .int .i64 f.1.2.1, .slice U un uc] f.1 rfl HV.out.2.1 rfl rfl (fun i hi => (HV.out.2.2.1.cell i).trans (List.getElem?_toArray ..)) HV.out.2.2.2.1 (by omega) HV.out.2.2.2.2 ?_; intro g4 c4 w4 x4 hg4 hat4 b4; have e1 : w4.cell? ⟨w.heap.size, 1, none⟩ = some (.slice (some ⟨pb, poff, none⟩) yn pc) := (by rw [(HK.out.1.below b4 (by omega)).cell 1, HF.out]; rfl); have e2 : w4.cell? ⟨pb, poff + gk, none⟩ = some (.int .i64 (f.2.1 : Int)) := (b4.cell (p := ⟨pb, poff + gk, none⟩) (by have := HK.out.2.2.2.2.2.1; show pb < _; omega)).trans HK.out.2.2.2.2.2.2.1; refine (?_ : Hid _).out)
   have F := hid (show f.2.1 < yn ∧ bk S.1 j = (B ++ [f.1]) ++ bk S.1 f.2.1 ∧ XS w4 (fun k => k = g4) (w.heap.size + 1 + 1) 92 sStep g4 (bn + 1) c4 (B ++ [f.1]) ∧ Row w4 w.heap.size 79 fs ∧ Row w4 (w.heap.size + 1) 50 #[.slice none 0 0, .slice none 0 0] ∧ Below w.heap.size w w4 from
    ⟨by have := HK.out.2.2.2.2; omega, HK.out.2.2.2.1, x4 _ (fun k hk e => by have e : k = g4 := e; rcases hat4 with h | h <;> omega), HK.out.1.below b4 (by omega), HK.out.2.1.below b4 (by omega), HK.out.2.2.1.trans (b4.mono (by omega))⟩)
   have G := hid HK.out.2.2.2.2.1
   clear x4 hg4 hat4 b4 HK HV k0 k1 k2 cp c1 c2 V
   refine hid ?_
   go_wp2
   go_roundg (f.2.1)
   case measure => exact G.out
   case rel => exact ⟨g4, bn + 1, c4, B ++ [f.1], rfl, rfl, F.out⟩
end reachSpec
end
section
open Go.Lib (hid)
namespace reachSpec
open Go.RowKit base ints sig term termOk termFacts marks app sub varsOf appAt sym segs segsHelp kinds same shifted shape kindsR kindsW ruleMath ruleSpec stepMath stepSpec ownL drawX walkMath stepsMath reachMath findW findSpec heldT longest walkSpec
set_option maxRecDepth 100000
theorem walk_cells {wr : World} {i : Nat} {a b : Value} (r : Row wr i 50 #[a, b]) (x y : Value) :
  wr.cell? ⟨i, 0, none⟩ = some a ∧ wr.cell? ⟨i, 1, none⟩ = some b ∧ wr.frozen? ⟨i, 0, none⟩ = false ∧ wr.frozen? ⟨i, 1, none⟩ = false ∧
  (wr.setCell ⟨i, 0, none⟩ x).cell? ⟨i, 1, none⟩ = some b ∧ (wr.setCell ⟨i, 0, none⟩ x).frozen? ⟨i, 1, none⟩ = false ∧
  ((wr.setCell ⟨i, 0, none⟩ x).setCell ⟨i, 1, none⟩ y).cell? ⟨i, 0, none⟩ = some x ∧ ((wr.setCell ⟨i, 0, none⟩ x).setCell ⟨i, 1, none⟩ y).cell? ⟨i, 1, none⟩ = some y := by
 have ra := r.put 0 x
 have rb := ra.put 1 y
 exact ⟨r.cell 0, r.cell 1, r.free 0, r.free 1, ra.cell 1, ra.free 1, rb.cell 0, rb.cell 1⟩
theorem to_no1 {sg : List Int} {rs : List Rl} {t s : List Int} {x : Int} (h : right9 sg rs t x = false) : toO sg rs t s x = none := by unfold toO; rw [if_neg (by rw [h]; simp)]
theorem to_no2 {sg : List Int} {rs : List Rl} {t s : List Int} {x : Int} (h : right9 sg rs s x = false) : toO sg rs t s x = none := by unfold toO; rw [if_neg (by rw [h]; simp)]
theorem to_yes {sg : List Int} {rs : List Rl} {t s : List Int} {n : Nat} (h : right9 sg rs t (n : Int) = true) (h2 : right9 sg rs s (n : Int) = true) : toO sg rs t s (n : Int) = (plcO (termsF (fdA sg rs t n).1) s).map (wkF (fdA sg rs t n).1) := by unfold toO; rw [if_pos (by rw [h, h2]; rfl), Int.toNat_natCast]; rfl
theorem ansWk_none {o : Option Wk} (h : o = none) {w w' : World} (hb : Below w.heap.size w w') : AnsWalk w (o.getD ([], [])) o.isSome (.returned (.tuple #[.agg #[.slice none 0 0, .slice none 0 0], .bool false])) w' := ansWalk_no (by rw [h]; exact ⟨rfl, rfl⟩) hb
set_option maxHeartbeats 2000000 in
theorem specWalkTo (a v u y : Value) (d : Dat sSystem) (t s : List Int) (x : Int) (w : World) (h : Rd w w.heap.size sSystem [a, v] d) (ht : Rd w w.heap.size sI [u] t) (hs : Rd w w.heap.size sI [y] s) (hz : sz sSystem d ≤ 1048576) (hz1 : sz sI t ≤ 1048576) (hz2 : sz sI s ≤ 1048576) :
  Calls Try.prog 30 #[.agg #[a, v], u, y, .int .i64 x] w (AnsWalk w ((toO d.1 d.2 t s x).getD ([], [])) (toO d.1 d.2 t s x).isSome) := by
 obtain ⟨T, m, c, rfl, hT, hcT⟩ := rd_ints.1 ht
 obtain ⟨T', m', c', rfl, hT', hcT'⟩ := rd_ints.1 hs
 have hm := len_ints hT.1 hz1
 have hm' := len_ints hT'.1 hz2
 obtain ⟨W, hW, rA, rR, bel⟩ := box2 w 34 50 #[a, v] #[.slice none 0 0, .slice none 0 0]
 have HW := hid hW
 have L1 := hid (l9Right a v d T m c t x W (h.next bel) hz (hT.next bel) hm)
 have L2 := hid (fun (w1 : World) (bb : Below w.heap.size w w1) => l9Right a v d T' m' c' s x w1 (h.next bb) hz (hT'.next bb) hm')
 have HH := hid (show Rd w w.heap.size sSystem [a, v] d ∧ Rd w w.heap.size sI [.slice T m c] t ∧ sz sSystem d ≤ 1048576 ∧ Seg w w.heap.size T' m' s from ⟨h, ht, hz, hT'⟩)
 clear hW h ht hs hz hT hcT hT' hcT'
 cases ok : right9 d.1 d.2 t x with
 | false =>
  have HO := hid (to_no1 (s := s) ok)
  rw [ok] at L1
  clear ok
  go_enter Try.func30, Try.ntmps30
  go_wp2_with fail
  rw [← HW.out]
  refine L1.out.mono ?_
  rintro e w1 ⟨rfl, bb⟩
  obtain ⟨y0, y1, g0, g1, y2, g2, u0, u1⟩ := walk_cells (rR.next bb) (.slice none 0 0) (.slice none 0 0)
  have b1 := next_trans bel bb
  have F := hid (ansWk_none HO.out ((b1.setCell (p := ⟨w.heap.size + 1, 0, none⟩) (by show _ ≤ w.heap.size + 1; omega) (.slice none 0 0)).setCell (p := ⟨w.heap.size + 1, 1, none⟩) (by show _ ≤ w.heap.size + 1; omega) (.slice none 0 0)))
  clear bb bel b1 rA rR L1 L2 HW
  go_wp2
  exact bodyPost_ret (v := .tuple #[.agg #[.slice none 0 0, .slice none 0 0], .bool false]) (by simp [results, Try.results30, go_sem, u0, u1]) rfl F.out
 | true =>
  rw [ok] at L1
  have HOK := hid ok
  go_enter Try.func30, Try.ntmps30
  go_wp2_with fail
  rw [← HW.out]
  refine L1.out.mono ?_
  rintro e w1 ⟨rfl, bb⟩
  have b1 := next_trans bel bb
  have LL := hid (L2.out w1 b1)
  have k0 : w1.cell? ⟨w.heap.size, 0, none⟩ = some a := (rA.next bb).cell 0
  have k1 : w1.cell? ⟨w.heap.size, 1, none⟩ = some v := (rA.next bb).cell 1
  have H1 := hid (show Row w1 w.heap.size 34 #[a, v] ∧ Row w1 (w.heap.size + 1) 50 #[.slice none 0 0, .slice none 0 0] ∧ Below w.heap.size w w1 from ⟨rA.next bb, rR.next bb, b1⟩)
  clear bb bel b1 rA rR L1 L2 HW
  cases ok2 : right9 d.1 d.2 s x with
  | false =>
   have HO := hid (to_no2 (t := t) ok2)
   rw [ok2] at LL
   clear ok ok2
   go_wp2_with fail
   refine LL.out.mono ?_
   rintro e w2 ⟨rfl, bb⟩
   obtain ⟨y0, y1, g0, g1, y2, g2, u0, u1⟩ := walk_cells (H1.out.2.1.next bb) (.slice none 0 0) (.slice none 0 0)
   have b1 := next_trans H1.out.2.2 bb
   have F := hid (ansWk_none HO.out ((b1.setCell (p := ⟨w.heap.size + 1, 0, none⟩) (by show _ ≤ w.heap.size + 1; omega) (.slice none 0 0)).setCell (p := ⟨w.heap.size + 1, 1, none⟩) (by show _ ≤ w.heap.size + 1; omega) (.slice none 0 0)))
   clear bb b1 LL k0 k1
   go_wp2
   exact bodyPost_ret (v := .tuple #[.agg #[.slice none 0 0, .slice none 0 0], .bool false]) (by simp [results, Try.results30, go_sem, u0, u1]) rfl F.out
  | true =>
   rw [ok2] at LL
   obtain ⟨q1, q2, q3⟩ := r9_parts ok
   obtain ⟨n, rfl⟩ : ∃ n : Nat, x = (n : Int) := ⟨x.toNat, by omega⟩
   have HO := hid (to_yes ok ok2)
   have hn : n ≤ 20 := by omega
   have HQ := hid q1
   clear ok ok2 q1 q2 q3
   go_wp2_with fail
   refine LL.out.mono ?_
   rintro e w2 ⟨rfl, bb⟩
   have b2 := next_trans H1.out.2.2 bb
   have k0 : w2.cell? ⟨w.heap.size, 0, none⟩ = some a := (H1.out.1.next bb).cell 0
   have k1 : w2.cell? ⟨w.heap.size, 1, none⟩ = some v := (H1.out.1.next bb).cell 1
   have LF := hid (l9Find a v (.slice T m c) d t n w2 (HH.out.1.next b2) (HH.out.2.1.next b2) HH.out.2.2.1 HQ.out hn)
   have H2 := hid (show Row w2 (w.heap.size + 1) 50 #[.slice none 0 0, .slice none 0 0] ∧ Below w.heap.size w w2 from ⟨H1.out.2.1.next bb, b2⟩)
   clear bb b2 LL H1
   go_wp2_with fail
   refine LF.out.mono ?_
   rintro e w3 ⟨T2, tn, tc, P, pn, pc, Y, yn, yc, E, en, ec, rfl, hR, bb⟩
   obtain ⟨S, hS⟩ : ∃ S, fdA d.1 d.2 t n = S := ⟨_, rfl⟩
   have hI : Inv d.1 d.2 t n S 60 := by rw [← hS]; exact fd_inv
   have hsm := fd_small (n := n) HQ.out
   rw [hS] at hR hsm HO
   rw [hS]
   obtain ⟨hT2, -⟩ := parts_found hR
   have htn : tn ≤ 1048576 := by rw [← rd_ts hT2, termsF_len]; omega
   obtain ⟨V, hV⟩ : ∃ V, V = w3.alloc (.cells #[.slice T2 tn tc, .slice P pn pc, .slice Y yn yc, .slice E en ec, .bool S.2] 79) := ⟨_, rfl⟩
   have bV : Below w3.heap.size w3 V := by rw [hV]; exact (Below.refl _ _).alloc (Nat.le_refl _) _
   have rV : Row V w3.heap.size 79 #[.slice T2 tn tc, .slice P pn pc, .slice Y yn yc, .slice E en ec, .bool S.2] := by rw [hV]; exact Row.new _ _ _
   have b3 := next_trans (next_trans H2.out.2 bb) bV
   have LP := hid (termPlace T2 T' tn tc m' c' (termsF S.1) s V (hT2.next bV) (HH.out.2.2.2.next b3) htn hm' hsm.2)
   have HV := hid (show V = w3.alloc (.cells #[.slice T2 tn tc, .slice P pn pc, .slice Y yn yc, .slice E en ec, .bool S.2] 79) ∧ Row V (w.heap.size + 1) 50 #[.slice none 0 0, .slice none 0 0] ∧ Row V w3.heap.size 79 #[.slice T2 tn tc, .slice P pn pc, .slice Y yn yc, .slice E en ec, .bool S.2] ∧ Below w.heap.size w V ∧ Rd V V.heap.size sFound [.slice T2 tn tc, .slice P pn pc, .slice Y yn yc, .slice E en ec, .bool S.2] (fdD S) from ⟨hV, (H2.out.1.next bb).next bV, rV, b3, hR.next bV⟩)
   have HI := hid hI
   have c0 : V.cell? ⟨w3.heap.size, 0, none⟩ = some (.slice T2 tn tc) := rV.cell 0
   clear hV bV rV b3 hR hI hsm bb hT2 htn hS k0 k1 LF H2 HH
   go_wp2_with fail
   rw [← HV.out.1]
   refine LP.out.mono ?_
   rintro e w4 ⟨rfl, bb⟩
   cases hp : plcO (termsF S.1) s with
   | none =>
    have HO2 := hid (show toO d.1 d.2 t s (n : Int) = none from by rw [HO.out, hp]; rfl)
    obtain ⟨y0, y1, g0, g1, y2, g2, u0, u1⟩ := walk_cells (HV.out.2.1.next bb) (.slice none 0 0) (.slice none 0 0)
    have b1 := next_trans HV.out.2.2.2.1 bb
    have F := hid (ansWk_none HO2.out ((b1.setCell (p := ⟨w.heap.size + 1, 0, none⟩) (by show _ ≤ w.heap.size + 1; omega) (.slice none 0 0)).setCell (p := ⟨w.heap.size + 1, 1, none⟩) (by show _ ≤ w.heap.size + 1; omega) (.slice none 0 0)))
    clear bb b1 LP c0 HV HO hp
    go_wp2
    exact bodyPost_ret (v := .tuple #[.agg #[.slice none 0 0, .slice none 0 0], .bool false]) (by simp [results, Try.results30, go_sem, u0, u1]) rfl F.out
   | some j =>
    have HO2 := hid (show toO d.1 d.2 t s (n : Int) = some (wkF S.1 j) from by rw [HO.out, hp]; rfl)
    obtain ⟨hj, -⟩ := plc_spot hp
    rw [termsF_len] at hj
    have r4 := HV.out.2.2.1.next bb
    have k0 : w4.cell? ⟨w3.heap.size, 0, none⟩ = some (.slice T2 tn tc) := r4.cell 0
    have k1 : w4.cell? ⟨w3.heap.size, 1, none⟩ = some (.slice P pn pc) := r4.cell 1
    have k2 : w4.cell? ⟨w3.heap.size, 2, none⟩ = some (.slice Y yn yc) := r4.cell 2
    have k3 : w4.cell? ⟨w3.heap.size, 3, none⟩ = some (.slice E en ec) := r4.cell 3
    have k4 : w4.cell? ⟨w3.heap.size, 4, none⟩ = some (.bool S.2) := r4.cell 4
    have LW := hid (l9Walk T2 P Y E tn tc pn pc yn yc en ec d.1 d.2 t n 60 S j w4 (HV.out.2.2.2.2.next bb) HI.out HQ.out hj hn)
    have H4 := hid (show Row w4 (w.heap.size + 1) 50 #[.slice none 0 0, .slice none 0 0] ∧ Below w.heap.size w w4 ∧ w.heap.size + 1 < w4.heap.size from ⟨HV.out.2.1.next bb, next_trans HV.out.2.2.2.1 bb, (HV.out.2.1.next bb).lt⟩)
    have j0 : ¬ (j : Int) < 0 := by omega
    have hpl : plcI (some j) = (j : Int) := rfl
    rw [hpl]
    clear bb LP c0 HV HO hp r4 hj hpl
    go_wp2_with fail
    refine LW.out.mono ?_
    rintro e w5 ⟨A0, n0, e0, A1, n1, e1, rfl, ow, bb⟩
    obtain ⟨y0, y1, g0, g1, y2, g2, u0, u1⟩ := walk_cells (H4.out.1.next bb) (.slice A0 n0 e0) (.slice A1 n1 e1)
    have F := hid (show AnsWalk w ((toO d.1 d.2 t s (n : Int)).getD ([], [])) (toO d.1 d.2 t s (n : Int)).isSome (.returned (.tuple #[.agg #[.slice A0 n0 e0, .slice A1 n1 e1], .bool true])) ((w5.setCell ⟨w.heap.size + 1, 0, none⟩ (.slice A0 n0 e0)).setCell ⟨w.heap.size + 1, 1, none⟩ (.slice A1 n1 e1)) from
     ⟨_, _, _, _, _, _, by rw [HO2.out]; rfl, by rw [HO2.out]; exact ((ow.put (g := w.heap.size + 1) (i := 0) (.inl H4.out.2.2)).put (g := w.heap.size + 1) (i := 1) (.inl H4.out.2.2)).wider H4.out.2.1.size (by simp), ((next_trans H4.out.2.1 bb).setCell (show w.heap.size ≤ w.heap.size + 1 by omega) _).setCell (show w.heap.size ≤ w.heap.size + 1 by omega) _⟩)
    clear ow bb LW k0 k1 k2 k3 k4 H4
    go_wp2
    exact bodyPost_ret (v := .tuple #[.agg #[.slice A0 n0 e0, .slice A1 n1 e1], .bool true]) (by simp [results, Try.results30, go_sem, u0, u1]) rfl F.out
end reachSpec
end
section
open Go.Lib (hid)
open List (setIfInBounds_toArray set_cons_zero set_cons_succ getElem_toArray getElem_cons_zero getElem_cons_succ)
namespace reachWalk
open Go.RowKit Go.Maps base ints sig term termOk marks app appAt sym segs segsHelp termFacts varsOf shape kindsR kindsW ruleMath ruleSpec stepMath walkMath reachMath stepSpec reachSpec findW findSpec heldT ownL drawX reachImpl known pickOwn revSteps
set_option maxRecDepth 100000
theorem wp_look {w : World} {o : Oper} {a : Act} {K : Act → World → Prop} {Q : Exit → Act → World → Prop} (m x : Operand) (hop : o.op = Op.lookup 87 m x true) (b n : Nat) (L : List (List Int)) (u : List Int) (hK : Kn w b n L) (hu : Small u) (hnd : L.Nodup)
  (hm : a.eval m = .map (some b)) (hx : a.eval x = .string (strOfNums (keyN u))) (h : ∀ c : Int, (∀ i : Nat, plcO L u = some i → c = (i : Int)) → K (a.put o.dst (.tuple #[.int .i64 c, .bool (plcO L u).isSome])) w) : o.wp Try.prog a w K Q := by
 obtain ⟨D, hown, h2, h3, h4⟩ := hK
 have hkey := key_of u hu
 obtain ⟨v, ps, hrun, hv⟩ := hown.look_ok (string_keyed Try.underlying9) (t := 87) (e := 3) Try.underlying87 (zero_int w) (plainElem_int Try.underlying3 (by decide)) hkey
 obtain ⟨c, rfl, hc, -⟩ := plainElem_int_inv Try.underlying3 hv
 unfold Oper.wp execOp
 simp only [hop, hm, hx]
 have hhas : Maps.has D (klit u) = (plcO L u).isSome := by
  rw [h3 u hu]
  cases hp : (plcO L u).isSome with
  | true => exact decide_eq_true (plc_mem.1 hp)
  | false => exact decide_eq_false (fun hmem => by rw [plc_mem.2 hmem] at hp; cases hp)
 rw [hhas] at hrun
 simp [hrun, Result.andThen]
 refine h c fun i hi => ?_
 obtain ⟨hil, hie⟩ := plc_spot hi
 have h5 := h4 i hil
 rw [hie] at h5
 have hc' : D.atKey (klit u) (.lit (.int .i64 0)) = .lit (.int .i64 c) := congrArg Prod.fst hc
 rw [h5] at hc'
 injection hc' with hc'
 injection hc' with _ hc'
 exact hc'.symm
def AnsRw (w : World) (lo mid : Nat) (o : Option Wk) (e : Ending) (w' : World) : Prop := ∃ A0 n0 c0 A1 n1 c1, e = .returned (.tuple #[.agg #[.slice A0 n0 c0, .slice A1 n1 c1], .bool o.isSome]) ∧
 (∃ F, Ow w' sWalk [.slice A0 n0 c0, .slice A1 n1 c1] (o.getD ([], [])) F ∧ F.Nodup ∧ ∀ q ∈ F, (lo ≤ q ∧ q < mid) ∨ (w.heap.size ≤ q ∧ q < w'.heap.size)) ∧ Below w.heap.size w w'
theorem ansRw_no {w w' : World} {lo mid : Nat} {o : Option Wk} (h : o = none) (hb : Below w.heap.size w w') : AnsRw w lo mid o (.returned (.tuple #[.agg #[.slice none 0 0, .slice none 0 0], .bool false])) w' := by
 subst h
 exact ⟨none, 0, 0, none, 0, 0, rfl, ⟨[], ⟨[.slice none 0 0], [.slice none 0 0], [], [], rfl, rfl, ⟨none, 0, 0, rfl, rfl, .inl ⟨rfl, rfl, rfl, rfl⟩⟩, ⟨none, 0, 0, rfl, rfl, .inl ⟨rfl, rfl, rfl, rfl⟩⟩⟩, List.nodup_nil, fun k hk => by cases hk⟩, hb⟩
structure Way (L : List Fi) (j : Nat) (Q : List Nat) (i : Nat) : Prop where
 bk : bk L j = (Q.map fun q => (L.getD q (startF [])).1) ++ bk L i
 gt : ∀ q ∈ Q, i < q ∧ q < L.length
 desc : Q.Pairwise (· > ·)
theorem way_zero (L : List Fi) (j : Nat) : Way L j [] j := ⟨rfl, (fun q hq => by cases hq), List.Pairwise.nil⟩
theorem Way.step {sg : List Int} {rs : List Rl} {t : List Int} {n z i j : Nat} {S : Fs} {Q : List Nat} {f : Fi} (h : Way S.1 j Q i) (hI : Inv sg rs t n S z) (h0 : 0 < i) (hf : S.1[i]? = some f) : Way S.1 j (Q ++ [i]) f.2.1 ∧ f.2.1 < i := by
 obtain ⟨g, h1, h2, -, -⟩ := hI.par i f h0 hf
 have hi := (List.getElem?_eq_some_iff.1 hf).1
 refine ⟨⟨?_, fun q hq => ?_, ?_⟩, h1⟩
 ·rw [h.bk, bk_succ hI h0 hf]
  simp [List.getD, hf]
 ·rcases List.mem_append.1 hq with hq | hq
  ·have := h.gt q hq; omega
  ·rw [List.mem_singleton.1 hq]; omega
 ·exact List.pairwise_append.2 ⟨h.desc, by simp, fun a ha b hb => by rw [List.mem_singleton.1 hb]; exact (h.gt a ha).1⟩
theorem Way.len {sg : List Int} {rs : List Rl} {t : List Int} {n z i j : Nat} {S : Fs} {Q : List Nat} (h : Way S.1 j Q i) (hI : Inv sg rs t n S z) (hj : j < S.1.length) (hn : n ≤ 60) : Q.length ≤ 60 := by
 have h1 := bk_len hI j _ (List.getElem?_eq_getElem hj)
 have h2 := hI.dn _ (List.getElem_mem hj)
 rw [h.bk, List.length_append, List.length_map] at h1
 omega
structure Rw (w V : World) (bx lo mid : Nat) (fs : Array Value) (L : List Fi) (vs : List Value) (X : Value) (j : Nat) (A : Option Addr) (n c : Nat) (Q : List Nat) (i : Nat) (wr : World) : Prop where
 way : Way L j Q i
 lt : i < L.length
 len : Q.length = n
 row : ∃ us, wr.ownsRow (bx + 1) 92 3 (.slice A n c) n us ∧ ∀ k, k < n → ∃ x : El, cellsOf 3 us k = encEl x ∧ (cellsOf 5 vs (Q.getD k 0)).take 3 = encEl x
 nil : A = none → c = 0
 r0 : Row wr w.heap.size 89 fs
 r1 : Row wr (w.heap.size + 1) 50 #[.slice none 0 0, .slice none 0 0]
 r3 : Row wr bx 50 #[X, .slice A n c]
 bel : Below bx V wr
theorem Rw.answer {w V wr : World} {lo mid on oc j bx g n c : Nat} {S : Fs} {sg : List Int} {rs : List Rl} {t : List Int} {nn z : Nat} {vs us : List Value} {G : Nat → List Nat} {A : Option Addr} {Q : List Nat} {T : Option Addr} {tn tc : Nat}
  (oG : OwnG V lo mid 94 sFind (some ⟨g, 0, none⟩) on oc (S.1.map fdat) vs G) (hI : Inv sg rs t nn S z) (hj : j < S.1.length) (hw : Way S.1 j Q 0) (hlen : Q.length = n) (hb : Below bx V wr) (hmid : mid ≤ w.heap.size) (hbx : w.heap.size + 1 < bx) (hlo : lo ≤ mid)
  (hX : cellsOf 5 vs 0 = [.int .i64 0, .int .i64 0, .slice T tn tc, .int .i64 0, .int .i64 0])
  (hr : wr.ownsRow (bx + 1) 92 3 (.slice A n c) n us) (hA : A = none → c = 0) (hc : ∀ k, k < n → ∃ x : El, cellsOf 3 us k = encEl x ∧ (cellsOf 5 vs (Q.getD (n - 1 - k) 0)).take 3 = encEl x) (hbel : Below w.heap.size w wr) :
  AnsRw w lo mid (some (wkF S.1 j)) (.returned (.tuple #[.agg #[.slice T tn tc, .slice A n c], .bool true])) ((wr.setCell ⟨w.heap.size + 1, 0, none⟩ (.slice T tn tc)).setCell ⟨w.heap.size + 1, 1, none⟩ (.slice A n c)) := by
 have oW := oG.below (hb.mono (show mid ≤ bx by omega))
 have hon : S.1.length = on := by have := oG.1; simpa using this
 obtain ⟨g0, T0, tn0, tc0, -, -, -, -, hc0, -, -, o0⟩ := oW.find hI.head
 rw [hX] at hc0
 injection hc0 with _ hc0
 injection hc0 with _ hc0
 injection hc0 with hc0 _
 injection hc0 with a1 a2 a3
 subst a1 a2 a3
 have hbk : bk S.1 j = Q.map fun q => (S.1.getD q (startF [])).1 := by rw [hw.bk, bk_zero, List.append_nil]
 have hgt : ∀ k, k < n → 0 < Q.getD k 0 ∧ Q.getD k 0 < on := fun k hk => by
  have hk2 : k < Q.length := by omega
  have e : Q.getD k 0 = Q[k] := by simp [List.getD, hk2]
  rw [e]
  have := hw.gt _ (List.getElem_mem hk2)
  omega
 have hinj : ∀ i k, i < n → k < n → Q.getD (n - 1 - i) 0 = Q.getD (n - 1 - k) 0 → i = k := fun i k hi hk e => by
  have h1 : n - 1 - i < Q.length := by omega
  have h2 : n - 1 - k < Q.length := by omega
  have e1 : Q.getD (n - 1 - i) 0 = Q[n - 1 - i] := by simp [List.getD, h1]
  have e2 : Q.getD (n - 1 - k) 0 = Q[n - 1 - k] := by simp [List.getD, h2]
  rw [e1, e2] at e
  have hp := List.pairwise_iff_getElem.1 hw.desc
  rcases Nat.lt_trichotomy (n - 1 - i) (n - 1 - k) with h3 | h3 | h3
  ·have := hp _ _ h1 h2 h3; omega
  ·omega
  ·have := hp _ _ h2 h1 h3; omega
 have oR := pickG (s' := sStep) (D' := (bk S.1 j).reverse) (σ := fun k => Q.getD (n - 1 - k) 0) oW (row_lower hr (show mid ≤ bx + 1 by omega)) hA hlo (fun k hk => (hgt _ (by omega)).2) hinj (by rw [hbk, List.length_reverse, List.length_map, hlen]) (fun k hk => by
  obtain ⟨x, x1, x2⟩ := hc k hk
  obtain ⟨f, hf⟩ : ∃ f, S.1[Q.getD (n - 1 - k) 0]? = some f := ⟨_, List.getElem?_eq_getElem (by have := (hgt (n - 1 - k) (by omega)).2; omega)⟩
  obtain ⟨g1, T1, tn1, tc1, -, -, -, -, hc1, -, o1, -⟩ := oW.find hf
  rw [hc1] at x2
  show Ow wr sStep (cellsOf 3 us k) _ _
  rw [x1, ← x2]
  have e : (bk S.1 j).reverse.getD k (dft sStep) = f.1 := by
   rw [hbk]
   simp only [List.getD]
   have h9 : n - 1 - k < Q.length := by omega
   rw [List.getElem?_reverse (by rw [List.length_map]; omega), List.length_map, hlen, List.getElem?_map, List.getElem?_eq_getElem h9]
   have e1 : Q.getD (n - 1 - k) 0 = Q[n - 1 - k] := by simp [List.getD, h9]
   rw [e1] at hf
   simp [List.getD, hf]
  rw [e]
  exact o1)
 obtain ⟨F, oF, nF, mF⟩ := oR.ow
 obtain ⟨nd1, nd2⟩ := flat_nd.1 oG.2.2.2.2.1
 have h6 : ∀ q ∈ G 0, lo ≤ q ∧ q < mid := fun q hq => by have := (oG.2.2.2.2.2 0 (by have := hI.len1; omega)).2 q hq; exact ⟨this.1, this.2.1⟩
 have h7 : ∀ q ∈ F, bx + 1 ≤ q ∨ ∃ k, 0 < k ∧ k < on ∧ q ∈ G k := fun q hq => by
  rcases mF q hq with h | ⟨k, hk, h⟩
  ·exact .inl (World.ownsRow.lt hr q (by rw [blk_own]; exact h)).1
  ·have := hgt (n - 1 - k) (by omega)
   exact .inr ⟨_, this.1, this.2, h⟩
 have h8 : ∀ q ∈ F, (lo ≤ q ∧ q < mid) ∨ bx + 1 ≤ q := fun q hq => by
  rcases h7 q hq with h | ⟨k, -, hk, h⟩
  ·exact .inr h
  ·have := (oG.2.2.2.2.2 k hk).2 q h; exact .inl ⟨this.1, this.2.1⟩
 have hOw : Ow wr sWalk [.slice T tn tc, .slice A n c] (wkF S.1 j) (G 0 ++ F) := by
  refine ⟨[.slice T tn tc], [.slice A n c], G 0, F, rfl, rfl, ?_, oF⟩
  have e : (wkF S.1 j).1 = termF (startF t) := wk_first hI j
  show Ow wr sI _ (wkF S.1 j).1 _
  rw [e]; exact o0
 have hall : ∀ q ∈ G 0 ++ F, (lo ≤ q ∧ q < mid) ∨ bx + 1 ≤ q := fun q hq => by
  rcases List.mem_append.1 hq with h | h
  ·exact .inl (h6 q h)
  ·exact h8 q h
 refine ⟨_, _, _, _, _, _, rfl, ⟨G 0 ++ F, ?_, List.nodup_append.2 ⟨nd1 0 (by have := hI.len1; omega), nF, fun x hx y hy e => ?_⟩, fun q hq => ?_⟩, (hbel.setCell (show w.heap.size ≤ w.heap.size + 1 by omega) _).setCell (show w.heap.size ≤ w.heap.size + 1 by omega) _⟩
 ·refine hOw.keep fun q hq => ?_
  have := hall q hq
  rw [Below.heap_setCell _ _ _ q (show q ≠ w.heap.size + 1 by omega), Below.heap_setCell _ _ _ q (show q ≠ w.heap.size + 1 by omega)]
 ·subst e
  rcases h7 x hy with h | ⟨k, h0, hk, h⟩
  ·have := h6 x hx; omega
  ·exact nd2 0 k (by omega) hk (by omega) x hx h
 ·rcases hall q hq with h | h
  ·exact .inl h
  ·refine .inr ⟨by omega, ?_⟩
   have := hOw.lt q hq
   simpa using this
set_option maxHeartbeats 4000000 in
theorem implWalk (lo mid : Nat) (O : Option Addr) (on oc mb cnt : Nat) (S : Fs) (U : Option Addr) (un uc : Nat) (u : List Int) (sg : List Int) (rs : List Rl) (t : List Int) (n z : Nat) (w : World) (hO : OwnL w lo mid 94 sFind O on oc (S.1.map fdat)) (hK : Kn w mb cnt (termsF S.1)) (hI : Inv sg rs t n S z) (hU : Seg w w.heap.size U un u) (hu : Small u) (hn : n ≤ 60) (hmid : mid ≤ w.heap.size) (hlo : lo ≤ mid) :
  Calls Try.prog 55 #[.agg #[.slice O on oc, .map (some mb), .bool S.2], .slice U un uc] w (AnsRw w lo mid ((plcO (termsF S.1) u).map (wkF S.1))) := by
 obtain ⟨vs, G, oG⟩ := named hO
 have hon : S.1.length = on := by have := oG.1; simpa using this
 obtain ⟨g, T, tn, tc, rfl, -, hg1, hg2, hX, ⟨-, -, e2, -, -⟩, -, -⟩ := oG.find hI.head
 have hon60 : on ≤ 60 := by rw [← hon]; exact hI.len60
 obtain ⟨W, hW, r0, r1, bel⟩ := box2 w 89 50 #[.slice (some ⟨g, 0, none⟩) on oc, .map (some mb), .bool S.2] #[.slice none 0 0, .slice none 0 0]
 have HW := hid hW
 have c1 : W.cell? ⟨w.heap.size, 1, none⟩ = some (.map (some mb)) := r0.cell 1
 have LK := hid (implKeyOf U un uc u W.drew (hU.next bel).drew hu)
 have H0 := hid (show Row W.drew w.heap.size 89 #[.slice (some ⟨g, 0, none⟩) on oc, .map (some mb), .bool S.2] ∧ Row W.drew (w.heap.size + 1) 50 #[.slice none 0 0, .slice none 0 0] ∧ Below w.heap.size w W.drew ∧ Kn W.drew mb cnt (termsF S.1) ∧ Small u from ⟨r0.drew, r1.drew, bel.drew, (hK.below bel).drew, hu⟩)
 have HG := hid (show OwnG w lo mid 94 sFind (some ⟨g, 0, none⟩) on oc (S.1.map fdat) vs G ∧ S.1.length = on ∧ on ≤ 60 ∧ Inv sg rs t n S z ∧ n ≤ 60 ∧ mid ≤ w.heap.size ∧ lo ≤ mid ∧ g < mid ∧ cellsOf 5 vs 0 = [.int .i64 0, .int .i64 0, .slice T tn tc, .int .i64 0, .int .i64 0] ∧ w.cell? ⟨g, 0 * 5 + 2, none⟩ = some (.slice T tn tc) from ⟨oG, hon, hon60, hI, hn, hmid, hlo, hg2, hX, e2⟩)
 obtain ⟨p, hp⟩ : ∃ p, plcO (termsF S.1) u = p := ⟨_, rfl⟩
 have HP := hid hp
 have hnd := hid hI.nodup
 rw [hp]
 clear hW hO hK hI hU hn hmid hlo hon hg1 hg2 hX e2 oG r0 r1 bel hon60 hp hu
 go_enter Try.func55, Try.ntmps55
 go_upto_region 1 with fail
 rw [← HW.out]
 refine AnyT.start (S := (fun w' => w'.cell? ⟨w.heap.size, 1, none⟩ = some (.map (some mb)))) (fun _ => false) (by kernel_rfl) c1 (fun hHeld => ?_)
 refine AnyT.takeA (i := 0) (v := ?_) rfl (by kernel_rfl) (by kernel_rfl) (by kernel_rfl) (fun _ _ _ h => h) (Or.inl ⟨by rfl, ?_⟩) ?_
 rotate_left 1
 ·(intro w0 _; go_simp; try with_reducible rfl)
 try simp only [Act.put, setIfInBounds_toArray, set_cons_zero, set_cons_succ, getElem_toArray, getElem_cons_zero, getElem_cons_succ]
 refine AnyT.take (i := 1) (v := ?_) rfl (by kernel_rfl) (by kernel_rfl) (by kernel_rfl) (by kernel_rfl) (fun _ _ _ h => h) (Or.inl ⟨by rfl, ?_⟩) (by assumption) ?_
 rotate_left 1
 ·(intro w0 hSw; (try dsimp only at hSw); go_simp; try with_reducible rfl)
 try simp only [Act.put, setIfInBounds_toArray, set_cons_zero, set_cons_succ, getElem_toArray, getElem_cons_zero, getElem_cons_succ]
 refine AnyT.takeA (i := 2) (v := ?_) rfl (by kernel_rfl) (by kernel_rfl) (by kernel_rfl) (fun _ _ _ h => h) (Or.inl ⟨by rfl, ?_⟩) ?_
 rotate_left 1
 ·(intro w0 _; go_simp; try with_reducible rfl)
 try simp only [Act.put, setIfInBounds_toArray, set_cons_zero, set_cons_succ, getElem_toArray, getElem_cons_zero, getElem_cons_succ]
 refine AnyT.call (i := 3) (by kernel_rfl) rfl (fun K hK => ?_)
 try simp only [Act.put, setIfInBounds_toArray, set_cons_zero, set_cons_succ, getElem_toArray, getElem_cons_zero, getElem_cons_succ]
 rw [if_pos (by rfl)]
 go_simp
 (go_at_call 82; refine LK.out.mono ?_; rintro e w1 ⟨rfl, bb⟩; have d1 : w1.cell? ⟨w.heap.size, 1, none⟩ = some (.map (some mb)) := (H0.out.1.next bb).cell 1; go_wp2_with fail)
 refine hK.out _ _ (fun _ _ => ?_) (fun hKeep => ?_)
 ·exact d1
 replace hHeld := hKeep (by first | rfl | trivial) hHeld
 clear hK K hKeep
 try simp only [Act.put, setIfInBounds_toArray, set_cons_zero, set_cons_succ, getElem_toArray, getElem_cons_zero, getElem_cons_succ]
 refine AnyT.call (i := 4) (by kernel_rfl) rfl (fun K hK => ?_)
 try simp only [Act.put, setIfInBounds_toArray, set_cons_zero, set_cons_succ, getElem_toArray, getElem_cons_zero, getElem_cons_succ]
 rw [if_pos (by rfl)]
 refine wp_look _ _ rfl mb cnt (termsF S.1) u (H0.out.2.2.2.1.below bb) H0.out.2.2.2.2 hnd.out rfl rfl ?_
 intro q hq
 rw [HP.out]
 refine hK.out _ _ (fun _ _ => ?_) (fun hKeep => ?_)
 ·exact d1
 replace hHeld := hKeep (by first | rfl | trivial) hHeld
 clear hK K hKeep
 try simp only [Act.put, setIfInBounds_toArray, set_cons_zero, set_cons_succ, getElem_toArray, getElem_cons_zero, getElem_cons_succ]
 refine AnyT.takeA (i := 5) (v := ?_) rfl (by kernel_rfl) (by kernel_rfl) (by kernel_rfl) (fun _ _ _ h => h) (Or.inl ⟨by rfl, ?_⟩) ?_
 rotate_left 1
 ·(intro w0 _; go_simp; try with_reducible rfl)
 try simp only [Act.put, setIfInBounds_toArray, set_cons_zero, set_cons_succ, getElem_toArray, getElem_cons_zero, getElem_cons_succ]
 refine AnyT.takeA (i := 6) (v := ?_) rfl (by kernel_rfl) (by kernel_rfl) (by kernel_rfl) (fun _ _ _ h => h) (Or.inl ⟨by rfl, ?_⟩) ?_
 rotate_left 1
 ·(intro w0 _; go_simp; try with_reducible rfl)
 try simp only [Act.put, setIfInBounds_toArray, set_cons_zero, set_cons_succ, getElem_toArray, getElem_cons_zero, getElem_cons_succ]
 refine AnyT.takeA (i := 7) (v := ?_) rfl (by kernel_rfl) (by kernel_rfl) (by kernel_rfl) (fun _ _ _ h => h) (Or.inl ⟨by rfl, ?_⟩) ?_
 rotate_left 1
 ·(intro w0 _; go_simp; try with_reducible rfl)
 try simp only [Act.put, setIfInBounds_toArray, set_cons_zero, set_cons_succ, getElem_toArray, getElem_cons_zero, getElem_cons_succ]
 refine AnyT.takeA (i := 8) (v := ?_) rfl (by kernel_rfl) (by kernel_rfl) (by kernel_rfl) (fun _ _ _ h => h) (Or.inl ⟨by rfl, ?_⟩) ?_
 rotate_left 1
 ·(intro w0 _; go_simp; try with_reducible rfl)
 try simp only [Act.put, setIfInBounds_toArray, set_cons_zero, set_cons_succ, getElem_toArray, getElem_cons_zero, getElem_cons_succ]
 refine AnyT.takeA (i := 9) (v := ?_) rfl (by kernel_rfl) (by kernel_rfl) (by kernel_rfl) (fun _ _ _ h => h) (Or.inl ⟨by rfl, ?_⟩) ?_
 rotate_left 1
 ·(intro w0 _; go_simp; try with_reducible rfl)
 try simp only [Act.put, setIfInBounds_toArray, set_cons_zero, set_cons_succ, getElem_toArray, getElem_cons_zero, getElem_cons_succ]
 refine AnyT.done (by kernel_rfl) ?_ _
 have H1 := hid (show Row w1 w.heap.size 89 #[.slice (some ⟨g, 0, none⟩) on oc, .map (some mb), .bool S.2] ∧ Row w1 (w.heap.size + 1) 50 #[.slice none 0 0, .slice none 0 0] ∧ Below w.heap.size w w1 from ⟨H0.out.1.next bb, H0.out.2.1.next bb, next_trans H0.out.2.2.1 bb⟩)
 clear d1 c1 bb H0 LK hnd
 cases p with
 | none =>
  obtain ⟨y0, y1, g0, g1, y2, g2, u0, u1⟩ := walk_cells H1.out.2.1 (.slice none 0 0) (.slice none 0 0)
  have F := hid (ansRw_no (lo := lo) (mid := mid) (o := (none : Option Nat).map (wkF S.1)) rfl ((H1.out.2.2.setCell (p := ⟨w.heap.size + 1, 0, none⟩) (by show _ ≤ w.heap.size + 1; omega) (.slice none 0 0)).setCell (p := ⟨w.heap.size + 1, 1, none⟩) (by show _ ≤ w.heap.size + 1; omega) (.slice none 0 0)))
  clear hq HP
  go_wp2
  exact bodyPost_ret (v := .tuple #[.agg #[.slice none 0 0, .slice none 0 0], .bool false]) (by simp [results, Try.results55, go_sem, u0, u1]) rfl F.out
 | some j =>
  obtain rfl := hq j HP.out
  have hj : j < S.1.length := by have := (plc_spot HP.out).1; rwa [termsF_len] at this
  obtain ⟨V, hV⟩ : ∃ V, V = w1.alloc (.cells #[.slice T tn tc, .slice none 0 0] 50) := ⟨_, rfl⟩
  have bV : Below w1.heap.size w1 V := by rw [hV]; exact (Below.refl _ _).alloc (Nat.le_refl _) _
  have z1 : w.heap.size + 1 < w1.heap.size := H1.out.2.1.lt
  have zg : g < w.heap.size := by have := HG.out.2.2.2.2.2; omega
  have k0 : w1.cell? ⟨w.heap.size, 0, none⟩ = some (.slice (some ⟨g, 0, none⟩) on oc) := H1.out.1.cell 0
  have k2 : w1.cell? ⟨g, 2, none⟩ = some (.slice T tn tc) := (H1.out.2.2.cell (p := ⟨g, 2, none⟩) zg).trans (by have := HG.out.2.2.2.2.2.2.2.2.2; simpa using this)
  have on0 : (0 : Int) < (on : Int) := by have := HG.out.2.1; omega
  have HV := hid (show V = w1.alloc (.cells #[.slice T tn tc, .slice none 0 0] 50) ∧ OwnG V lo mid 94 sFind (some ⟨g, 0, none⟩) on oc (S.1.map fdat) vs G ∧ Below w.heap.size w V ∧ w.heap.size + 1 < w1.heap.size ∧ j < S.1.length ∧ g < w.heap.size ∧ w1.heap.size < V.heap.size from
   ⟨hV, HG.out.1.below ((next_trans H1.out.2.2 bV).mono HG.out.2.2.2.2.2.1), next_trans H1.out.2.2 bV, z1, hj, zg, by rw [hV]; simp⟩)
  have R0 := hid (show Rw w V w1.heap.size lo mid #[.slice (some ⟨g, 0, none⟩) on oc, .map (some mb), .bool S.2] S.1 vs (.slice T tn tc) j none 0 0 [] j V from
   ⟨way_zero _ _, hj, rfl, ⟨[], World.ownsRow_nil _ _ _ _, fun k hk => by omega⟩, fun _ => rfl, H1.out.1.next bV, H1.out.2.1.next bV, by rw [hV]; exact Row.new _ _ _, Below.refl _ _⟩)
  clear hV bV z1 zg hj H1 hq
  go_wp2_with fail
  rw [← HV.out.1]
  go_loopg [6] j (fun x i_ wr => ∃ (A : Option Addr) (n c : Nat) (Q : List Nat), i_ = .int .i64 (x : Int) ∧ Rw w V w1.heap.size lo mid #[.slice (some ⟨g, 0, none⟩) on oc, .map (some mb), .bool S.2] S.1 vs (.slice T tn tc) j A n c Q x wr)
  case atStart => exact ⟨none, 0, 0, [], rfl, R0.out⟩
  case round =>
   clear R0 k0 k2
   obtain ⟨A, m, c, Q, rfl, R⟩ := hrel
   by_cases h0 : gk = 0
   ·subst h0
    obtain ⟨us, hrow, hus⟩ := R.row
    have LR : Calls Try.prog 83 #[.slice A m c] wr (fun e w' => e = .returned (.tuple #[]) ∧ ∃ us', w'.ownsRow (w1.heap.size + 1) 92 3 (.slice A m c) m us' ∧ (∀ k, k < m → cellsOf 3 us' k = cellsOf 3 us (m - 1 - k)) ∧ Below (w1.heap.size + 1) wr w') := by
     by_cases hm : m = 0
     ·subst hm
      exact (revSteps0 A c wr).mono fun e w' ⟨h1, h2⟩ => ⟨h1, us, by rw [h2]; exact hrow, fun k hk => by omega, by rw [h2]; exact Below.refl _ _⟩
     ·obtain ⟨g', rfl⟩ : ∃ g', A = some ⟨g', 0, none⟩ := by
       rcases hrow.2 with ⟨-, h⟩ | ⟨g', cap, cur, e, -⟩
       ·omega
       ·injection e with e1 e2 e3
        exact ⟨g', e1⟩
      have hlt := World.ownsRow.lt hrow g' rfl
      exact (revSteps (w1.heap.size + 1) g' m c us wr hrow (fun k hk => by obtain ⟨x, hx, -⟩ := hus k hk; exact ⟨x, hx⟩)).mono fun e w' ⟨h1, us', h2, h3, h4, h5⟩ => ⟨h1, us', h2, h3, (Below.refl _ _).grown h4 (by omega) (fun k hk => by injection hk with hk; omega)⟩
    have HL := hid LR
    have kA : wr.cell? ⟨w1.heap.size, 1, none⟩ = some (.slice A m c) := R.r3.cell 1
    have HR := hid (show Rw w V w1.heap.size lo mid #[.slice (some ⟨g, 0, none⟩) on oc, .map (some mb), .bool S.2] S.1 vs (.slice T tn tc) j A m c Q 0 wr ∧ ∀ k, k < m → ∃ x : El, cellsOf 3 us k = encEl x ∧ (cellsOf 5 vs (Q.getD k 0)).take 3 = encEl x from ⟨R, hus⟩)
    clear R hus hrow LR
    go_wp2_with fail
    refine HL.out.mono ?_
    rintro e w6 ⟨rfl, us', h2, h3, b6⟩
    have q3 : Row w6 w1.heap.size 50 #[.slice T tn tc, .slice A m c] := HR.out.1.r3.below b6 (by omega)
    have q0 : w6.cell? ⟨w1.heap.size, 0, none⟩ = some (.slice T tn tc) := q3.cell 0
    have q1 : w6.cell? ⟨w1.heap.size, 1, none⟩ = some (.slice A m c) := q3.cell 1
    obtain ⟨y0, y1, g0, g1, y2, g2, u0, u1⟩ := walk_cells (HR.out.1.r1.below b6 (by have := HV.out.2.2.2; omega)) (.slice T tn tc) (.slice A m c)
    have FZ := Rw.answer (w := w) HV.out.2.1 HG.out.2.2.2.1 HV.out.2.2.2.2.1 HR.out.1.way HR.out.1.len (HR.out.1.bel.trans (b6.mono (by omega))) HG.out.2.2.2.2.2.1 HV.out.2.2.2.1 HG.out.2.2.2.2.2.2.1 HG.out.2.2.2.2.2.2.2.2.1 h2 HR.out.1.nil (fun k hk => by
     obtain ⟨x, x1, x2⟩ := HR.out.2 (m - 1 - k) (by omega)
     exact ⟨x, by rw [h3 k hk]; exact x1, x2⟩) (HV.out.2.2.1.trans ((HR.out.1.bel.trans (b6.mono (by omega))).mono (by have := HV.out.2.2.2; omega)))
    have HFZ := hid FZ
    clear FZ q3 h2 h3 b6 HR HL kA HV HG HP
    go_wp2
    exact bodyPost_ret (v := .tuple #[.agg #[.slice T tn tc, .slice A m c], .bool true]) (by simp [results, Try.results55, go_sem, u0, u1]) rfl HFZ.out
   ·obtain ⟨f, hf⟩ : ∃ f, S.1[gk]? = some f := ⟨_, List.getElem?_eq_getElem R.lt⟩
    obtain ⟨us, hrow, hus⟩ := R.row
    obtain ⟨g', T', tn', tc', e', -, -, -, hc5, ⟨e0, e1, e2, e3, -⟩, -, -⟩ := HV.out.2.1.find hf
    injection e' with e'
    injection e' with e'
    subst e'
    have hgv : g < w1.heap.size := by have := HV.out.2.2.2; omega
    replace e0 := (R.bel.cell (p := ⟨g, gk * 5, none⟩) hgv).trans e0
    replace e1 := (R.bel.cell (p := ⟨g, gk * 5 + 1, none⟩) hgv).trans e1
    replace e2 := (R.bel.cell (p := ⟨g, gk * 5 + 2, none⟩) hgv).trans e2
    have kA : wr.cell? ⟨w1.heap.size, 1, none⟩ = some (.slice A m c) := R.r3.cell 1
    have kf : wr.cell? ⟨w.heap.size, 0, none⟩ = some (.slice (some ⟨g, 0, none⟩) on oc) := R.r0.cell 0
    have i0 : (0 : Int) ≤ (gk : Int) := by omega
    have i00 : (0 : Int) < (gk : Int) := by omega
    have i1 : (gk : Int) < (on : Int) := by have := R.lt; have := HG.out.2.1; omega
    have hm60 : m ≤ 60 := by rw [← R.len]; exact R.way.len HG.out.2.2.2.1 HV.out.2.2.2.2.1 HG.out.2.2.2.2.1
    have hst := R.way.step HG.out.2.2.2.1 (by omega) hf
    have HQ := hid (show Way S.1 j (Q ++ [gk]) f.2.1 ∧ f.2.1 < gk ∧ Q.length = m ∧ gk < S.1.length ∧ us.length = m * 3 ∧ (∀ k, k < m → ∃ x : El, cellsOf 3 us k = encEl x ∧ (cellsOf 5 vs (Q.getD k 0)).take 3 = encEl x) ∧ cellsOf 5 vs gk = [.int .i64 f.1.1, .int .i64 f.1.2.1, .slice T' tn' tc', .int .i64 (f.2.1 : Int), .int .i64 (f.2.2 : Int)] ∧ V.cell? ⟨g, gk * 5 + 3, none⟩ = some (.int .i64 (f.2.1 : Int)) from ⟨hst.1, hst.2, R.len, R.lt, hrow.1, hus, hc5, e3⟩)
    have HD := hid (show Row wr.drew w.heap.size 89 #[.slice (some ⟨g, 0, none⟩) on oc, .map (some mb), .bool S.2] ∧ Row wr.drew (w.heap.size + 1) 50 #[.slice none 0 0, .slice none 0 0] ∧ Row wr.drew w1.heap.size 50 #[.slice T tn tc, .slice A m c] ∧ wr.drew.ownsRow (w1.heap.size + 1) 92 3 (.slice A m c) m us ∧ Below w1.heap.size V wr.drew from ⟨R.r0.drew, R.r1.drew, R.r3.drew, hrow.drew, R.bel.drew⟩)
    clear hst hf hrow hus hc5 e3 R h0 hgv
    go_upto_region 7 with fail
    refine AnyT.start (S := (fun w' => w'.cell? ⟨w1.heap.size, 1, none⟩ = some (.slice A m c) ∧ w'.cell? ⟨w.heap.size, 0, none⟩ = some (.slice (some ⟨g, 0, none⟩) on oc) ∧ w'.cell? ⟨g, gk * 5, none⟩ = some (.int .i64 f.1.1) ∧ w'.cell? ⟨g, gk * 5 + 1, none⟩ = some (.int .i64 f.1.2.1) ∧ w'.cell? ⟨g, gk * 5 + 2, none⟩ = some (.slice T' tn' tc'))) (fun j => j == 9 || j == 11) (by kernel_rfl) ⟨kA, kf, e0, e1, e2⟩ (fun hHeld => ?_)
    generalize wr.drew = D at HD hHeld ⊢
    refine AnyT.takeA (i := 0) (v := ?_) rfl (by kernel_rfl) (by kernel_rfl) (by kernel_rfl) (fun _ _ _ h => h) (Or.inl ⟨by rfl, ?_⟩) ?_
    rotate_left 1
    ·(intro w0 _; go_simp; try with_reducible rfl)
    try simp only [Act.put, setIfInBounds_toArray, set_cons_zero, set_cons_succ, getElem_toArray, getElem_cons_zero, getElem_cons_succ]
    refine AnyT.takeU (i := 1) (v := ?_) rfl (by kernel_rfl) (by kernel_rfl) (by kernel_rfl) (by kernel_rfl) (by kernel_rfl) (fun _ _ _ h => h) (Or.inl ⟨by rfl, ?_⟩) (by assumption) ?_
    rotate_left 1
    ·(intro w0 hSw; (try dsimp only at hSw); go_simp; try with_reducible rfl)
    try simp only [Act.put, setIfInBounds_toArray, set_cons_zero, set_cons_succ, getElem_toArray, getElem_cons_zero, getElem_cons_succ]
    refine AnyT.takeA (i := 2) (v := ?_) rfl (by kernel_rfl) (by kernel_rfl) (by kernel_rfl) (fun _ _ _ h => h) (Or.inl ⟨by rfl, ?_⟩) ?_
    rotate_left 1
    ·(intro w0 _; go_simp; try with_reducible rfl)
    try simp only [Act.put, setIfInBounds_toArray, set_cons_zero, set_cons_succ, getElem_toArray, getElem_cons_zero, getElem_cons_succ]
    refine AnyT.takeU (i := 3) (v := ?_) rfl (by kernel_rfl) (by kernel_rfl) (by kernel_rfl) (by kernel_rfl) (by kernel_rfl) (fun _ _ _ h => h) (Or.inl ⟨by rfl, ?_⟩) (by assumption) ?_
    rotate_left 1
    ·(intro w0 hSw; (try dsimp only at hSw); go_simp; try with_reducible rfl)
    try simp only [Act.put, setIfInBounds_toArray, set_cons_zero, set_cons_succ, getElem_toArray, getElem_cons_zero, getElem_cons_succ]
    refine AnyT.takeA (i := 4) (v := ?_) rfl (by kernel_rfl) (by kernel_rfl) (by kernel_rfl) (fun _ _ _ h => h) (Or.inl ⟨by rfl, ?_⟩) ?_
    rotate_left 1
    ·(intro w0 _; go_simp; try with_reducible rfl)
    try simp only [Act.put, setIfInBounds_toArray, set_cons_zero, set_cons_succ, getElem_toArray, getElem_cons_zero, getElem_cons_succ]
    refine AnyT.takeA (i := 5) (v := ?_) rfl (by kernel_rfl) (by kernel_rfl) (by kernel_rfl) (fun _ _ _ h => h) (Or.inl ⟨by rfl, ?_⟩) ?_
    rotate_left 1
    ·(intro w0 _; go_simp; try with_reducible rfl)
    try simp only [Act.put, setIfInBounds_toArray, set_cons_zero, set_cons_succ, getElem_toArray, getElem_cons_zero, getElem_cons_succ]
    refine AnyT.takeA (i := 6) (v := ?_) rfl (by kernel_rfl) (by kernel_rfl) (by kernel_rfl) (fun _ _ _ h => h) (Or.inl ⟨by rfl, ?_⟩) ?_
    rotate_left 1
    ·(intro w0 _; go_simp; try with_reducible rfl)
    try simp only [Act.put, setIfInBounds_toArray, set_cons_zero, set_cons_succ, getElem_toArray, getElem_cons_zero, getElem_cons_succ]
    refine AnyT.takeU (i := 7) (v := ?_) rfl (by kernel_rfl) (by kernel_rfl) (by kernel_rfl) (by kernel_rfl) (by kernel_rfl) (fun _ _ _ h => h) (Or.inl ⟨by rfl, ?_⟩) (by assumption) ?_
    rotate_left 1
    ·(intro w0 hSw; (try dsimp only at hSw); go_simp; try with_reducible rfl)
    try simp only [Act.put, setIfInBounds_toArray, set_cons_zero, set_cons_succ, getElem_toArray, getElem_cons_zero, getElem_cons_succ]
    refine AnyT.call (i := 8) (by kernel_rfl) rfl (fun K hK => ?_)
    try simp only [Act.put, setIfInBounds_toArray, set_cons_zero, set_cons_succ, getElem_toArray, getElem_cons_zero, getElem_cons_succ]
    rw [if_pos (by rfl)]
    go_simp
    refine hK.out _ _ (fun _ _ => ?_) (fun hKeep => ?_)
    ·exact ⟨findSpec.keep_alloc hHeld.1, findSpec.keep_alloc hHeld.2.1, findSpec.keep_alloc hHeld.2.2.1, findSpec.keep_alloc hHeld.2.2.2.1, findSpec.keep_alloc hHeld.2.2.2.2⟩
    replace hHeld := hKeep (by first | rfl | trivial) hHeld
    clear hK K hKeep
    try simp only [Act.put, setIfInBounds_toArray, set_cons_zero, set_cons_succ, getElem_toArray, getElem_cons_zero, getElem_cons_succ]
    refine AnyT.call (i := 9) (by kernel_rfl) rfl (fun K hK => ?_)
    try simp only [Act.put, setIfInBounds_toArray, set_cons_zero, set_cons_succ, getElem_toArray, getElem_cons_zero, getElem_cons_succ]
    rw [if_pos (by rfl)]
    have b3 : Below D.heap.size D (D.alloc (.cells #[.int .i64 f.1.1, .int .i64 f.1.2.1, .slice T' tn' tc'] 92)) := (Below.refl _ _).alloc (Nat.le_refl _) _
    have HAPP := hid (show (D.alloc (.cells #[.int .i64 f.1.1, .int .i64 f.1.2.1, .slice T' tn' tc'] 92)).ownsRow (w1.heap.size + 1) 92 3 (.slice A m c) m us ∧ Row (D.alloc (.cells #[.int .i64 f.1.1, .int .i64 f.1.2.1, .slice T' tn' tc'] 92)) D.heap.size 92 #[.int .i64 f.1.1, .int .i64 f.1.2.1, .slice T' tn' tc'] from ⟨HD.out.2.2.2.1.alloc _, Row.new _ _ _⟩)
    refine wp_appR _ _ 48 92 3 _ _ Try.underlying48 info_StepS rfl (by decide) (by decide) rfl (w1.heap.size + 1) A m c us rfl HAPP.out.1 D.heap.size 1 [.int .i64 f.1.1, .int .i64 f.1.2.1, .slice T' tn' tc'] rfl (enc_one (f.1.1, f.1.2.1, T', tn', tc')) rfl (fun i hi => (HAPP.out.2.cell i).trans (List.getElem?_toArray ..)) (by omega) (by have := HD.out.2.2.1.lt; simp; omega) ?_
    intro g4 c4 w4 h4 hg4 hat4 b4
    have y4 : w4.cell? ⟨w1.heap.size, 1, none⟩ = some (.slice A m c) := ((HD.out.2.2.1.next b3).below b4 (by omega)).cell 1
    have f4 : w4.frozen? ⟨w1.heap.size, 1, none⟩ = false := ((HD.out.2.2.1.next b3).below b4 (by omega)).free 1
    refine hK.out _ _ (fun h => by cases h) (fun _ => ?_)
    clear hK K
    try simp only [Act.put, setIfInBounds_toArray, set_cons_zero, set_cons_succ, getElem_toArray, getElem_cons_zero, getElem_cons_succ]
    refine AnyT.takeA (i := 10) (v := ?_) rfl (by kernel_rfl) (by kernel_rfl) (by kernel_rfl) (fun _ _ _ h => h) (Or.inl ⟨by rfl, ?_⟩) ?_
    rotate_left 1
    ·(intro w0 _; go_simp; try with_reducible rfl)
    try simp only [Act.put, setIfInBounds_toArray, set_cons_zero, set_cons_succ, getElem_toArray, getElem_cons_zero, getElem_cons_succ]
    refine AnyT.call (i := 11) (by kernel_rfl) rfl (fun K hK => ?_)
    try simp only [Act.put, setIfInBounds_toArray, set_cons_zero, set_cons_succ, getElem_toArray, getElem_cons_zero, getElem_cons_succ]
    rw [if_pos (by rfl)]
    go_simp
    refine hK.out _ _ (fun h => by cases h) (fun _ => ?_)
    clear hK K
    try simp only [Act.put, setIfInBounds_toArray, set_cons_zero, set_cons_succ, getElem_toArray, getElem_cons_zero, getElem_cons_succ]
    refine AnyT.done (by kernel_rfl) ?_ _
    have z1 : D.heap.size ≤ w4.heap.size := by have := hg4.size; simp at this; omega
    have b5 : Below w1.heap.size V (w4.setCell ⟨w1.heap.size, 1, none⟩ (.slice (some ⟨g4, 0, none⟩) (m + 1) c4)) := ((HD.out.2.2.2.2.trans ((b3.mono (Nat.le_of_lt HD.out.2.2.1.lt)).trans (b4.mono (by omega))))).setCell (Nat.le_refl _) _
    have r05 : Row (w4.setCell ⟨w1.heap.size, 1, none⟩ (.slice (some ⟨g4, 0, none⟩) (m + 1) c4)) w.heap.size 89 #[.slice (some ⟨g, 0, none⟩) on oc, .map (some mb), .bool S.2] := ((HD.out.1.next b3).below b4 (by have := HV.out.2.2.2; omega)).far (show w.heap.size ≠ w1.heap.size by have := HV.out.2.2.2; omega) _
    have kz : (w4.setCell ⟨w1.heap.size, 1, none⟩ (.slice (some ⟨g4, 0, none⟩) (m + 1) c4)).cell? ⟨w.heap.size, 0, none⟩ = some (.slice (some ⟨g, 0, none⟩) on oc) := r05.cell 0
    have kw : (w4.setCell ⟨w1.heap.size, 1, none⟩ (.slice (some ⟨g4, 0, none⟩) (m + 1) c4)).cell? ⟨g, gk * 5 + 3, none⟩ = some (.int .i64 (f.2.1 : Int)) := (b5.cell (p := ⟨g, gk * 5 + 3, none⟩) (by have := HV.out.2.2.2; show g < _; omega)).trans HQ.out.2.2.2.2.2.2.2
    have F := hid (show Rw w V w1.heap.size lo mid #[.slice (some ⟨g, 0, none⟩) on oc, .map (some mb), .bool S.2] S.1 vs (.slice T tn tc) j (some ⟨g4, 0, none⟩) (m + 1) c4 (Q ++ [gk]) f.2.1 (w4.setCell ⟨w1.heap.size, 1, none⟩ (.slice (some ⟨g4, 0, none⟩) (m + 1) c4)) from by
     obtain ⟨p1, p2, p3, p4, p5, p6, p7, -⟩ := HQ.out
     have hg4 := (World.ownsRow.lt h4 g4 rfl).1
     refine ⟨p1, by omega, by simp [p3], ⟨us ++ [.int .i64 f.1.1, .int .i64 f.1.2.1, .slice T' tn' tc'], h4.kept (grown_set w4 w1.heap.size 1 _) (.inr (fun e => by injection e with e; have e : g4 = w1.heap.size := e; have hg4 : w1.heap.size + 1 ≤ g4 := hg4; omega)), fun k hk => ?_⟩, (fun e => by cases e), r05, ((HD.out.2.1.next b3).below b4 (by have := HV.out.2.2.2; omega)).far (show w.heap.size + 1 ≠ w1.heap.size by have := HV.out.2.2.2; omega) _, ((HD.out.2.2.1.next b3).below b4 (by omega)).put 1 _, b5⟩
     by_cases hkm : k < m
     ·obtain ⟨x, x1, x2⟩ := p6 k hkm
      exact ⟨x, by rw [ownL.cells_left p5 hkm]; exact x1, by rw [show (Q ++ [gk]).getD k 0 = Q.getD k 0 by simp [List.getD, List.getElem?_append_left (show k < Q.length by omega)]]; exact x2⟩
     ·obtain rfl : k = m := by omega
      refine ⟨(f.1.1, f.1.2.1, T', tn', tc'), by rw [show k = k + 0 from rfl, ownL.cells_right p5]; rfl, ?_⟩
      rw [show (Q ++ [gk]).getD k 0 = gk by simp [List.getD, ← p3], p7]
      rfl)
    have G1 := hid HQ.out.2.1
    clear h4 hg4 hat4 b4 b3 y4 f4 z1 b5 r05 HQ HD HAPP kA kf e0 e1 e2
    go_wp2
    go_roundg (f.2.1)
    case measure => exact G1.out
    case rel => exact ⟨_, m + 1, c4, Q ++ [gk], rfl, F.out⟩
end reachWalk
end
section
namespace whole
open Go.RowKit base segs matchMath
set_option maxRecDepth 100000
def z24 : Array Value := Array.replicate 24 (.slice none 0 0)
theorem z24_size : z24.size = 24 := by simp [z24]
section
variable {w w' : World} {B B' g : Nat} {cs : Array Value} {s : List (List Int)} {t : TypeId}
def TabR (w : World) (B : Nat) (cs : Array Value) (s : List (List Int)) : Prop :=
 cs.size = 24 ∧ s.length = 24 ∧ ∀ j, j < 24 → ∃ A n c, cs[j]? = some (.slice A n c) ∧ Seg w B A n (s.getD j []) ∧ Cap A n c
theorem TabR.new (w : World) (B : Nat) : TabR w B z24 s0 :=
 ⟨z24_size, rfl, fun j hj => ⟨none, 0, 0, by simp [z24, hj], by rw [s0_get]; exact Seg.empty, ⟨Nat.le_refl _, by omega, fun _ => rfl⟩⟩⟩
theorem TabR.keep (h : TabR w B cs s) (hk : ∀ p : Addr, p.block < B → w'.cell? p = w.cell? p) : TabR w' B cs s :=
 ⟨h.1, h.2.1, fun j hj => by obtain ⟨A, n, c, e, hs, hc⟩ := h.2.2 j hj; exact ⟨A, n, c, e, hs.keep hk, hc⟩⟩
theorem TabR.more (h : TabR w B cs s) (hB : B ≤ B') : TabR w B' cs s :=
 ⟨h.1, h.2.1, fun j hj => by obtain ⟨A, n, c, e, hs, hc⟩ := h.2.2 j hj; exact ⟨A, n, c, e, hs.more hB, hc⟩⟩
theorem TabR.below (h : TabR w B cs s) (hb : Below B w w') : TabR w' B cs s := h.keep fun _ hp => hb.cell hp
theorem TabR.put (h : TabR w B cs s) {j : Nat} (hj : j < 24) {A : Option Addr} {n c : Nat} {ys : List Int} (hs : Seg w B A n ys) (hc : Cap A n c) : TabR w B (cs.setIfInBounds j (.slice A n c)) (s.set j ys) := by
 refine ⟨by rw [Array.size_setIfInBounds]; exact h.1, by rw [List.length_set]; exact h.2.1, fun i hi => ?_⟩
 by_cases e : j = i
 ·subst e
  exact ⟨A, n, c, by rw [Array.getElem?_setIfInBounds_self_of_lt (by rw [h.1]; exact hj)], by rw [set_get, if_pos ⟨rfl, by rw [h.2.1]; exact hj⟩]; exact hs, hc⟩
 ·obtain ⟨A', n', c', e', hs', hc'⟩ := h.2.2 i hi
  exact ⟨A', n', c', by rw [Array.getElem?_setIfInBounds_ne e]; exact e', by rw [set_get, if_neg (fun hh => e hh.1)]; exact hs', hc'⟩
theorem TabR.one (h : TabR w B cs s) : cs.all (·.oneCell') = true := by
 rw [Array.all_eq_true]
 intro i hi
 obtain ⟨A, n, c, e, _⟩ := h.2.2 i (by rw [← h.1]; exact hi)
 rw [Array.getElem?_eq_getElem hi] at e
 injection e with e
 rw [e]; rfl
theorem TabR.segs (h : TabR w B cs s) (hr : Row w g t cs) (hB : B ≤ w.heap.size) : Segs w w.heap.size (some ⟨g, 0, none⟩) 24 s := by
 refine ⟨h.2.1, fun _ => ⟨g, 0, rfl, hr.lt, fun j hj => ?_⟩⟩
 obtain ⟨A, n, c, e, hs, hc⟩ := h.2.2 j hj
 exact ⟨A, n, c, by rw [Nat.zero_add, hr.cell j, e], hs.more hB, hc⟩
end
end whole
end
section
namespace whole
open Go.RowKit base cursor marks app sym segs matchMath matchSpec
set_option maxRecDepth 100000
section
variable {P : Program} {ops : Array Oper} {rest : List Oper} {o : Oper} {a : Act} {w : World} {Q : Exit → Act → World → Prop}
theorem rowAlloc (hgd : o.guard = none) (t : TypeId) (ho : o.op = .alloc t) (z : Array Value) (hz : ∀ w, (zeroValue t).run P w = .ok (.agg z) w)
  (h : wpList P ops Q rest (a.put o.dst (.pointer (some ⟨w.heap.size, 0, none⟩))) (w.alloc (.cells z t))) : wpList P ops Q (o :: rest) a w :=
 wpList_plain hgd fun _ hK => by
  unfold Oper.wp execOp
  simp only [ho, Instr.alloc, Sem.run_bind, hz, Result.andThen_ok, newVar, Value.cells]
  exact hK _ _ h
theorem rowBox (hgd : o.guard = none) (t : TypeId) (x : Operand) (ho : o.op = .box t x) (z : Array Value) (hx : a.eval x = .agg z)
  (h : wpList P ops Q rest (a.put o.dst (.pointer (some ⟨w.heap.size, 0, none⟩))) (w.alloc (.cells z t))) : wpList P ops Q (o :: rest) a w :=
 wpList_plain hgd fun _ hK => by
  unfold Oper.wp execOp
  simp only [ho, hx, Instr.box, Sem.run_bind, Result.andThen_ok, newVar, Value.cells]
  exact hK _ _ h
theorem rowBuild (hgd : o.guard = none) (t : TypeId) (ho : o.op = .build t #[]) (z : Array Value) (hz : P.built t [] = some z)
  (h : wpList P ops Q rest (a.put o.dst (.agg z)) w) : wpList P ops Q (o :: rest) a w :=
 wpList_plain hgd fun _ hK => by
  refine wp_build t #[] ho (by simp [hz]) ?_
  simp only [List.map_toArray, List.map_nil, hz, Option.getD_some]
  exact hK _ _ h
theorem rowStore (hgd : o.guard = none) (ty : TypeId) (x y : Operand) (ho : o.op = .store ty x y) (g : Nat) (cells old : Array Value) (t : TypeId) (hx : a.eval x = .pointer (some ⟨g, 0, none⟩)) (hy : a.eval y = .agg cells)
  (hg : w.heap[g]? = some (.cells old t (0, 0))) (hi : (P.info? ty).map (·.size) = some cells.size) (hs : old.size = cells.size) (h1 : cells.all (·.oneCell') = true)
  (h : wpList P ops Q rest (a.put o.dst undef) (w.setRow g cells)) : wpList P ops Q (o :: rest) a w :=
 wpList_plain hgd fun _ hK => by
  unfold Oper.wp execOp
  simp only [ho, hx, hy, Instr.storeAt, Instr.sureAddr, Sem.run_bind, Sem.run_pure, Result.andThen_ok, run_storeVar_row w g t ty old cells hg hi hs h1]
  exact hK _ _ h
theorem results_row_tmp {fn : Func} {p u : Tmp} {ty : TypeId} (h : fn.results = #[.cell p ty, .tmp u]) (tmps : Array Value) (g : Nat) (t : TypeId) (cs : Array Value) (d : TypeDesc)
  (hp : tmps.getD p undef = .pointer (some ⟨g, 0, none⟩)) (hg : w.heap[g]? = some (.cells cs t (0, 0)))
  (hu : P.underlying ty = some d) (hd : (match d with | .struct _ | .array _ _ => true | _ => false) = true) (hi : (P.info? ty).map (·.size) = some cs.size) :
  (results fn tmps).run P w = .ok (.tuple #[.agg cs, tmps.getD u undef]) w := by
 rw [results_cell_tmp h, hp]
 simp [asAddr, Result.andThen, run_loadVar_row w g t ty cs (0, 0) d hg hu hd hi]
end
theorem z24_one : z24.all (·.oneCell') = true := by kernel_rfl
theorem info_b : (Try.prog.info? 139).map (fun i => (i.zero, i.size)) = some (some (.agg z24), 24) := by kernel_rfl
theorem zero_b : ∀ w, (zeroValue 139).run Try.prog w = .ok (.agg z24) w := by
 intro w
 cases hq : Try.prog.info? 139 with
 | none => have h := info_b; simp [hq] at h
 | some i => have h := info_b; simp [hq] at h; simp [zeroValue, typeInfo, hq, h.1]
theorem size_b : (Try.prog.info? 139).map (·.size) = some 24 := by kernel_rfl
theorem built_b : Try.prog.built 139 [] = some z24 := by kernel_rfl
section
variable {w w' : World} {B B' g : Nat} {cs : Array Value} {s : List (List Int)} {t : TypeId}
theorem Row.setRow (h : Row w g t cs) (c' : Array Value) : Row (w.setRow g c') g t c' := setRow_heap w g cs c' t (0, 0) h
theorem grown_setRow (w : World) (g : Nat) (c' : Array Value) : w.grownBy (w.setRow g c') (some g) :=
 ⟨rfl, rfl, rfl, by simp, fun k _ hk => setRow_other w g k c' (fun e => hk (by rw [e]))⟩
end
end whole
end
section
namespace takeMath
open sig term termOk termFacts endAt sub termMath fillMath posMath renMath matchMath
def Sync (sg p t : List Int) (i k : Nat) : Prop := ∃ q, scan sg q (p.drop i) = some (p.length - i) ∧ ∃ j, scan sg q (t.drop k) = some j
section
variable {sg p t : List Int} {i k : Nat} {x : Int}
theorem Sync.start (h1 : termOkB sg p = true) (h2 : termOkB sg t = true) (ha : k < t.length) : Sync sg p t 0 k :=
 ⟨1, by rw [List.drop_zero, Nat.sub_zero]; exact (term_parts h1).2.2, _, (term_at h2 ha).1⟩
theorem Sync.lt (h : Sync sg p t i k) (hi : i < p.length) : k < t.length := by
 obtain ⟨q, h1, j, h2⟩ := h
 cases q with
 | zero => rw [scan_zero] at h1; injection h1 with h1; omega
 | succ q =>
  have a := scan_pos h2
  have b := scan_le h2
  rw [List.length_drop] at b
  omega
theorem Sync.sym (h : Sync sg p t i k) (hi : i < p.length) (hx : p.getD i 0 = x) (hy : t.getD k 0 = x) : Sync sg p t (i + 1) (k + 1) := by
 have hk := h.lt hi
 obtain ⟨q, h1, j, h2⟩ := h
 rw [drop_cons hi, hx] at h1
 rw [drop_cons hk, hy] at h2
 cases q with
 | zero => rw [scan_zero] at h1; injection h1 with h1; omega
 | succ q =>
  by_cases hn : ar sg x < 0
  ·rw [scan_bad hn] at h1; cases h1
  ·rw [scan_step hn, Option.map_eq_some_iff] at h1 h2
   obtain ⟨a, e1, e2⟩ := h1
   obtain ⟨b, e3, e4⟩ := h2
   exact ⟨_, by rw [e1]; congr 1; omega, b, e3⟩
theorem Sync.var (h : Sync sg p t i k) (hi : i < p.length) (hx : p.getD i 0 = x) (h0 : -24 ≤ x) (h1 : x < 0) (hok : termOkB sg t = true) : Sync sg p t (i + 1) (k + (subL sg t k).length) := by
 have hk := h.lt hi
 have hl := (sub_len1 hok hk).1
 obtain ⟨q, h1, j, h2⟩ := h
 rw [drop_cons hi, hx] at h1
 cases q with
 | zero => rw [scan_zero] at h1; injection h1 with h1; omega
 | succ q =>
  have hz : ar sg x = 0 := ar_var (by omega)
  rw [scan_step (by omega), hz, Option.map_eq_some_iff] at h1
  obtain ⟨a, e1, e2⟩ := h1
  obtain ⟨j1, g1, _, _, g2⟩ := scan_first h2
  rw [hl, len1_eq g1]
  exact ⟨q, by rw [show p.length - (i + 1) = a by omega]; exact e1, _, g2⟩
end
theorem mst_at {sg p t : List Int} {k : Nat} (h1 : termOkB sg p = true) (h2 : termOkB sg t = true) (hk : k < t.length) : (mst sg t p k s0).isSome = instB sg p (subL sg t k) := by
 have hx : ∀ x ∈ p, -24 ≤ x := fun x hx => (term_mem h1 hx).1
 have hs := (sub_term h2 hk).1
 obtain ⟨_, e2, e3⟩ := sub_len1 h2 hk
 rw [Bool.eq_iff_iff, inst_iff h1 hs, Option.isSome_iff_exists]
 constructor
 ·rintro ⟨s', h⟩
  obtain ⟨⟨rest, e⟩, hv⟩ := mst_sound h2 h (by rfl) hx
  refine ⟨fun i => s'.getD i [], ?_, hv⟩
  have a := scan_append (r := rest) (scan_fill (L := fun i => s'.getD i []) (term_parts h1).2.2 hv)
  rw [← e] at a
  unfold subL
  rw [len1_eq a, e, List.take_left' rfl]
 ·rintro ⟨L, hL, hv⟩
  obtain ⟨s', m1, _⟩ := mst_full (sg := sg) (t := t) (L := L) (p := p) (k := k) (s := s0) (rest := t.drop (k + (subL sg t k).length)) (by rw [hL]; exact e2) (by rfl) hx hv (fun i hi => by rw [s0_get] at hi; exact absurd rfl hi)
  exact ⟨s', m1⟩
end takeMath
end
section
open Go.Lib (hid)
namespace take
open Go.RowKit base ints sig same term termOk endAt marks app sym sub segs termFacts termMath posMath cursor matchMath matchSpec whole takeMath curO
set_option maxRecDepth 100000
theorem set_same {s : List (List Int)} {v : Nat} {ys : List Int} (h : s.getD v [] = ys) (hv : v < s.length) : s.set v ys = s := by
 refine List.ext_getElem (by simp) fun i h1 h2 => ?_
 rw [List.getElem_set]
 split
 ·rename_i e
  subst e
  rw [← h]
  simp [List.getD, hv]
 ·rfl
structure Tk (w : World) (g : Nat) (A : Option Addr) (n c : Nat) (Q : Option Addr) (m mc : Nat) (sg t : List Int) (k : Nat) (s : List (List Int)) : Prop where
 row : Row w (g + 1) 134 #[.slice A n c, .slice Q m mc, .int .i64 k]
 tab : ∃ cs, Row w g 139 cs ∧ TabR w g cs s
 ss : Seg w g A n sg
 st : Seg w g Q m t
 le : k ≤ m
 hn : n ≤ 1048576
 hm : m ≤ 1048576
 ars : Arities sg
 hs : ∀ j, (s.getD j []).length ≤ m
section
variable {w w' : World} {g : Nat} {A : Option Addr} {n c : Nat} {Q : Option Addr} {m mc : Nat} {sg t : List Int} {k k' : Nat} {s : List (List Int)}
theorem Tk.cur (h : Tk w g A n c Q m mc sg t k s) : Cur w (g + 1) A n c Q m mc sg t k := ⟨h.row, h.ss.more (Nat.le_succ _), h.st.more (Nat.le_succ _), h.le, h.hn, h.hm, h.ars⟩
theorem Tk.lt (h : Tk w g A n c Q m mc sg t k s) : g + 1 < w.heap.size := h.row.lt
theorem keep_of {B : Nat} {r : Option Nat} (hg : w.grownBy w' r) (hB : B ≤ w.heap.size) (hr : ∀ k, r = some k → B ≤ k) : ∀ p : Addr, p.block < B → w'.cell? p = w.cell? p :=
 fun q hq => World.cell?_of_block (hg.block q.block (by omega) (fun e => by have := hr _ e.symm; omega))
theorem Tk.move (h : Tk w g A n c Q m mc sg t k s) (hg : w.grownBy w' (some (g + 1))) (hr : Row w' (g + 1) 134 #[.slice A n c, .slice Q m mc, .int .i64 k']) (hk : k' ≤ m) : Tk w' g A n c Q m mc sg t k' s := by
 have hl := h.lt
 have hk0 := keep_of (B := g) hg (by omega) (fun k e => by injection e; omega)
 obtain ⟨cs, h1, h2⟩ := h.tab
 refine ⟨hr, ⟨cs, (hg.block g (by omega) (fun e => by injection e; omega)).trans h1, h2.keep hk0⟩, h.ss.keep hk0, h.st.keep hk0, hk, h.hn, h.hm, h.ars, h.hs⟩
theorem Tk.drewN (h : Tk w g A n c Q m mc sg t k s) (d : Nat) : Tk (w.drewN d) g A n c Q m mc sg t k s := ⟨h.row, h.tab, h.ss, h.st, h.le, h.hn, h.hm, h.ars, h.hs⟩
theorem Tk.put (h : Tk w g A n c Q m mc sg t k s) {j : Nat} (hj : j < 24) {D : Option Addr} {dn dc : Nat} {ys : List Int} (hs : Seg w g D dn ys) (hc : Cap D dn dc) (hl : ys.length ≤ m) :
  Tk (w.setCell ⟨g, j, none⟩ (.slice D dn dc)) g A n c Q m mc sg t k (s.set j ys) := by
 have hlt := h.lt
 have hg : w.grownBy (w.setCell ⟨g, j, none⟩ (.slice D dn dc)) (some g) := grown_put (World.grownBy.refl _ _) _ _
 have hk0 := keep_of (B := g) hg (by omega) (fun k e => by injection e; omega)
 obtain ⟨cs, h1, h2⟩ := h.tab
 exact ⟨h.row.far (show g + 1 ≠ g by omega) _, ⟨_, h1.put j _, (h2.put hj hs hc).keep hk0⟩, h.ss.keep hk0, h.st.keep hk0, h.le, h.hn, h.hm, h.ars, fun i => by rw [set_get]; split; exact hl; exact h.hs i⟩
theorem Tk.held (h : Tk w g A n c Q m mc sg t k s) {j : Nat} (hj : j < 24) : ∃ D dn dc, w.cell? ⟨g, j, none⟩ = some (.slice D dn dc) ∧ Seg w g D dn (s.getD j []) ∧ w.frozen? ⟨g, j, none⟩ = false := by
 obtain ⟨cs, h1, h2⟩ := h.tab
 obtain ⟨D, dn, dc, e, hs, _⟩ := h2.2.2 j hj
 exact ⟨D, dn, dc, by rw [h1.cell j, e], hs, h1.free j⟩
theorem Tk.len (h : Tk w g A n c Q m mc sg t k s) : s.length = 24 := by obtain ⟨cs, h1, h2⟩ := h.tab; exact h2.2.1
end
theorem btw_drewN (lo hi : Nat) (w : World) (d : Nat) : Btw lo hi w (w.drewN d) := ⟨rfl, rfl, rfl, Nat.le_refl _, fun _ _ _ => rfl⟩
def AnsTake (w : World) (g : Nat) (A : Option Addr) (n c : Nat) (Q : Option Addr) (m mc : Nat) (sg t : List Int) (k : Nat) (s : List (List Int)) (x : Int) (e : Ending) (w' : World) : Prop :=
 Btw g (g + 2) w w' ∧ ((∃ k' s', e = .returned (.bool true) ∧ Tk w' g A n c Q m mc sg t k' s' ∧ ((0 ≤ x ∧ t.getD k 0 = x ∧ k' = k + 1) ∨ (x < 0 ∧ k' = k + (subL sg t k).length)) ∧ ∀ r, mst sg t (x :: r) k s = mst sg t r k' s') ∨
  (e = .returned (.bool false) ∧ ∀ r, mst sg t (x :: r) k s = none))
set_option maxHeartbeats 1000000 in
theorem take (g : Nat) (A Q : Option Addr) (n c m mc : Nat) (sg t : List Int) (k : Nat) (s : List (List Int)) (x : Int) (w : World) (h : Tk w g A n c Q m mc sg t k s) (hk : k < m) (hmc : m ≤ mc) (hmc2 : mc ≤ 9223372036854775807) (hx : -24 ≤ x) (hok : termOkB sg t = true) :
  Calls Try.prog 128 #[.pointer (some ⟨g, 0, none⟩), .int .i64 x, .pointer (some ⟨g + 1, 0, none⟩)] w (AnsTake w g A n c Q m mc sg t k s x) := by
 have HT := hid hok
 have HL := hid h.st.1
 have hkt : ¬ t.length ≤ k := by rw [HL.out]; omega
 have hm := h.hm
 have c1 : w.cell? ⟨g + 1, 1, none⟩ = some (.slice Q m mc) := h.row.cell 1
 have c2 : w.cell? ⟨g + 1, 2, none⟩ = some (.int .i64 k) := h.row.cell 2
 have f2 : w.frozen? ⟨g + 1, 2, none⟩ = false := h.row.free 2
 obtain ⟨b, off, y, rfl, hbb, hy, ey⟩ := h.st.spot hk
 have i0 : (0 : Int) ≤ (k : Int) := by omega
 have i1 : (k : Int) < (m : Int) := by omega
 clear hok
 by_cases hx0 : 0 ≤ x
 ·have g0 : w.grownBy (w.setCell ⟨g + 1, 2, none⟩ (.int .i64 ((k : Int) + 1))) (some (g + 1)) := grown_put (World.grownBy.refl _ _) _ _
  have r0 := h.row.put 2 (.int .i64 ((k : Int) + 1))
  have er : (.int .i64 ((k : Int) + 1) : Value) = .int .i64 ((k + 1 : Nat) : Int) := by simp
  have r1 := r0
  rw [er] at r1
  have M := hid (h.move (k' := k + 1) g0 (by rw [← er] at r1; rw [← er]; exact r0) hk)
  clear r0 r1 er
  have B := hid (Btw.of_grown (lo := g) (hi := g + 2) g0 (fun k e => by injection e; omega))
  have hy1 : (w.setCell ⟨g + 1, 2, none⟩ (.int .i64 ((k : Int) + 1))).cell? ⟨b, off + k, none⟩ = some (.int .i64 y) := (World.cell?_setCell_far w ⟨g + 1, 2, none⟩ ⟨b, off + k, none⟩ _ (by show g + 1 ≠ b; omega)).trans hy
  by_cases hxy : x = y
  ·subst hxy
   have F := fun d => (show AnsTake w g A n c (some ⟨b, off, none⟩) m mc sg t k s x (.returned (.bool true)) ((w.setCell ⟨g + 1, 2, none⟩ (.int .i64 ((k : Int) + 1))).drewN d) from
    ⟨B.out.trans (btw_drewN _ _ _ d), .inl ⟨k + 1, s, rfl, M.out.drewN d, .inl ⟨hx0, ey.out, rfl⟩, fun r => mst_sym hkt hx0 ey.out.symm⟩⟩)
   have HF := hid F
   clear F M B g0 h ey
   go_enter Try.func128, Try.ntmps128
   go_wp2
   go_quiet (fail)
   go_wp2
   go_ret
   exact HF.out _
  ·have hd : (y == x) = false := by simp; exact fun e => hxy e.symm
   have F := fun d => (show AnsTake w g A n c (some ⟨b, off, none⟩) m mc sg t k s x (.returned (.bool false)) ((w.setCell ⟨g + 1, 2, none⟩ (.int .i64 ((k : Int) + 1))).drewN d) from
    ⟨B.out.trans (btw_drewN _ _ _ d), .inr ⟨rfl, fun r => mst_symNo hkt hx0 (by rw [ey.out]; exact hxy)⟩⟩)
   have HF := hid F
   clear F M B g0 h ey
   go_enter Try.func128, Try.ntmps128
   go_wp2
   go_quiet (fail)
   go_wp2
   go_ret
   exact HF.out _
 ·obtain ⟨v, hv⟩ : ∃ v : Nat, x = -1 - (v : Int) := ⟨(-1 - x).toNat, by omega⟩
  subst hv
  have hv24 : v < 24 := by omega
  have HVR := hid (show vr (-1 - (v : Int)) = v by unfold vr; omega)
  obtain ⟨t1, t2, t3⟩ := term_at HT.out (show k < t.length by rw [HL.out]; exact hk)
  rw [HL.out] at t3
  obtain ⟨j, hj⟩ : ∃ j, len1 sg t k = j := ⟨_, rfl⟩
  have hsl := (sub_len1 HT.out (show k < t.length by rw [HL.out]; exact hk)).1
  have hsub : subL sg t k = (t.drop k).take j := by unfold subL; rw [hj]
  rw [hj] at t1 t2 t3 hsl
  obtain ⟨ys, hys⟩ : ∃ ys, subL sg t k = ys := ⟨_, rfl⟩
  rw [hys] at hsl hsub
  have HYS := hid hys
  have HSUB := hid hsub
  have HSL := hid hsl
  have T1 := hid t1
  have C := hid h.cur
  have HH := hid h
  have HKT := hid hkt
  have a1 : (k : Int) ≤ (k : Int) + (j : Int) := by omega
  have a2 : (k : Int) + (j : Int) ≤ (mc : Int) := by omega
  have a3 : ¬ mc = k := by omega
  have a4 : k + j ≤ mc := by omega
  have w1 : IntKind.i64.wrap (-1 - (-1 - (v : Int))) = (v : Int) := by rw [IntKind.wrap_i64]; omega
  have w2 : IntKind.i64.wrap (v : Int) = (v : Int) := by rw [IntKind.wrap_i64]; omega
  have j0 : (0 : Int) ≤ (v : Int) := by omega
  have j1 : (v : Int) < 24 := by omega
  clear hj hys hsub hsl t1 hy ey f2 hkt h
  go_enter Try.func128, Try.ntmps128
  have C2 := hid (C.out.drewN 1)
  go_wp2_with fail
  go_region_held3 (fun _ => True) (trivial)
   (first
    | (go_at_call 132; refine (partC (g + 1) A n c b off m mc sg t k j w.drew C2.out T1.out t3 t2 hmc hmc2).mono ?_; rintro e w3 ⟨rfl, hg0, hc⟩))
  ·have hg : w.grownBy w3 (some (g + 1)) := grown_trans (World.grownBy.refl w _) ⟨hg0.os, hg0.tape, hg0.output, hg0.size, hg0.block⟩
   have M := HH.out.move hg hc.row t3
   have b3 := Btw.of_grown (lo := g) (hi := g + 2) hg (fun k e => by injection e; omega)
   obtain ⟨D, dn, dc, ch, sh, fh⟩ := M.held hv24
   obtain ⟨os, hos⟩ : ∃ os, s.getD v [] = os := ⟨_, rfl⟩
   have hdn : dn ≤ 1048576 := by rw [← sh.1]; exact Nat.le_trans (M.hs v) hm
   rw [hos] at sh
   have HOS := hid hos
   have HSH := hid sh
   have HM := hid M
   have HB := hid b3
   have cut := hid (Seg.cut (a := k) (j := j) M.st t3)
   clear hc hg hg0 hos sh b3 M C C2 c1 c2
   have HC := hid (show Cap (some ⟨b, off + k, none⟩) j (mc - k) from ⟨by omega, by omega, fun e => by cases e⟩)
   have hj60 : j ≤ 1048576 := by omega
   have HJ := hid (show 1 ≤ j from t2)
   by_cases hd0 : dn = 0
   ·subst hd0
    have hno : ¬ ((s.getD (vr (-1 - (v : Int))) []).length ≠ 0 ∧ s.getD (vr (-1 - (v : Int))) [] ≠ subL sg t k) := by
     rw [HVR.out, HOS.out, HSH.out.1]
     exact fun e => e.1 rfl
    have R := hid (fun r => mst_var (sg := sg) (r := r) HKT.out (show ¬ 0 ≤ -1 - (v : Int) by omega) hno)
    have P := hid (HM.out.put (j := v) (D := some ⟨b, off + k, none⟩) (dn := j) (dc := mc - k) (ys := ys) hv24 (by rw [HSUB.out]; exact cut.out) HC.out (by rw [HSL.out]; omega))
    have BP := hid (HB.out.trans (Btw.of_grown (lo := g) (hi := g + 2) (grown_put (World.grownBy.refl w3 (some g)) v (.slice (some ⟨b, off + k, none⟩) j (mc - k))) (fun k e => by injection e; omega)))
    have ce := World.cell?_setCell_same w3 ⟨g, v, none⟩ (.slice (some ⟨b, off + k, none⟩) j (mc - k)) (show w3.cell? ⟨g, v, none⟩ = some (.slice D 0 dc) from ch)
    have PS := hid (show Seg (w3.setCell ⟨g, v, none⟩ (.slice (some ⟨b, off + k, none⟩) j (mc - k))) (w3.setCell ⟨g, v, none⟩ (.slice (some ⟨b, off + k, none⟩) j (mc - k))).heap.size (some ⟨b, off + k, none⟩) j ys from by
     have q := cut.out.put (p := ⟨g, v, none⟩) (Nat.le_refl _) (.slice (some ⟨b, off + k, none⟩) j (mc - k))
     rw [← HSUB.out] at q
     exact q.more (by have := P.out.lt; omega))
    clear HM HB hno
    go_wp2_with fail
    refine (implSame _ _ j j _ _ ys ys _ PS.out PS.out hj60 hj60).mono ?_
    rintro e w5 ⟨rfl, d, rfl⟩
    rw [decide_eq_true (show ys = ys from rfl)]
    have F : AnsTake w g A n c (some ⟨b, off, none⟩) m mc sg t k s (-1 - (v : Int)) (.returned (.bool true)) ((w3.setCell ⟨g, v, none⟩ (.slice (some ⟨b, off + k, none⟩) j (mc - k))).drewN d) :=
     ⟨BP.out.trans (btw_drewN _ _ _ d), .inl ⟨k + j, s.set v ys, rfl, P.out.drewN d, .inr ⟨by omega, by rw [HYS.out, HSL.out]⟩, fun r => by rw [R.out r, HVR.out, HYS.out, HSL.out]⟩⟩
    have HF := hid F
    clear F R P BP ce PS cut
    go_wp2
    go_ret
    exact HF.out
   ·have hdz : ((dn : Int) == 0) = false := by simp; omega
    have hwg := hid (show g ≤ w3.heap.size by have := HM.out.lt; omega)
    have PS := hid (show Seg w3 w3.heap.size (some ⟨b, off + k, none⟩) j ys from by
     have q := cut.out
     rw [← HSUB.out] at q
     exact q.more hwg.out)
    have PO := hid (show Seg w3 w3.heap.size D dn os from HSH.out.more hwg.out)
    by_cases hoy : os = ys
    ·have hno : ¬ ((s.getD (vr (-1 - (v : Int))) []).length ≠ 0 ∧ s.getD (vr (-1 - (v : Int))) [] ≠ subL sg t k) := by
      rw [HVR.out, HOS.out, HYS.out]
      exact fun e => e.2 hoy
     have R := hid (fun r => mst_var (sg := sg) (r := r) HKT.out (show ¬ 0 ≤ -1 - (v : Int) by omega) hno)
     have SS := hid (show s.set v ys = s from set_same (HOS.out.trans hoy) (by rw [HM.out.len]; exact hv24))
     have DS := hid (decide_eq_true hoy)
     clear cut hno hoy
     go_wp2_with fail
     refine (implSame _ _ dn j _ _ os ys _ PO.out PS.out hdn hj60).mono ?_
     rintro e w5 ⟨rfl, d, rfl⟩
     rw [DS.out]
     have F : AnsTake w g A n c (some ⟨b, off, none⟩) m mc sg t k s (-1 - (v : Int)) (.returned (.bool true)) (w3.drewN d) :=
      ⟨HB.out.trans (btw_drewN _ _ _ d), .inl ⟨k + j, s, rfl, HM.out.drewN d, .inr ⟨by omega, by rw [HYS.out, HSL.out]⟩, fun r => by rw [R.out r, HVR.out, HYS.out, HSL.out, SS.out]⟩⟩
     have HF := hid F
     clear F R SS DS PS PO HM HB
     go_wp2
     go_ret
     exact HF.out
    ·have hyes : (s.getD (vr (-1 - (v : Int))) []).length ≠ 0 ∧ s.getD (vr (-1 - (v : Int))) [] ≠ subL sg t k := by
      rw [HVR.out, HOS.out, HYS.out]
      exact ⟨by rw [HSH.out.1]; exact hd0, hoy⟩
     have R := hid (fun r => mst_varNo (sg := sg) (r := r) HKT.out (show ¬ 0 ≤ -1 - (v : Int) by omega) hyes)
     have DS := hid (decide_eq_false hoy)
     clear cut hyes hoy
     go_wp2_with fail
     refine (implSame _ _ dn j _ _ os ys _ PO.out PS.out hdn hj60).mono ?_
     rintro e w5 ⟨rfl, d, rfl⟩
     rw [DS.out]
     have F : AnsTake w g A n c (some ⟨b, off, none⟩) m mc sg t k s (-1 - (v : Int)) (.returned (.bool false)) (w3.drewN d) :=
      ⟨HB.out.trans (btw_drewN _ _ _ d), .inr ⟨rfl, R.out⟩⟩
     have HF := hid F
     clear F R DS PS PO HM HB
     go_wp2
     go_ret
     exact HF.out
end take
end
section
open Go.Lib (hid)
namespace extended
open Go.RowKit base ints sig same term termOk endAt marks app sym sub segs termFacts termMath posMath cursor matchMath matchSpec whole takeMath take segsHelp kinds plainMath plain plainOf gives Go.Proofs.Ytblhmplpcdcejaa.look fillMath
set_option maxRecDepth 100000
def AnsExt (w : World) (R : Option (List (List Int))) (e : Ending) (w' : World) : Prop :=
 ∃ cs, e = .returned (.tuple #[.agg cs, .bool R.isSome]) ∧ TabR w' w.heap.size cs (R.getD s0) ∧ (∀ j, ((R.getD s0).getD j []).length ≤ 60) ∧ Below w.heap.size w w'
def HeadX (w : World) (A : Option Addr) (n c : Nat) (Q : Option Addr) (m mc : Nat) (sg t : List Int) (P : Option Addr) (pn : Nat) (p : List Int) (R : Option (List (List Int))) (i : Value) (wr : World) : Prop :=
 ∃ (j k : Nat) (s : List (List Int)), i = .int .i64 j ∧ j ≤ pn ∧ Tk wr w.heap.size A n c Q m mc sg t k s ∧ Row wr (w.heap.size + 1 + 1) 139 z24 ∧ Seg wr w.heap.size P pn p ∧ Below w.heap.size w wr ∧ Sync sg p t j k ∧ mst sg t (p.drop j) k s = R
theorem seg_btw {w w' : World} {lo hi : Nat} {A : Option Addr} {n : Nat} {xs : List Int} (h : Seg w lo A n xs) (hb : Btw lo hi w w') (hl : lo ≤ w.heap.size) : Seg w' lo A n xs :=
 h.keep fun p hp => World.cell?_of_block (hb.block p.block (by omega) (.inl hp))
set_option maxHeartbeats 1000000 in
theorem extended (A P Q : Option Addr) (n c pn pc m mc : Nat) (sg p t : List Int) (at_ : Nat) (cs : Array Value) (s : List (List Int)) (w : World) (h : Seg w w.heap.size A n sg) (hp : Seg w w.heap.size P pn p) (ht : Seg w w.heap.size Q m t)
  (hn : n ≤ 1048576) (hpn : pn ≤ 60) (hm : m ≤ 60) (hmc : m ≤ mc) (hmc2 : mc ≤ 9223372036854775807) (hat : at_ < m) (hokp : termOkB sg p = true) (hokt : termOkB sg t = true) (htab : TabR w w.heap.size cs s) (hs : ∀ j, (s.getD j []).length ≤ m) :
  Calls Try.prog 118 #[.agg cs, .slice P pn pc, .agg #[.slice A n c, .slice Q m mc, .int .i64 (at_ : Int)]] w (AnsExt w (mst sg t p at_ s)) := by
 obtain ⟨W, hW⟩ : ∃ W, W = ((w.alloc (.cells cs 139)).alloc (.cells #[.slice A n c, .slice Q m mc, .int .i64 (at_ : Int)] 134)).alloc (.cells z24 139) := ⟨_, rfl⟩
 have b0 : Below w.heap.size w W := by rw [hW]; exact (((Below.refl _ _).alloc (Nat.le_refl _) _).alloc (by simp) _).alloc (by simp; omega) _
 have r0 : Row W w.heap.size 139 cs := by rw [hW]; exact ((Row.new w _ _).alloc _).alloc _
 have r1 : Row W (w.heap.size + 1) 134 #[.slice A n c, .slice Q m mc, .int .i64 (at_ : Int)] := by
  rw [hW]
  have := (Row.new (w.alloc (.cells cs 139)) 134 #[.slice A n c, .slice Q m mc, .int .i64 (at_ : Int)]).alloc (.cells z24 139)
  simpa using this
 have r2 : Row W (w.heap.size + 1 + 1) 139 z24 := by
  rw [hW]
  have := Row.new ((w.alloc (.cells cs 139)).alloc (.cells #[.slice A n c, .slice Q m mc, .int .i64 (at_ : Int)] 134)) 139 z24
  simpa using this
 have HX : HeadX w A n c Q m mc sg t P pn p (mst sg t p at_ s) (.int .i64 0) W :=
  ⟨0, at_, s, rfl, Nat.zero_le _, ⟨r1, ⟨cs, r0, htab.below b0⟩, h.below b0, ht.below b0, Nat.le_of_lt hat, hn, by omega, (sig_arities (termOk_parts hokt).1).1, hs⟩, r2, hp.below b0, b0, Sync.start hokp hokt (by rw [ht.1]; exact hat), by rw [List.drop_zero]⟩
 have HH := hid HX
 have HW := hid hW
 have HT := hid hokt
 have HL := hid ht.1
 have HPL := hid hp.1
 have HPM : Hid (∀ i, i < pn → -24 ≤ p.getD i 0) := hid (fun i hi => (term_num hokp (by rw [hp.1]; exact hi)).1)
 generalize mst sg t p at_ s = R at *
 clear hW HX r0 r1 r2 b0 htab hs hokt hokp h hp ht
 go_enter Try.func118, Try.ntmps118
 go_wp2_with (first
  | (refine rowBox rfl 139 _ rfl cs rfl ?_)
  | (refine rowAlloc rfl 139 rfl z24 zero_b ?_))
 rw [← HW.out]
 go_loopw [12] (fun i wr => HeadX w A n c Q m mc sg t P pn p R i wr) (fun i _ => pn - (intOf i).toNat)
 case atStart => exact HH.out
 case round =>
  obtain ⟨j, k, s, rfl, hj, M, r2, sp, hb, hsy, hm1⟩ := hrel
  clear HH
  have HM1 := hid hm1
  have HSY := hid hsy
  clear hm1 hsy
  by_cases hlt : j < pn
  ·obtain ⟨bp, op, x, rfl, hbp, hx, ex⟩ := sp.spot hlt
   have hx24 : -24 ≤ x := by rw [← ex.out]; exact HPM.out j hlt
   have hkm : k < m := by have := HSY.out.lt (by rw [HPL.out]; exact hlt); rw [HL.out] at this; exact this
   have HD := hid (show p.drop j = x :: p.drop (j + 1) by rw [drop_cons (by rw [HPL.out]; exact hlt), ex.out])
   have LT := hid (take w.heap.size A Q n c m mc sg t k s x wr M hkm hmc hmc2 hx24 HT.out)
   have gl := M.lt
   have HR := hid r2
   have HB := hid hb
   have HP := hid sp
   clear M r2 hb sp
   go_wp2_with fail
   refine LT.out.mono ?_
   rintro e w2 ⟨bb, ⟨k', s', rfl, M, hmv, hr⟩ | ⟨rfl, hr⟩⟩
   ·have hsync : Sync sg p t (j + 1) k' := by
     rcases hmv with ⟨h0, h1, rfl⟩ | ⟨h0, rfl⟩
     ·exact HSY.out.sym (by rw [HPL.out]; exact hlt) ex.out h1
     ·exact HSY.out.var (by rw [HPL.out]; exact hlt) ex.out hx24 h0 HT.out
    have S : HeadX w A n c Q m mc sg t (some ⟨bp, op, none⟩) pn p R (.int .i64 ((j : Int) + 1)) w2 :=
     ⟨j + 1, k', s', by simp, hlt, M, segs.Row.btw HR.out bb (.inr (Nat.le_refl _)), seg_btw HP.out bb (by omega), Below.btw HB.out bb (Nat.le_refl _) (by omega), hsync, by rw [← hr, ← HD.out]; exact HM1.out⟩
    have HS := hid S
    clear S M hsync hmv hr bb HR HP HB LT ex HD hx
    go_wp2
    go_roundw
    case rel => exact HS.out
    case measure => simp [intOf]; omega
   ·have hR : R = none := by rw [← HM1.out, HD.out]; exact hr _
    have r2 := segs.Row.btw HR.out bb (.inr (Nat.le_refl _))
    have b2 := Below.btw HB.out bb (Nat.le_refl _) (by omega)
    have hz := r2
    unfold Row at hz
    have r3 := Row.setRow r2 z24
    have F : AnsExt w R (.returned (.tuple #[.agg z24, .bool false])) (w2.setRow (w.heap.size + 1 + 1) z24) :=
     ⟨z24, by rw [hR]; rfl, by rw [hR]; exact TabR.new _ _, fun i => by rw [hR]; simp only [Option.getD_none]; rw [s0_get]; simp, Below.btw b2 (Btw.of_grown (lo := w.heap.size) (hi := w.heap.size + 1 + 1 + 1) (grown_setRow w2 (w.heap.size + 1 + 1) z24) (fun k e => by injection e; omega)) (Nat.le_refl _) b2.size⟩
    have HF := hid F
    have H3 := hid r3
    have HZ := hid hz
    clear F r3 r2 b2 hz hr bb HR HP HB LT ex HD hx hR
    go_wp2_with (first
     | (refine rowBuild rfl 139 rfl z24 built_b ?_)
     | (refine rowStore rfl 139 _ _ rfl (w.heap.size + 1 + 1) z24 z24 139 rfl rfl HZ.out (by rw [z24_size]; exact size_b) rfl z24_one ?_))
    (try simp only [Exit.inBlock, Exit.then])
    refine bodyPost_ret (v := .tuple #[.agg z24, .bool false]) ?_ rfl HF.out
    exact results_row_tmp Try.results118 _ (w.heap.size + 1 + 1) 139 z24 _ rfl H3.out Try.underlying139 rfl (by rw [z24_size]; exact size_b)
  ·have hjp : j = pn := by omega
   have hR : R = some s := by rw [← HM1.out, hjp, List.drop_eq_nil_of_le (by rw [HPL.out]; exact Nat.le_refl _)]; rfl
   obtain ⟨cs', h1, h2⟩ := M.tab
   have hz1 := h1
   have hz2 := r2
   unfold Row at hz1 hz2
   have r3 := Row.setRow r2 cs'
   have hl := M.lt
   have F : AnsExt w R (.returned (.tuple #[.agg cs', .bool true])) (wr.setRow (w.heap.size + 1 + 1) cs') :=
    ⟨cs', by rw [hR]; rfl, by rw [hR]; exact h2.keep (keep_of (grown_setRow wr (w.heap.size + 1 + 1) cs') (by omega) (fun k e => by injection e; omega)), by rw [hR]; exact fun j => Nat.le_trans (M.hs j) hm,
     Below.btw hb (Btw.of_grown (lo := w.heap.size) (hi := w.heap.size + 1 + 1 + 1) (grown_setRow wr (w.heap.size + 1 + 1) cs') (fun k e => by injection e; omega)) (Nat.le_refl _) hb.size⟩
   have HF := hid F
   have H3 := hid r3
   have HZ1 := hid hz1
   have HZ2 := hid hz2
   have HSZ := hid h2.1
   have HON := hid h2.one
   clear F r3 r2 hz1 hz2 h1 h2 hR M sp hb hjp
   go_wp2_with (first
    | (refine wpList_load_row rfl 139 _ rfl w.heap.size rfl 139 cs' (0, 0) _ HZ1.out Try.underlying139 rfl (by rw [HSZ.out]; exact size_b) ?_)
    | (refine rowStore rfl 139 _ _ rfl (w.heap.size + 1 + 1) cs' z24 139 rfl rfl HZ2.out (by rw [HSZ.out]; exact size_b) (by rw [HSZ.out]; rfl) HON.out ?_))
   (try simp only [Exit.inBlock, Exit.then])
   refine bodyPost_ret (v := .tuple #[.agg cs', .bool true]) ?_ rfl HF.out
   exact results_row_tmp Try.results118 _ (w.heap.size + 1 + 1) 139 cs' _ rfl H3.out Try.underlying139 rfl (by rw [HSZ.out]; exact size_b)
end extended
end
end Go.Proofs.Ytblhmplpcdcejaa
