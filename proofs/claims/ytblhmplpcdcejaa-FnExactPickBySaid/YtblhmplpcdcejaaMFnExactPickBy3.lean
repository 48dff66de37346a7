/-
  MERGED: my texts Plain, PlainOf, MatchSpec, Concat, Put, Shifted, Filled, SameSubst, CompMath, PlainFacts, MatchTot, MatchFacts, Shape3, KindsW, StepSpec, StepsMath, Dice, DrawSig, DrawTerm, DrawAny, DrawX, OwnL, StepSpecB, StepSpecC, OrderMath, OrderSpec, ByMath, OrderLaw, OrderSpecB, one behind the other, as they are. By an AI agent.
-/
import Derived.Test.YtblhmplpcdcejaaMFnExactPickBy2
import Derived.Deep.DeepMust
import Derived.Deep.LoopGhost
import Derived.Lib.AppendZeros
import Derived.Deep.AppendLies
import Derived.Deep.RegionHeld3
import Derived.Deep.DeepCutAuto
import Derived.Deep.RegionLaw
namespace Go.Proofs.Ytblhmplpcdcejaa
section
namespace plain
open Go.RowKit base ints cursor same marks app appAt sym sub segs segsHelp kinds fillMath Go.Proofs.Ytblhmplpcdcejaa.look plainMath
set_option maxRecDepth 100000
theorem inn_own {w : World} {lo : Nat} {A : Option Addr} {n c : Nat} {xs : List Int} (h : Own w lo (.slice A n c) xs) : Inn w lo w.heap.size (.slice A n c) xs := by
 have hl := Own.len h
 subst hl
 exact ⟨A, c, rfl, h, fun k hk => (World.ownsRow.lt h k (by rw [blk_own]; exact hk)).2⟩
set_option maxHeartbeats 1000000 in
theorem appS1 {w : World} {ops : Array Oper} {rest : List Oper} {o : Oper} {a : Act} {Q : Exit → Act → World → Prop} (hgd : o.guard = none) (s x : Operand)
  (ho : o.op = .call { callee := .builtin .append, args := #[s, x], argTypes := #[77, 77] })
  (lo mid : Nat) (A : Option Addr) (n c : Nat) (xss : List (List Int)) (hs : a.eval s = .slice A n c) (hown : Owns w lo mid A n c xss)
  (g c2 : Nat) (v : Value) (ys : List Int) (hx : a.eval x = .slice (some ⟨g, 0, none⟩) 1 c2) (hy : w.cell? ⟨g, 0, none⟩ = some v) (hv : Inn w mid w.heap.size v ys) (hn : n ≤ 1048576) (hlo : lo ≤ mid) (hmid : mid ≤ w.heap.size)
  (h : ∀ A' c' w', Owns w' lo w'.heap.size A' (n + 1) c' (xss ++ [ys]) → w.grownBy w' (blk A) → (blk A' = blk A ∨ blk A' = some w.heap.size) → Below lo w w' → wpList Try.prog ops Q rest (a.put o.dst (.slice A' (n + 1) c')) w') : wpList Try.prog ops Q (o :: rest) a w := by
 obtain ⟨i0, hi, hz0, hz1, hz2⟩ := info_parts info_list
 obtain ⟨hlen, ⟨vs, hr, hin, hap⟩, htop⟩ := hown
 have hvl : vs.length = n := by have := hr.1; omega
 have hvc : v.oneCell' = true := by obtain ⟨A1, c1, rfl, _⟩ := hv; rfl
 refine wpList_append_own_at w hgd s x 77 ho lo 22 i0 (.slice none 0 0) 1 24 Try.underlying77 hi hz0 hz1 hz2 rfl (by decide) (.slice A n c) n vs hs hr
  ⟨g, 0, none⟩ 1 c2 [v] hx rfl (fun j u hj => ?_) (fun u hu => ?_) (by unfold maxLen; omega) (by omega) (by omega) ?_
 ·match j, hj with
  | 0, hj => simp at hj; subst hj; simpa [Addr.add] using hy
 ·simp at hu; subst hu; exact hvc
 ·intro v' w' hown' hg _ hat
  have hform : ∃ A' c', v' = .slice A' (n + 1) c' := by
   rcases hown'.2 with ⟨_, h0⟩ | ⟨g', cap, cur, e, _⟩
   ·omega
   ·exact ⟨_, _, e⟩
  obtain ⟨A', c', rfl⟩ := hform
  rw [blk_own] at hg
  rw [blk_own, blk_own] at hat
  have hsz := hg.size
  have hne : ∀ {u : Value} {zs : List Int} {l2 h2 : Nat}, Inn w l2 h2 u zs → u.ownBlock = none ∨ u.ownBlock ≠ blk A := fun {u zs l2 h2} hu => by
   rcases own_form hr with ⟨rfl, _⟩ | ⟨g', cur, rfl, _, hrow, _⟩
   ·cases e : u.ownBlock with
    | none => exact .inl rfl
    | some z => exact .inr (fun e2 => by cases e2)
   ·exact .inr (hu.ne hrow)
  have hget : ∀ j, j < n → (vs ++ [v]).getD j undef = vs.getD j undef := fun j hj => by simp [List.getD, List.getElem?_append_left (show j < vs.length by omega)]
  have hget2 : ∀ j, j < n → (xss ++ [ys]).getD j [] = xss.getD j [] := fun j hj => by simp [List.getD, List.getElem?_append_left (show j < xss.length by omega)]
  have hnew : (vs ++ [v]).getD n undef = v := by simp [List.getD, ← hvl]
  have hnew2 : (xss ++ [ys]).getD n [] = ys := by simp [List.getD, ← hlen]
  refine h A' c' w' ⟨by simp [hlen], ⟨vs ++ [v], hown', fun j hj => ?_, fun i j k hij hj e1 e2 => ?_⟩, fun k hk => (World.ownsRow.lt hown' k (by rw [blk_own]; exact hk)).2⟩ hg hat ?_
  ·by_cases e : j = n
   ·subst e
    rw [hnew, hnew2]
    exact (hv.kept hg (hne hv)).wider (by omega) (by omega)
   ·rw [hget j (by omega), hget2 j (by omega)]
    exact ((hin j (by omega)).kept hg (hne (hin j (by omega)))).wider (Nat.le_refl _) (by omega)
  ·by_cases e : j = n
   ·subst e
    rw [hget i hij] at e1
    rw [hnew] at e2
    have h1 := ((hin i hij).blk k e1).2.1
    have h2 := (hv.blk k e2).1
    omega
   ·rw [hget i (by omega)] at e1
    rw [hget j (by omega)] at e2
    exact hap i j k hij (by omega) e1 e2
  ·refine (Below.refl lo w).grown hg (by omega) (fun k hk => ?_)
   exact (World.ownsRow.lt hr k (by rw [blk_own]; exact hk)).1
def AnsSubst (w : World) (xss : List (List Int)) (e : Ending) (w' : World) : Prop := ∃ A n c, e = .returned (.agg #[.slice A n c]) ∧ Owns w' w.heap.size w'.heap.size A n c xss ∧ Below w.heap.size w w'
end plain
end
section
open Go.Lib (hid)
namespace plainOf
open Go.RowKit base ints sig cursor marks app appAt sym sub segs segsHelp kinds varsOf fillMath Go.Proofs.Ytblhmplpcdcejaa.look substOk gives plainMath plain
set_option maxRecDepth 100000
theorem own_one {w : World} {base : Nat} {D : Option Addr} {c : Nat} {x : Int} (h : Own w base (.slice D 1 c) [x]) : ∃ g, D = some ⟨g, 0, none⟩ ∧ w.cell? ⟨g, 0, none⟩ = some (.int .i64 x) := by
 rcases own_form (n := 1) (vs := [x].map (Value.int .i64)) h with ⟨_, h1, _⟩ | ⟨g, cur, e, _, hr, _, _, _, _, hc⟩
 ·omega
 ·refine ⟨g, e, ?_⟩
  rw [hr.cell 0, hc 0 (by omega)]
  rfl
theorem Owns.shrink {w : World} {lo hi m n c : Nat} {A : Option Addr} {xss : List (List Int)} (h : Owns w lo hi A m c xss) (hn : n ≤ m) : Owns w lo hi A n c (xss.take n) := by
 obtain ⟨h1, ⟨vs, hr, hin, hap⟩, h3⟩ := h
 rcases own_form hr with ⟨rfl, h0, rfl, rfl⟩ | ⟨g, cur, rfl, hlo, hrow, hmc, hsz, hmax, hlen, hc⟩
 ·obtain rfl : n = 0 := by omega
  simpa using Owns.nil w lo hi
 ·have e1 : ∀ j, j < n → (cur.toList.take n).getD j undef = vs.getD j undef := fun j hj => by
   have := hc j (by omega)
   simp [List.getD, List.getElem?_take, hj, this]
  have e2 : ∀ j, j < n → (xss.take n).getD j [] = xss.getD j [] := fun j hj => by simp [List.getD, List.getElem?_take, hj]
  refine ⟨by rw [List.length_take, h1]; omega, ⟨_, rowsOf hrow hsz (by omega) hmax hlo, fun j hj => ?_, fun i j k hij hj a b => ?_⟩, h3⟩
  ·rw [e1 j hj, e2 j hj]
   exact hin j (by omega)
  ·rw [e1 i (by omega)] at a
   rw [e1 j hj] at b
   exact hap i j k hij (by omega) a b
def HeadL1 (w : World) (S : Option Addr) (m c : Nat) (ss : List (List Int)) (i : Value) (wr : World) : Prop :=
 ∃ (k : Nat) (A : Option Addr) (cA : Nat), k ≤ m ∧ i = .int .i64 k ∧ Owns wr (w.heap.size + 3) wr.heap.size A k cA (rowsL (givesL ss) k) ∧ Row wr w.heap.size 106 #[.slice S m c] ∧ Row wr (w.heap.size + 1) 106 #[.slice none 0 0] ∧
  Row wr (w.heap.size + 2) 106 #[.slice A k cA] ∧ Below w.heap.size w wr
theorem headL1_step {w wr w1 w5 w6 : World} {S A A' : Option Addr} {m c k cA c' : Nat} {ss : List (List Int)} (hk : k < m) (ho : Owns w6 (w.heap.size + 3) w6.heap.size A' (k + 1) c' (rowsL (givesL ss) (k + 1)))
  (r0 : Row wr w.heap.size 106 #[.slice S m c]) (r1 : Row wr (w.heap.size + 1) 106 #[.slice none 0 0]) (r2 : Row wr (w.heap.size + 2) 106 #[.slice A k cA]) (hb : Below w.heap.size w wr)
  (b1 : Below wr.heap.size wr w1) (b5 : Below w1.heap.size w1 w5) (hg : w5.grownBy w6 (blk A)) (hA : ∀ z, blk A = some z → w.heap.size + 3 ≤ z) :
  HeadL1 w S m c ss (.int .i64 ((k : Int) + 1)) (w6.setCell ⟨w.heap.size + 2, 0, none⟩ (.slice A' (k + 1) c')) := by
 have bb := next_trans b1 b5
 have q0 := Row.away (r0.next bb) hg (fun e => by have := hA _ e; omega)
 have q1 := Row.away (r1.next bb) hg (fun e => by have := hA _ e; omega)
 have q2 := Row.away (r2.next bb) hg (fun e => by have := hA _ e; omega)
 have hbb : Below w.heap.size w w6 := (hb.trans (bb.mono hb.size)).grown hg (by have := hb.size; have := bb.size; omega) (fun z hz => by have := hA z hz; omega)
 refine ⟨k + 1, A', c', hk, by simp, ?_, q0.far (by simp) _, q1.far (by simp) _, ?_, hbb.setCell (by simp) _⟩
 ·have := owns_put ho q2 (by omega) 0 (.slice A' (k + 1) c')
  simpa using this
 ·have := q2.put 0 (.slice A' (k + 1) c')
  simpa using this
def HeadL2 (w : World) (L : Nat → List Int) (m : Nat) (A : Option Addr) (cA : Nat) (p : Value) (wr : World) : Prop :=
 ∃ n : Nat, n ≤ m ∧ p = .pointer (some ⟨w.heap.size + 2, 0, none⟩) ∧ strip ((rowsL L m).take n) = plainL L m ∧ Owns wr (w.heap.size + 3) wr.heap.size A m cA (rowsL L m) ∧ Row wr (w.heap.size + 1) 106 #[.slice none 0 0] ∧
  Row wr (w.heap.size + 2) 106 #[.slice A n cA] ∧ Below w.heap.size w wr
def lenAt (w : World) (p : Addr) : Nat := match w.cell? p with
 | some (.slice _ n _) => n
 | _ => 0
theorem headL2_end {w wr : World} {L : Nat → List Int} {m n cA : Nat} {A : Option Addr} (hn : n ≤ m) (hs : strip ((rowsL L m).take n) = plainL L m) (ho : Owns wr (w.heap.size + 3) wr.heap.size A m cA (rowsL L m))
  (r1 : Row wr (w.heap.size + 1) 106 #[.slice none 0 0]) (hb : Below w.heap.size w wr) (hend : n = 0 ∨ (rowsL L m).getD (n - 1) [] ≠ []) :
  AnsSubst w (plainL L m) (.returned (.agg #[.slice A n cA])) (wr.setCell ⟨w.heap.size + 1, 0, none⟩ (.slice A n cA)) := by
 have e : (rowsL L m).take n = plainL L m := by
  rw [← hs]
  rcases hend with rfl | h
  ·simp [strip]
  ·by_cases h0 : n = 0
   ·subst h0; simp [strip]
   ·have := strip_last (l := rowsL L m) (q := n - 1) (by rw [rows_len]; omega) h
    rw [show n - 1 + 1 = n by omega] at this
    exact this.symm
 have h1 := Owns.shrink (owns_put ho r1 (by omega) 0 (.slice A n cA)) hn
 rw [e] at h1
 exact ⟨A, n, cA, rfl, h1.wider (by omega) (by simp), hb.setCell (by simp) _⟩
set_option maxHeartbeats 8000000 in
theorem l2Plain (S : Option Addr) (m c : Nat) (ss : List (List Int)) (w : World) (h : Segs w w.heap.size S m ss) (ht : tot ss ≤ 1048576) :
  Calls Try.prog 88 #[.agg #[.slice S m c]] w (AnsSubst w (plainL (givesL ss) m)) := by
 have HT := hid ht
 have hm : m ≤ 1048576 := tot_len h.1 ht
 have HE := hid (tot_each ht)
 clear ht
 go_enter Try.func88, Try.ntmps88
 go_wp2_with fail
 go_loopw [4] (fun i wr => HeadL1 w S m c ss i wr) (fun i _ => m - (intOf i).toNat)
 case atStart =>
  have b0 : Below w.heap.size w (((w.alloc (.cells #[.slice S m c] 106)).alloc (.cells #[.slice none 0 0] 106)).alloc (.cells #[.slice none 0 0] 106)) := (((Below.refl _ _).alloc (Nat.le_refl _) _).alloc (by simp) _).alloc (by simp; omega) _
  have q1 := Row.new (w.alloc (.cells #[.slice S m c] 106)) 106 #[.slice none 0 0]
  have q2 := Row.new ((w.alloc (.cells #[.slice S m c] 106)).alloc (.cells #[.slice none 0 0] 106)) 106 #[.slice none 0 0]
  refine ⟨0, none, 0, Nat.zero_le _, rfl, by simpa [rowsL] using Owns.nil _ _ _, ((Row.new w 106 #[.slice S m c]).alloc _).alloc _, ?_, ?_, b0⟩
  ·have := q1.alloc (.cells #[.slice none 0 0] 106); simpa using this
  ·simpa using q2
 case round =>
  obtain ⟨k, A, cA, hk, rfl, ho, r0, r1, r2, hb⟩ := hrel
  have c0 : wr.cell? ⟨w.heap.size, 0, none⟩ = some (.slice S m c) := r0.cell 0
  have cO : wr.cell? ⟨w.heap.size + 2, 0, none⟩ = some (.slice A k cA) := r2.cell 0
  have i0 : (0 : Int) ≤ (k : Int) := by omega
  by_cases hlt : k < m
  ·have i1 : (k : Int) < (m : Int) := by omega
   have LG := hid (l2Gives S m c ss k wr ((h.below hb).more hb.size) HT.out (by omega))
   have HA : Hid (∀ z, blk A = some z → w.heap.size + 3 ≤ z) := hid (fun z hz => by
    obtain ⟨vs, hown, _⟩ := ho.row
    exact (World.ownsRow.lt hown z (by rw [blk_own]; exact hz)).1)
   have hw1 : IntKind.i64.wrap (-1 - (k : Int)) = -1 - (k : Int) := by rw [IntKind.wrap_i64]; omega
   have hrl := r2.lt
   obtain ⟨ys, hys⟩ : ∃ ys, givesL ss k = ys := ⟨_, rfl⟩
   rw [hys] at LG
   have hlen : ys.length ≤ 1048576 := by
    rw [← hys]
    unfold givesL
    split
    ·simp [vt]
    ·exact HE.out k
   have RS := hid (rows_succ (givesL ss) k)
   by_cases h1 : ys.length = 1
   ·obtain ⟨x, rfl⟩ : ∃ x, ys = [x] := by
     match ys, h1 with
     | [x], _ => exact ⟨x, rfl⟩
    by_cases hx : x = -1 - (k : Int)
    ·have RB := hid (show bare (givesL ss) k = [] by unfold bare; rw [if_pos (by rw [hys, hx]; rfl)])
     have DX : (x == -1 - (k : Int)) = true := by simp [hx]
     clear hx hys
     go_wp2_with (first
      | (go_at_call 109; go_must (refine LG.out.mono ?_; rintro e w1 ⟨D, dn, dc, rfl, od, bb⟩; obtain rfl : dn = 1 := Own.len od; obtain ⟨gD, rfl, cD⟩ := own_one od; have cO1 : w1.cell? ⟨w.heap.size + 2, 0, none⟩ = some (.slice A k cA) := (r2.next bb).cell 0; have e5 : ((w1.alloc (.cells #[] 2)).alloc (.cells #[.slice (some ⟨w1.heap.size, 0, none⟩) 0 0] 22)).cell? ⟨w1.heap.size + 1, 0, none⟩ = some (.slice (some ⟨w1.heap.size, 0, none⟩) 0 0) := (by simp); have c15 : (w1.alloc (.cells #[] 2)).cell? ⟨w.heap.size + 2, 0, none⟩ = some (.slice A k cA) := ((r2.next bb).alloc (.cells #[] 2)).cell 0; have B5 : Below w1.heap.size w1 ((w1.alloc (.cells #[] 2)).alloc (.cells #[.slice (some ⟨w1.heap.size, 0, none⟩) 0 0] 22)) := ((Below.refl _ _).alloc (Nat.le_refl _) _).alloc (by simp) _; have hz5 := B5.size; have hz1 := bb.size; have ho5 := (ho.next bb).next B5; have i5 : Inn ((w1.alloc (.cells #[] 2)).alloc (.cells #[.slice (some ⟨w1.heap.size, 0, none⟩) 0 0] 22)) wr.heap.size ((w1.alloc (.cells #[] 2)).alloc (.cells #[.slice (some ⟨w1.heap.size, 0, none⟩) 0 0] 22)).heap.size (.slice (some ⟨w1.heap.size, 0, none⟩) 0 0) [] := Inn.wider ((inn_own (own_empty w1 wr.heap.size bb.size)).next ((Below.refl _ _).alloc (Nat.le_refl _) _)) (Nat.le_refl _) (by simp); have r25 := (r2.next bb).next B5; have c25 : ((w1.alloc (.cells #[] 2)).alloc (.cells #[.slice (some ⟨w1.heap.size, 0, none⟩) 0 0] 22)).cell? ⟨w.heap.size + 2, 0, none⟩ = some (.slice A k cA) := r25.cell 0))
      | (at_builtin; go_must (refine appS1 rfl _ _ rfl (w.heap.size + 3) wr.heap.size A k cA (rowsL (givesL ss) k) rfl ho5 _ 1 (.slice (some ⟨w1.heap.size, 0, none⟩) 0 0) [] rfl e5 i5 (by omega) (by omega) (by omega) ?_; intro A' c' w6 ho6 hg6 hat6 b6; have q2 := Row.away r25 hg6 (fun e => by have := HA.out _ e; omega); have c26 : w6.cell? ⟨w.heap.size + 2, 0, none⟩ = some (.slice A k cA) := q2.cell 0; have f26 : w6.frozen? ⟨w.heap.size + 2, 0, none⟩ = false := q2.free 0)))
     have S := hid (headL1_step (ss := ss) hlt (by rw [RS.out, RB.out]; exact ho6) r0 r1 r2 hb bb B5 hg6 HA.out)
     clear ho6 hg6 hat6 b6 ho5 i5 r25 c25 c15 q2 od bb B5 r0 r1 r2 hb ho RS RB LG cO1
     go_wp2
     go_roundw
     case rel => exact S.out
     case measure => simp [intOf]; omega
    ·have RB := hid (show bare (givesL ss) k = [x] by unfold bare; rw [if_neg (by rw [hys]; unfold vt; intro e; injection e with e; exact hx e), hys])
     have DX : (x == -1 - (k : Int)) = false := by simp [hx]
     clear hx hys
     go_wp2_with (first
      | (go_at_call 109; refine LG.out.mono ?_; rintro e w1 ⟨D, dn, dc, rfl, od, bb⟩; obtain rfl : dn = 1 := Own.len od; obtain ⟨gD, rfl, cD⟩ := own_one od; have cO1 : w1.cell? ⟨w.heap.size + 2, 0, none⟩ = some (.slice A k cA) := (r2.next bb).cell 0; have B5 : Below w1.heap.size w1 (w1.alloc (.cells #[.slice (some ⟨gD, 0, none⟩) 1 dc] 22)) := (Below.refl _ _).alloc (Nat.le_refl _) _; have hz5 := B5.size; have hz1 := bb.size; have ho5 := (ho.next bb).next B5; have i5 : Inn (w1.alloc (.cells #[.slice (some ⟨gD, 0, none⟩) 1 dc] 22)) wr.heap.size (w1.alloc (.cells #[.slice (some ⟨gD, 0, none⟩) 1 dc] 22)).heap.size (.slice (some ⟨gD, 0, none⟩) 1 dc) [x] := Inn.wider ((inn_own od).next ((Below.refl _ _).alloc (Nat.le_refl _) _)) (Nat.le_refl _) (by simp); have r25 := (r2.next bb).next B5; have c25 : (w1.alloc (.cells #[.slice (some ⟨gD, 0, none⟩) 1 dc] 22)).cell? ⟨w.heap.size + 2, 0, none⟩ = some (.slice A k cA) := r25.cell 0)
      | (at_builtin; refine appS1 rfl _ _ rfl (w.heap.size + 3) wr.heap.size A k cA (rowsL (givesL ss) k) rfl ho5 _ 1 (.slice (some ⟨gD, 0, none⟩) 1 dc) [x] rfl ((Row.new _ _ _).cell 0) i5 (by omega) (by omega) (by omega) ?_; intro A' c' w6 ho6 hg6 hat6 b6; have q2 := Row.away r25 hg6 (fun e => by have := HA.out _ e; omega); have c26 : w6.cell? ⟨w.heap.size + 2, 0, none⟩ = some (.slice A k cA) := q2.cell 0; have f26 : w6.frozen? ⟨w.heap.size + 2, 0, none⟩ = false := q2.free 0))
     have S := hid (headL1_step (ss := ss) hlt (by rw [RS.out, RB.out]; exact ho6) r0 r1 r2 hb bb B5 hg6 HA.out)
     clear ho6 hg6 hat6 b6 ho5 i5 r25 c25 q2 od bb B5 r0 r1 r2 hb ho RS RB LG cO1
     go_wp2
     go_roundw
     case rel => exact S.out
     case measure => simp [intOf]; omega
   ·have RB := hid (show bare (givesL ss) k = ys by unfold bare; rw [if_neg (by rw [hys]; unfold vt; intro e; rw [e] at h1; exact h1 rfl), hys])
    clear hys
    go_wp2_with (first
     | (go_at_call 109; refine LG.out.mono ?_; rintro e w1 ⟨D, dn, dc, rfl, od, bb⟩; have hdn : ¬ dn = 1 := (by rw [Own.len od]; exact h1); have hdz : ¬ (dn : Int) = 1 := (by omega); have hdb : (((dn : Nat) : Int) == 1) = false := (by simp; omega); have cO1 : w1.cell? ⟨w.heap.size + 2, 0, none⟩ = some (.slice A k cA) := (r2.next bb).cell 0; have B5 : Below w1.heap.size w1 (w1.alloc (.cells #[.slice D dn dc] 22)) := (Below.refl _ _).alloc (Nat.le_refl _) _; have hz5 := B5.size; have hz1 := bb.size; have ho5 := (ho.next bb).next B5; have i5 : Inn (w1.alloc (.cells #[.slice D dn dc] 22)) wr.heap.size (w1.alloc (.cells #[.slice D dn dc] 22)).heap.size (.slice D dn dc) ys := Inn.wider ((inn_own od).next ((Below.refl _ _).alloc (Nat.le_refl _) _)) (Nat.le_refl _) (by simp); have r25 := (r2.next bb).next B5; have c25 : (w1.alloc (.cells #[.slice D dn dc] 22)).cell? ⟨w.heap.size + 2, 0, none⟩ = some (.slice A k cA) := r25.cell 0)
     | (at_builtin; refine appS1 rfl _ _ rfl (w.heap.size + 3) wr.heap.size A k cA (rowsL (givesL ss) k) rfl ho5 _ 1 (.slice D dn dc) ys rfl ((Row.new _ _ _).cell 0) i5 (by omega) (by omega) (by omega) ?_; intro A' c' w6 ho6 hg6 hat6 b6; have q2 := Row.away r25 hg6 (fun e => by have := HA.out _ e; omega); have c26 : w6.cell? ⟨w.heap.size + 2, 0, none⟩ = some (.slice A k cA) := q2.cell 0; have f26 : w6.frozen? ⟨w.heap.size + 2, 0, none⟩ = false := q2.free 0))
    have S := hid (headL1_step (ss := ss) hlt (by rw [RS.out, RB.out]; exact ho6) r0 r1 r2 hb bb B5 hg6 HA.out)
    clear ho6 hg6 hat6 b6 ho5 i5 r25 c25 q2 od bb B5 r0 r1 r2 hb ho RS RB LG cO1
    go_wp2
    go_roundw
    case rel => exact S.out
    case measure => simp [intOf]; omega
  ·obtain rfl : k = m := by omega
   have HC := hid ho.cap
   have H2 : HeadL2 w (givesL ss) k A cA (.pointer (some ⟨w.heap.size + 2, 0, none⟩)) wr := ⟨k, Nat.le_refl _, rfl, by rw [List.take_of_length_le (by rw [rows_len]; exact Nat.le_refl _)]; rfl, ho, r1, r2, hb⟩
   have HH2 := hid H2
   have hc1 : cA ≤ 9223372036854775807 := ho.cap.2.1
   have hc0 : k ≤ cA := ho.cap.1
   clear H2 ho r0 r1 r2 hb cO h
   go_wp2_with fail
   go_loopw [] (fun wr => HeadL2 w (givesL ss) k A cA (.pointer (some ⟨w.heap.size + 2, 0, none⟩)) wr) (fun wr => lenAt wr ⟨w.heap.size + 2, 0, none⟩)
   case atStart => exact HH2.out
   case round =>
    obtain ⟨n, hn, -, hs, ho, r1, r2, hb⟩ := hrel
    clear HH2
    have cO : wr.cell? ⟨w.heap.size + 2, 0, none⟩ = some (.slice A n cA) := r2.cell 0
    have fO : wr.frozen? ⟨w.heap.size + 2, 0, none⟩ = false := r2.free 0
    have cR : wr.cell? ⟨w.heap.size + 1, 0, none⟩ = some (.slice none 0 0) := r1.cell 0
    have fR : wr.frozen? ⟨w.heap.size + 1, 0, none⟩ = false := r1.free 0
    by_cases h0 : n = 0
    ·subst h0
     have F := hid (headL2_end hn hs ho r1 hb (.inl rfl))
     clear hs ho r1 r2 hb
     go_wp2
     exact bodyPost_ret (v := .agg #[.slice A 0 cA]) (by simp [results, Try.results88, go_sem, cR]) rfl F.out
    ·obtain ⟨p, rfl⟩ : ∃ p, n = p + 1 := ⟨n - 1, by omega⟩
     obtain ⟨b, off, A', q, cq, rfl, hbb, hx, hseg, hcap⟩ := ho.segs.spot (k := p) (by omega)
     have p0 : (0 : Int) ≤ (p : Int) := by omega
     have p1 : ((p + 1 : Nat) : Int) - 1 = (p : Int) := by omega
     have p2 : (p : Int) ≤ (cA : Int) := by omega
     have p3 : (p : Int) < ((p + 1 : Nat) : Int) := by omega
     have p4 : (0 : Int) < ((p + 1 : Nat) : Int) := by omega
     have hw2 : IntKind.i64.wrap (p : Int) = (p : Int) := by rw [IntKind.wrap_i64]; omega
     by_cases hq : q = 0
     ·subst hq
      have hnil : (rowsL (givesL ss) k).getD p [] = [] := List.eq_nil_of_length_eq_zero hseg.1
      have S1 : HeadL2 w (givesL ss) k (some ⟨b, off, none⟩) cA (.pointer (some ⟨w.heap.size + 2, 0, none⟩)) (wr.setCell ⟨w.heap.size + 2, 0, none⟩ (.slice (some ⟨b, off, none⟩) p cA)) := by
       refine ⟨p, by omega, rfl, by rw [← strip_drop (by rw [rows_len]; omega) hnil]; exact hs, ?_, r1.far (by simp) _, ?_, hb.setCell (by simp) _⟩
       ·have := owns_put ho r2 (by omega) 0 (.slice (some ⟨b, off, none⟩) p cA)
        simpa using this
       ·have := r2.put 0 (.slice (some ⟨b, off, none⟩) p cA)
        simpa using this
      have HS1 := hid S1
      have E1 : (wr.setCell ⟨w.heap.size + 2, 0, none⟩ (.slice (some ⟨b, off, none⟩) p cA)).cell? ⟨w.heap.size + 2, 0, none⟩ = some (.slice (some ⟨b, off, none⟩) p cA) := by have := (r2.put 0 (.slice (some ⟨b, off, none⟩) p cA)).cell 0; simpa using this
      have HLT := hid (show lenAt (wr.setCell ⟨w.heap.size + 2, 0, none⟩ (.slice (some ⟨b, off, none⟩) p cA)) ⟨w.heap.size + 2, 0, none⟩ < lenAt wr ⟨w.heap.size + 2, 0, none⟩ by simp only [lenAt, E1, cO]; omega)
      clear S1 E1 hs ho r1 r2 hb hseg hcap hnil
      go_wp2
      go_roundw
      case rel => exact HS1.out
      case measure => exact HLT.out
     ·have hq1 : (0 : Int) < (q : Int) := by omega
      have F := hid (headL2_end hn hs ho r1 hb (.inr (fun e => by rw [show p + 1 - 1 = p by omega] at e; rw [e] at hseg; exact hq hseg.1.symm)))
      clear hs ho r1 r2 hb hseg hcap
      go_wp2
      exact bodyPost_ret (v := .agg #[.slice (some ⟨b, off, none⟩) (p + 1) cA]) (by simp [results, Try.results88, go_sem, cR]) rfl F.out
theorem tot_le {xss : List (List Int)} {M : Nat} (h : ∀ j, (xss.getD j []).length ≤ M) : tot xss ≤ xss.length + xss.length * M := by
 have : ∀ k, k ≤ xss.length → sumL xss k ≤ k * M := fun k => by
  induction k with
  | zero => intro _; simp [sumL]
  | succ k ih =>
   intro hk
   rw [sumL_succ (by omega)]
   have h1 := ih (by omega)
   have h2 := h k
   rw [Nat.succ_mul]
   omega
 unfold tot
 have := this xss.length (Nat.le_refl _)
 omega
end plainOf
end
section
open Go.Lib (hid)
namespace matchSpec
open Go.RowKit base ints sig same term termOk endAt inside marks app sym sub segs segsHelp termFacts termMath posMath plainMath plain plainOf gives cursor matchMath
set_option maxRecDepth 100000
structure Tab (w : World) (T : Nat) (s : List (List Int)) : Prop where
 len : s.length = 24
 row : ∃ cs, Row w T 22 cs ∧ cs.size = 24 ∧ ∀ j, j < 24 → ∃ A n c, cs[j]? = some (.slice A n c) ∧ Own w (T + 1) (.slice A n c) (s.getD j [])
section
variable {w w' : World} {T : Nat} {s : List (List Int)}
theorem Tab.next (h : Tab w T s) (hb : Below w.heap.size w w') : Tab w' T s := by
 obtain ⟨cs, hr, hs, hc⟩ := h.row
 exact ⟨h.len, cs, hr.next hb, hs, fun j hj => by obtain ⟨A, n, c, e, ho⟩ := hc j hj; exact ⟨A, n, c, e, Own.next ho hb⟩⟩
theorem Tab.at (h : Tab w T s) {j : Nat} (hj : j < 24) : ∃ A n c, w.cell? ⟨T, j, none⟩ = some (.slice A n c) ∧ Own w (T + 1) (.slice A n c) (s.getD j []) := by
 obtain ⟨cs, hr, hs, hc⟩ := h.row
 obtain ⟨A, n, c, e, ho⟩ := hc j hj
 exact ⟨A, n, c, by rw [hr.cell j, e], ho⟩
theorem Tab.free (h : Tab w T s) (j : Nat) : w.frozen? ⟨T, j, none⟩ = false := by obtain ⟨cs, hr, _⟩ := h.row; exact hr.free j
theorem Tab.put (h : Tab w T s) {j : Nat} (hj : j < 24) {A : Option Addr} {n c : Nat} {ys : List Int} (ho : Own w (T + 1) (.slice A n c) ys) : Tab (w.setCell ⟨T, j, none⟩ (.slice A n c)) T (s.set j ys) := by
 obtain ⟨cs, hr, hs, hc⟩ := h.row
 have hg : w.grownBy (w.setCell ⟨T, j, none⟩ (.slice A n c)) (some T) := grown_put (World.grownBy.refl _ _) _ _
 have far : ∀ {A' : Option Addr} {n' c' : Nat} {zs : List Int}, Own w (T + 1) (.slice A' n' c') zs → Own (w.setCell ⟨T, j, none⟩ (.slice A n c)) (T + 1) (.slice A' n' c') zs := fun h => Own.far h hg (fun k hk => by injection hk; omega)
 refine ⟨by rw [List.length_set]; exact h.len, cs.setIfInBounds j (.slice A n c), hr.put j _, by rw [Array.size_setIfInBounds]; exact hs, fun i hi => ?_⟩
 by_cases e : j = i
 ·subst e
  exact ⟨A, n, c, by rw [Array.getElem?_setIfInBounds_self_of_lt (by omega)], by rw [set_get, if_pos ⟨rfl, by rw [h.len]; exact hj⟩]; exact far ho⟩
 ·obtain ⟨A', n', c', e', ho'⟩ := hc i hi
  exact ⟨A', n', c', by rw [Array.getElem?_setIfInBounds_ne e]; exact e', by rw [set_get, if_neg (fun hh => e hh.1)]; exact far ho'⟩
theorem Tab.segs (h : Tab w T s) : Segs w w.heap.size (some ⟨T, 0, none⟩) 24 s := by
 obtain ⟨cs, hr, hs, hc⟩ := h.row
 refine ⟨h.len, fun _ => ⟨T, 0, rfl, hr.lt, fun j hj => ?_⟩⟩
 obtain ⟨A, n, c, e, ho⟩ := hc j hj
 refine ⟨A, n, c, by rw [Nat.zero_add, hr.cell j, e], ?_, ?_⟩
 ·have := Own.len ho; exact Own.seg ho
 ·rcases ho.form with ⟨e1, _⟩ | ⟨g, c', cur, e1, _, _, _, _⟩
  ·injection e1 with e1 e2 e3; subst e1 e2 e3; exact ⟨Nat.le_refl _, by omega, fun _ => rfl⟩
  ·exact look.own_cap ho
end
theorem Tab.new (w : World) : Tab (w.alloc (.cells (madeCells #[.slice none 0 0] 24) 22)) w.heap.size s0 := by
 refine ⟨rfl, _, Row.new _ _ _, size_madeCells _ _, fun j hj => ⟨none, 0, 0, ?_, by rw [s0_get]; exact Own.nil _ _⟩⟩
 simp [madeCells, hj, Nat.mod_one]
def resL (R : Option (List (List Int))) : List (List Int) := match R with
 | some s => plainL (givesL s) 24
 | none => []
def AnsM (w : World) (xss : List (List Int)) (b : Bool) (e : Ending) (w' : World) : Prop := ∃ A n c, e = .returned (.tuple #[.agg #[.slice A n c], .bool b]) ∧ Owns w' w.heap.size w'.heap.size A n c xss ∧ Below w.heap.size w w'
theorem ansM_no {w w' : World} {R : Option (List (List Int))} (h : R = none) (hb : Below w.heap.size w w') : AnsM w (resL R) R.isSome (.returned (.tuple #[.agg #[.slice none 0 0], .bool false])) w' :=
 ⟨none, 0, 0, by rw [h]; rfl, by rw [h]; exact Owns.nil _ _ _, hb⟩
structure Mt (w wr : World) (A : Option Addr) (n c : Nat) (sg : List Int) (P : Option Addr) (pn : Nat) (p : List Int) (Q : Option Addr) (m : Nat) (t : List Int) (s : List (List Int)) : Prop where
 r0 : Row wr w.heap.size 31 #[.slice A n c]
 r1 : Row wr (w.heap.size + 1) 106 #[.slice none 0 0]
 r3 : Row wr (w.heap.size + 1 + 1 + 1) 106 #[.slice (some ⟨w.heap.size + 1 + 1, 0, none⟩) 24 24]
 tb : Tab wr (w.heap.size + 1 + 1) s
 ss : Seg wr w.heap.size A n sg
 sp : Seg wr w.heap.size P pn p
 st : Seg wr w.heap.size Q m t
 b : Below w.heap.size w wr
section
variable {w wr w' : World} {A : Option Addr} {n c : Nat} {sg : List Int} {P : Option Addr} {pn : Nat} {p : List Int} {Q : Option Addr} {m : Nat} {t : List Int} {s : List (List Int)}
theorem Mt.next (h : Mt w wr A n c sg P pn p Q m t s) (hb : Below wr.heap.size wr w') : Mt w w' A n c sg P pn p Q m t s :=
 have b : Below w.heap.size wr w' := hb.mono h.b.size
 ⟨h.r0.next hb, h.r1.next hb, h.r3.next hb, h.tb.next hb, h.ss.below b, h.sp.below b, h.st.below b, h.b.trans b⟩
theorem Mt.put (h : Mt w wr A n c sg P pn p Q m t s) {j : Nat} (hj : j < 24) {D : Option Addr} {dn dc : Nat} {ys : List Int} (ho : Own wr (w.heap.size + 1 + 1 + 1) (.slice D dn dc) ys) : Mt w (wr.setCell ⟨w.heap.size + 1 + 1, j, none⟩ (.slice D dn dc)) A n c sg P pn p Q m t (s.set j ys) :=
 ⟨h.r0.far (show w.heap.size ≠ w.heap.size + 1 + 1 by omega) _, h.r1.far (show w.heap.size + 1 ≠ w.heap.size + 1 + 1 by omega) _, h.r3.far (show w.heap.size + 1 + 1 + 1 ≠ w.heap.size + 1 + 1 by omega) _, h.tb.put hj ho, h.ss.put (show w.heap.size ≤ w.heap.size + 1 + 1 by omega) _, h.sp.put (show w.heap.size ≤ w.heap.size + 1 + 1 by omega) _, h.st.put (show w.heap.size ≤ w.heap.size + 1 + 1 by omega) _, h.b.setCell (show w.heap.size ≤ w.heap.size + 1 + 1 by omega) _⟩
end
set_option maxHeartbeats 1000000 in
theorem l4Match (A P Q : Option Addr) (n c pn pc m mc : Nat) (sg p t : List Int) (w : World) (h : Seg w w.heap.size A n sg) (hp : Seg w w.heap.size P pn p) (ht : Seg w w.heap.size Q m t) (hn : n ≤ 1048576) (hpn : pn ≤ 60) (hm : m ≤ 60) (hmc : m ≤ mc) (hmc2 : mc ≤ 9223372036854775807)
  (hokp : termOkB sg p = true) (hokt : termOkB sg t = true) :
  Calls Try.prog 66 #[.agg #[.slice A n c], .slice P pn pc, .slice Q m mc] w (AnsM w (resL (mst sg t p 0 s0)) (mst sg t p 0 s0).isSome) := by
 obtain ⟨W0, hW0⟩ : ∃ W, W = (w.alloc (.cells #[.slice A n c] 31)).alloc (.cells #[.slice none 0 0] 106) := ⟨_, rfl⟩
 have z0 : W0.heap.size = w.heap.size + 1 + 1 := by rw [hW0]; simp
 obtain ⟨W, hW⟩ : ∃ W, W = (W0.alloc (.cells (madeCells #[.slice none 0 0] 24) 22)).alloc (.cells #[.slice (some ⟨w.heap.size + 1 + 1, 0, none⟩) 24 24] 106) := ⟨_, rfl⟩
 have b0 : Below w.heap.size w W0 := by rw [hW0]; exact ((Below.refl _ _).alloc (Nat.le_refl _) _).alloc (by simp) _
 have b1 : Below w.heap.size w W := by rw [hW]; exact (b0.alloc b0.size _).alloc (by simp; omega) _
 have hmk : ∀ W : World, (Instr.makeSlice 77 (.int .i64 24) (.int .i64 24)).run Try.prog W = .ok (.slice (some ⟨W.heap.size, 0, none⟩) 24 24) (W.alloc (.cells (madeCells #[.slice none 0 0] 24) 22)) := fun W => run_make_lists 24 (by omega) W
 have M0 : Mt w W A n c sg P pn p Q m t s0 := by
  refine ⟨?_, ?_, ?_, ?_, h.below b1, hp.below b1, ht.below b1, b1⟩
  ·rw [hW, hW0]; exact (((Row.new w _ _).alloc _).alloc _).alloc _
  ·rw [hW, hW0]
   have := (((Row.new (w.alloc (.cells #[.slice A n c] 31)) 106 #[.slice none 0 0]).alloc (.cells (madeCells #[.slice none 0 0] 24) 22)).alloc (.cells #[.slice (some ⟨w.heap.size + 1 + 1, 0, none⟩) 24 24] 106))
   simpa using this
  ·rw [hW]
   have := Row.new (W0.alloc (.cells (madeCells #[.slice none 0 0] 24) 22)) 106 #[.slice (some ⟨w.heap.size + 1 + 1, 0, none⟩) 24 24]
   have e : (W0.alloc (.cells (madeCells #[.slice none 0 0] 24) 22)).heap.size = w.heap.size + 1 + 1 + 1 := by simp; omega
   rwa [e] at this
  ·rw [hW]
   have := (Tab.new W0).next ((Below.refl _ _).alloc (Nat.le_refl _) (.cells #[.slice (some ⟨w.heap.size + 1 + 1, 0, none⟩) 24 24] 106))
   rwa [z0] at this
 have HW := hid hW
 have HW0 := hid hW0
 have HLP := hid hp.1
 have HLT := hid ht.1
 have HT := hid hokt
 have HPM : Hid (∀ i, i < pn → -24 ≤ p.getD i 0) := hid (fun i hi => (term_num hokp (by rw [hp.1]; exact hi)).1)
 have hars := (sig_arities (termOk_parts hokt).1).1
 obtain ⟨R, hR⟩ : ∃ R, mst sg t p 0 s0 = R := ⟨_, rfl⟩
 rw [hR]
 have HR := hid hR
 have HM0 := hid M0
 clear hW hW0 h hp ht b0 b1 M0 hokp hokt hR z0
 go_enter Try.func66, Try.ntmps66
 go_wp2_with fail
 clear hmk
 go_loopg [9, 10] pn (fun g k i wr => ∃ (k' i' : Nat) (s : List (List Int)), k = .int .i64 k' ∧ i = .int .i64 i' ∧ i' + g = pn ∧ k' ≤ m ∧ mst sg t (p.drop i') k' s = R ∧ (∀ j, (s.getD j []).length ≤ 60) ∧ Mt w wr A n c sg P pn p Q m t s)
 case atStart =>
  have hM := HM0.out
  rw [HW.out, HW0.out] at hM
  exact ⟨0, 0, s0, rfl, rfl, by omega, Nat.zero_le _, HR.out, fun j => by rw [s0_get]; simp, hM⟩
 case round =>
  obtain ⟨k, i, s, rfl, rfl, hi, hk, hmst, hs60, M⟩ := hrel
  clear HM0 HW HW0
  have HI := hid hi
  have HMS := hid hmst
  have HS60 := hid hs60
  clear hi hmst hs60
  by_cases hip : i < pn
  ·have hgk := hid (show gk - 1 < gk ∧ i + 1 + (gk - 1) = pn by have := HI.out; omega)
   obtain ⟨bp, op, x, rfl, hbp, hx, ex⟩ := M.sp.spot hip
   have hx24 := HPM.out i hip
   rw [ex.out] at hx24
   have HD := hid (show p.drop i = x :: p.drop (i + 1) by rw [drop_cons (by rw [HLP.out]; exact hip), ex.out])
   have cR : wr.cell? ⟨w.heap.size + 1, 0, none⟩ = some (.slice none 0 0) := M.r1.cell 0
   have fR : wr.frozen? ⟨w.heap.size + 1, 0, none⟩ = false := M.r1.free 0
   by_cases hkm : k < m
   ·obtain ⟨bt, ot, y, rfl, hbt, hy, ey⟩ := M.st.spot hkm
    have hkl : ¬ t.length ≤ k := by rw [HLT.out]; omega
    by_cases hx0 : 0 ≤ x
    ·by_cases hxy : x = y
     ·subst hxy
      have S := hid (show mst sg t (p.drop (i + 1)) (k + 1) s = R by rw [← HMS.out, HD.out, mst_sym hkl hx0 ey.out.symm])
      have HM := hid (fun d => M.next (below_drewN (Below.refl _ _) d))
      have hd : (x != x) = false := by simp
      clear M ex ey HD
      go_wp2
      go_quiet (fail)
      go_wp2
      go_roundg (gk - 1)
      case measure => exact hgk.out.1
      case rel => exact ⟨k + 1, i + 1, s, by simp, by simp, hgk.out.2, by omega, S.out, HS60.out, HM.out _⟩
     ·have HN := hid (show R = none by rw [← HMS.out, HD.out, mst_symNo hkl hx0 (by rw [ey.out]; exact hxy)])
      have HM := hid (fun d => M.next (below_drewN (Below.refl _ _) d))
      have hd : (x != y) = true := by simp [hxy]
      have F1 := hid (fun d => ansM_no (w := w) HN.out (below_drewN M.b d))
      have F2 := hid (fun d => ansM_no (w := w) HN.out ((below_drewN M.b d).setCell (p := ⟨w.heap.size + 1, 0, none⟩) (show w.heap.size ≤ w.heap.size + 1 by omega) (.slice none 0 0)))
      clear M ex ey HD HM
      go_wp2
      go_quiet (fail)
      go_wp2
      first
       | exact bodyPost_ret (v := .tuple #[.agg #[.slice none 0 0], .bool false]) (by simp [results, Try.results66, go_sem, cR]) rfl (F1.out _)
       | exact bodyPost_ret (v := .tuple #[.agg #[.slice none 0 0], .bool false]) (by simp [results, Try.results66, go_sem, cR]) rfl (F2.out _)
    ·obtain ⟨v, hv⟩ : ∃ v : Nat, x = -1 - (v : Int) := ⟨(-1 - x).toNat, by omega⟩
     subst hv
     have hv24 : v < 24 := by omega
     have hvr : vr (-1 - (v : Int)) = v := by unfold vr; omega
     obtain ⟨t1, t2, t3⟩ := term_at HT.out (show k < t.length by rw [HLT.out]; exact hkm)
     rw [HLT.out] at t3
     have hsl := (sub_len1 HT.out (show k < t.length by rw [HLT.out]; exact hkm)).1
     have cA : wr.cell? ⟨w.heap.size, 0, none⟩ = some (.slice A n c) := M.r0.cell 0
     have LS := hid (l1Sub A (some ⟨bt, ot, none⟩) n c m mc sg t k (len1 sg t k) wr (M.ss.more M.b.size) (M.st.more M.b.size) hn (by omega) hmc hmc2 hars hkm t1 t2 t3)
     obtain ⟨ys, hys⟩ : ∃ ys, subL sg t k = ys := ⟨_, rfl⟩
     rw [hys] at LS hsl
     have HYS := hid hys
     have hyl : k + ys.length ≤ m := by rw [hsl]; exact t3
     have hyl60 : ys.length ≤ 60 := by omega
     have hwr := M.b.size
     have hw3 := M.r3.lt
     clear hys t1 t2 t3 hsl hy ey cR fR
     go_wp2_with fail
     refine LS.out.mono ?_
     rintro e w1 ⟨D, dn, dc, rfl, od, bb⟩
     replace M := M.next bb
     have hx1 : w1.cell? ⟨bp, op + i, none⟩ = some (.int .i64 (-1 - (v : Int))) := (bb.cell (p := ⟨bp, op + i, none⟩) (show bp < wr.heap.size by omega)).trans hx
     obtain rfl : dn = ys.length := Own.len od
     replace od := Own.lower (base' := w.heap.size + 1 + 1 + 1) od (by omega)
     obtain ⟨Ao, no, co, hc, oo⟩ := M.tb.at hv24
     obtain ⟨os, hos⟩ : ∃ os, s.getD v [] = os := ⟨_, rfl⟩
     rw [hos] at oo
     have HOS := hid hos
     have HNO := hid (Own.len oo)
     have hno60 : no ≤ 60 := by rw [HNO.out, ← hos]; exact HS60.out v
     have c3 : w1.cell? ⟨w.heap.size + 1 + 1 + 1, 0, none⟩ = some (.slice (some ⟨w.heap.size + 1 + 1, 0, none⟩) 24 24) := M.r3.cell 0
     have hw1 : IntKind.i64.wrap (-1 - (-1 - (v : Int))) = (v : Int) := by rw [IntKind.wrap_i64]; omega
     have hw2 : IntKind.i64.wrap (v : Int) = (v : Int) := by rw [IntKind.wrap_i64]; omega
     have j0 : (0 : Int) ≤ (v : Int) := by omega
     have j1 : (v : Int) < 24 := by omega
     have HMD := hid (fun d => M.next (below_drewN (Below.refl _ _) d))
     have HOD := hid (fun d => Own.drewN od d)
     have HOO := hid (fun d => Own.drewN oo d)
     have HC := hid hc
     have HX1 := hid hx1
     have HVR := hid hvr
     clear bb hx LS M od oo hos hvr
     go_wp2
     go_quiet (fail)
     generalize hd1 : w1.drewN _ = w2
     have M : Mt w w2 A n c sg (some ⟨bp, op, none⟩) pn p (some ⟨bt, ot, none⟩) m t s := by rw [← hd1]; exact HMD.out _
     have od : Own w2 (w.heap.size + 1 + 1 + 1) (.slice D ys.length dc) ys := by rw [← hd1]; exact HOD.out _
     have oo : Own w2 (w.heap.size + 1 + 1 + 1) (.slice Ao no co) os := by rw [← hd1]; exact HOO.out _
     clear hd1 HMD HOD HOO hx1 c3 hc
     have cR : w2.cell? ⟨w.heap.size + 1, 0, none⟩ = some (.slice none 0 0) := M.r1.cell 0
     have fR : w2.frozen? ⟨w.heap.size + 1, 0, none⟩ = false := M.r1.free 0
     by_cases hn0 : no = 0
     ·have hno2 : ¬ ((s.getD (vr (-1 - (v : Int))) []).length ≠ 0 ∧ s.getD (vr (-1 - (v : Int))) [] ≠ subL sg t k) := by
       rw [HVR.out, HOS.out]
       intro h
       exact h.1 (by rw [← HNO.out]; exact hn0)
      subst hn0
      have S := hid (show mst sg t (p.drop (i + 1)) (k + ys.length) (s.set v ys) = R by rw [← HMS.out, HD.out, mst_var hkl (show ¬ 0 ≤ -1 - (v : Int) by omega) hno2, HVR.out, HYS.out])
      have hs2 := hid (show ∀ j, ((s.set v ys).getD j []).length ≤ 60 from fun j => by rw [set_get]; split; exact hyl60; exact HS60.out j)
      have hxq : w2.cell? ⟨bp, op + i, none⟩ = some (.int .i64 (-1 - (v : Int))) := by
       obtain ⟨b', o', x', e', -, hq, ex'⟩ := M.sp.spot hip
       injection e' with e'
       injection e' with e1 e2
       subst e1 e2
       rw [hq, ← ex'.out, ex.out]
      have c3q : w2.cell? ⟨w.heap.size + 1 + 1 + 1, 0, none⟩ = some (.slice (some ⟨w.heap.size + 1 + 1, 0, none⟩) 24 24) := M.r3.cell 0
      have fT : w2.frozen? ⟨w.heap.size + 1 + 1, v, none⟩ = false := M.tb.free v
      obtain ⟨A9, n9, c9, hcq, -⟩ := M.tb.at hv24
      have HM2 := hid (fun d => (M.next (below_drewN (Below.refl _ _) d)).put hv24 (Own.drewN od d))
      clear M od
      go_wp2
      go_region
      go_wp2
      go_roundg (gk - 1)
      case measure => exact hgk.out.1
      case rel => exact ⟨k + ys.length, i + 1, s.set v ys, by simp, by simp, hgk.out.2, hyl, S.out, hs2.out, HM2.out _⟩
     ·have hpos : (0 : Int) < (no : Int) := by omega
      go_wp2_with fail
      refine (specSame Ao D no ys.length co dc os ys w2 (Own.seg oo) (Own.seg od) (by omega) (by omega)).mono ?_
      rintro e w3 ⟨he, d3, rfl⟩
      replace M := M.next (below_drewN (Below.refl _ _) d3)
      replace od := Own.drewN od d3
      clear oo cR fR
      generalize w2.drewN d3 = w3 at *
      have cR : w3.cell? ⟨w.heap.size + 1, 0, none⟩ = some (.slice none 0 0) := M.r1.cell 0
      have fR : w3.frozen? ⟨w.heap.size + 1, 0, none⟩ = false := M.r1.free 0
      by_cases hoy : os = ys
      ·rw [decide_eq_true hoy] at he
       subst he
       have hno2 : ¬ ((s.getD (vr (-1 - (v : Int))) []).length ≠ 0 ∧ s.getD (vr (-1 - (v : Int))) [] ≠ subL sg t k) := by
        rw [HVR.out, HOS.out, HYS.out]
        intro h
        exact h.2 hoy
       have S := hid (show mst sg t (p.drop (i + 1)) (k + ys.length) (s.set v ys) = R by rw [← HMS.out, HD.out, mst_var hkl (show ¬ 0 ≤ -1 - (v : Int) by omega) hno2, HVR.out, HYS.out])
       have hs2 := hid (show ∀ j, ((s.set v ys).getD j []).length ≤ 60 from fun j => by rw [set_get]; split; exact hyl60; exact HS60.out j)
       have hxq : w3.cell? ⟨bp, op + i, none⟩ = some (.int .i64 (-1 - (v : Int))) := by
        obtain ⟨b', o', x', e', -, hq, ex'⟩ := M.sp.spot hip
        injection e' with e'
        injection e' with e1 e2
        subst e1 e2
        rw [hq, ← ex'.out, ex.out]
       have c3q : w3.cell? ⟨w.heap.size + 1 + 1 + 1, 0, none⟩ = some (.slice (some ⟨w.heap.size + 1 + 1, 0, none⟩) 24 24) := M.r3.cell 0
       have fT : w3.frozen? ⟨w.heap.size + 1 + 1, v, none⟩ = false := M.tb.free v
       obtain ⟨A9, n9, c9, hcq, -⟩ := M.tb.at hv24
       have HM2 := hid (fun d => (M.next (below_drewN (Below.refl _ _) d)).put hv24 (Own.drewN od d))
       clear M od
       go_wp2
       go_region
       go_wp2
       go_roundg (gk - 1)
       case measure => exact hgk.out.1
       case rel => exact ⟨k + ys.length, i + 1, s.set v ys, by simp, by simp, hgk.out.2, hyl, S.out, hs2.out, HM2.out _⟩
      ·rw [decide_eq_false hoy] at he
       subst he
       have HN := hid (show R = none by
        rw [← HMS.out, HD.out, mst_varNo hkl (show ¬ 0 ≤ -1 - (v : Int) by omega) (by
         rw [HVR.out, HOS.out, HYS.out]
         exact ⟨by rw [← HNO.out]; exact hn0, hoy⟩)])
       have F1 := hid (ansM_no (w := w) HN.out M.b)
       have F2 := hid (ansM_no (w := w) HN.out ((M.b).setCell (p := ⟨w.heap.size + 1, 0, none⟩) (show w.heap.size ≤ w.heap.size + 1 by omega) (.slice none 0 0)))
       clear M od ex HD
       go_wp2
       first
        | exact bodyPost_ret (v := .tuple #[.agg #[.slice none 0 0], .bool false]) (by simp [results, Try.results66, go_sem, cR]) rfl F1.out
        | exact bodyPost_ret (v := .tuple #[.agg #[.slice none 0 0], .bool false]) (by simp [results, Try.results66, go_sem, cR]) rfl F2.out
   ·have HN := hid (show R = none by rw [← HMS.out, HD.out, mst_out (by rw [HLT.out]; omega)])
    have hge : (m : Int) ≤ (k : Int) := by omega
    have F1 := hid (ansM_no (w := w) HN.out M.b)
    have F2 := hid (ansM_no (w := w) HN.out ((M.b).setCell (p := ⟨w.heap.size + 1, 0, none⟩) (show w.heap.size ≤ w.heap.size + 1 by omega) (.slice none 0 0)))
    clear M ex HD
    go_wp2
    first
     | exact bodyPost_ret (v := .tuple #[.agg #[.slice none 0 0], .bool false]) (by simp [results, Try.results66, go_sem, cR]) rfl F1.out
     | exact bodyPost_ret (v := .tuple #[.agg #[.slice none 0 0], .bool false]) (by simp [results, Try.results66, go_sem, cR]) rfl F2.out
  ·have hipn : i = pn := by have := HI.out; omega
   have hRs : R = some s := by rw [← HMS.out, hipn, List.drop_eq_nil_of_le (by rw [HLP.out]; exact Nat.le_refl _)]; rfl
   have HRS := hid hRs
   have hlen := M.tb.len
   have htot : tot s ≤ 1048576 := by have := tot_le (M := 60) HS60.out; rw [hlen] at this; omega
   have LP := hid (l2Plain _ 24 24 s _ M.tb.segs htot)
   have c3 : wr.cell? ⟨w.heap.size + 1 + 1 + 1, 0, none⟩ = some (.slice (some ⟨w.heap.size + 1 + 1, 0, none⟩) 24 24) := M.r3.cell 0
   have z1 := M.b.size
   have r1 := M.r1
   have hb := M.b
   have zr := M.r3.lt
   clear hRs hlen htot M hipn
   go_wp2_with fail
   refine LP.out.mono ?_
   rintro e w2 ⟨D, dn, dc, rfl, od, bb⟩
   replace r1 := r1.next bb
   replace hb := next_trans hb bb
   have cR : w2.cell? ⟨w.heap.size + 1, 0, none⟩ = some (.slice none 0 0) := r1.cell 0
   have fR : w2.frozen? ⟨w.heap.size + 1, 0, none⟩ = false := r1.free 0
   have F : AnsM w (resL R) R.isSome (.returned (.tuple #[.agg #[.slice D dn dc], .bool true])) (w2.setCell ⟨w.heap.size + 1, 0, none⟩ (.slice D dn dc)) := by
    have hbt : Btw (w.heap.size + 1) (w.heap.size + 2) w2 (w2.setCell ⟨w.heap.size + 1, 0, none⟩ (.slice D dn dc)) := Btw.of_grown (grown_put (World.grownBy.refl _ _) _ _) (fun k hk => by injection hk; omega)
    have o2 := od.btw hbt (.inr (by omega))
    refine ⟨D, dn, dc, by rw [HRS.out]; rfl, ?_, hb.setCell (p := ⟨w.heap.size + 1, 0, none⟩) (show w.heap.size ≤ w.heap.size + 1 by omega) _⟩
    rw [HRS.out]
    exact o2.wider z1 (by simp)
   have HF := hid F
   clear F od bb hb r1 LP
   go_wp2
   exact bodyPost_ret (v := .tuple #[.agg #[.slice D dn dc], .bool true]) (by simp [results, Try.results66, go_sem, cR]) rfl HF.out
structure Mr (w wr : World) (A : Option Addr) (n c : Nat) (sg : List Int) (P : Option Addr) (pn : Nat) (p : List Int) (Q : Option Addr) (m : Nat) (t : List Int) : Prop where
 r0 : Row wr w.heap.size 31 #[.slice A n c]
 r1 : Row wr (w.heap.size + 1) 106 #[.slice none 0 0]
 ss : Seg wr wr.heap.size A n sg
 sp : Seg wr wr.heap.size P pn p
 st : Seg wr wr.heap.size Q m t
 b : Below w.heap.size w wr
section
variable {w wr w' : World} {A : Option Addr} {n c : Nat} {sg : List Int} {P : Option Addr} {pn : Nat} {p : List Int} {Q : Option Addr} {m : Nat} {t : List Int}
theorem Mr.next (h : Mr w wr A n c sg P pn p Q m t) (hb : Below wr.heap.size wr w') : Mr w w' A n c sg P pn p Q m t :=
 ⟨h.r0.next hb, h.r1.next hb, h.ss.next hb, h.sp.next hb, h.st.next hb, next_trans h.b hb⟩
end
end matchSpec
end
section
namespace concat
open Go.RowKit base ints marks app sym segs segsHelp
set_option maxRecDepth 100000
end concat
end
section
namespace put
open Go.RowKit segsHelp base ints sig term arity endOf cursor termOk endAt inside marks app sym sub segs posMath putMath concat
set_option maxRecDepth 100000
end put
end
section
namespace shifted
open Go.RowKit base ints sig term termOk marks app sym segs termFacts varsMath fillMath Go.Proofs.Ytblhmplpcdcejaa.look
set_option maxRecDepth 100000
end shifted
end
section
namespace filled
open Go.RowKit base ints sig cursor term termOk marks app appAt sym sub segs segsHelp termFacts varsMath varsOf fillMath Go.Proofs.Ytblhmplpcdcejaa.look shifted substOk gives
set_option maxRecDepth 100000
def fitsB (ss : List (List Int)) (t : List Int) : Bool := decide ((fillL (givesL ss) t).length ≤ 60)
end filled
end
section
namespace sameSubst
open Go.RowKit base ints sig same marks sym segs segsHelp kinds varsOf fillMath Go.Proofs.Ytblhmplpcdcejaa.look substOk gives
set_option maxRecDepth 100000
end sameSubst
end
section
namespace compMath
open term termOk termFacts segsHelp fillMath substOk gives plainMath plainOf
def compL (us ss : List (List Int)) (i : Nat) : List Int := fillL (givesL us) (givesL ss i)
def outL (us ss : List (List Int)) (k : Nat) : List (List Int) := (List.range k).map (compL us ss)
theorem out_len (us ss : List (List Int)) (k : Nat) : (outL us ss k).length = k := by simp [outL]
end compMath
end
section
namespace plainFacts
open Go.RowKit base ints sig term termOk termFacts fillMath plainMath plainOf substOk gives sameSubst compMath filled
end plainFacts
end
section
namespace matchTot
open Go.RowKit base ints sig term termOk app sym sub segs segsHelp plainMath gives plainOf fillMath termFacts matchMath matchSpec
end matchTot
end
section
namespace matchFacts
open sig term termOk termFacts endAt sub termMath fillMath posMath segsHelp substOk gives plainMath plainFacts filled sameSubst matchMath matchSpec
end matchFacts
end
section
namespace shape
open Go.RowKit base ints sig cursor marks app sym appAt segs segsHelp segsMark kinds
theorem Owned.num (w : World) (lo hi : Nat) (x : Int) : Owned w lo hi .num [.int .i64 x] x := ⟨[], ⟨rfl, rfl⟩, List.nodup_nil, fun k hk => by cases hk⟩
theorem Ow.num {w w' : World} {cs : List Value} {x : Int} {F : List Nat} (h : Ow w .num cs x F) (y : Int) : Ow w' .num [.int .i64 y] y F := ⟨rfl, h.2⟩
end shape
end
section
namespace kindsW
open Go.RowKit base ints sig cursor marks app sym appAt segs segsHelp segsMark kinds shape
set_option maxRecDepth 100000
abbrev sStep : Sh := .cat .num (.cat .num sI)
abbrev sStepS : Sh := .row 92 sStep
abbrev sWalk : Sh := .cat sI sStepS
end kindsW
end
section
open Go.Lib (hid)
namespace stepSpec
open Go.RowKit base ints sig term termOk endAt endOf marks app sym sub segs segsHelp kinds termFacts termMath posMath plainMath plainFacts plain gives fillMath shifted matchMath matchSpec putMath varsOf shape kindsR kindsW ruleMath ruleSpec stepMath walkMath
set_option maxRecDepth 100000
theorem right_sys {sg : List Int} {rs : List Rl} {t : List Int} (h : sysOkB sg rs = false) : rightB sg rs t = false := by unfold rightB; rw [h]; rfl
theorem right_parts {sg : List Int} {rs : List Rl} {t : List Int} (h : rightB sg rs t = true) : sysOkB sg rs = true ∧ termOkB sg t = true := by unfold rightB at h; rw [Bool.and_eq_true] at h; exact h
theorem redex_no {sg : List Int} {rs : List Rl} {t : List Int} {a r : Int} (h : thereR sg rs t a r = false) : redexB sg rs t a r = false := by unfold redexB; rw [h]; rfl
theorem redex_yes {sg : List Int} {rs : List Rl} {t : List Int} {a r : Int} (h : thereR sg rs t a r = true) : redexB sg rs t a r = redB sg (rl rs r) t a.toNat := by unfold redexB; rw [h]; rfl
theorem at_no {sg : List Int} {rs : List Rl} {t : List Int} {a r : Int} (h : thereR sg rs t a r = false) : stepAtO sg rs t a r = none := by unfold stepAtO; rw [if_neg (by rw [h]; simp)]
theorem sys_rule {sg : List Int} {rs : List Rl} (h : sysOkB sg rs = true) {r : Nat} (hr : r < rs.length) : ruleOkB sg (rs.getD r ([], [])) = true := by
 have := rl_ok (r := (r : Int)) h (by omega)
 unfold rl at this
 simpa using this
set_option maxHeartbeats 2000000 in
theorem l7Right (a v : Value) (d : Dat sSystem) (T : Option Addr) (m c : Nat) (t : List Int) (w : World) (h : Rd w w.heap.size sSystem [a, v] d) (hz : sz sSystem d ≤ 1048576) (ht : Seg w w.heap.size T m t) (hm : m ≤ 1048576) :
  Calls Try.prog 61 #[.agg #[a, v], .slice T m c] w (AnsB w (rightB d.1 d.2 t)) := by
 obtain ⟨A, n, cs, V, q, cv, rfl, rfl, hs, hc, hcv, hq, hn, hq1, hrs, hsg, hE⟩ := rd_sys h hz
 obtain ⟨W, hW, rA, bel⟩ := box1 w 34 #[.slice A n cs, .slice V q cv]
 have HW := hid hW
 have L1 := hid (specSystemOk _ _ d W (h.next bel) hz)
 have L2 := hid (fun (w1 : World) (bb : Below w.heap.size w w1) => specTermOk A T n cs m c d.1 t w1 (hs.next bb) (ht.next bb) hn hm)
 clear hW h hz hs hc hcv hq hrs hsg hE ht
 cases ok1 : sysOkB d.1 d.2 with
 | false =>
  have HS := hid ok1
  clear ok1
  go_enter Try.func61, Try.ntmps61
  go_wp2_with fail
  rw [← HW.out]
  refine L1.out.mono ?_
  rintro e w1 ⟨he, bb⟩
  rw [HS.out] at he
  subst he
  have F := hid (ansB (b := rightB d.1 d.2 t) (a := false) (by rw [right_sys HS.out]) (next_trans bel bb))
  clear bb bel rA
  go_wp2
  go_ret
  exact F.out
 | true =>
  obtain ⟨bt, hbt⟩ : ∃ b, termOkB d.1 t = b := ⟨_, rfl⟩
  have HS := hid (show rightB d.1 d.2 t = bt by unfold rightB; rw [ok1, hbt]; rfl)
  have HB := hid hbt
  have H1 := hid ok1
  clear ok1 hbt
  go_enter Try.func61, Try.ntmps61
  go_wp2_with fail
  rw [← HW.out]
  refine L1.out.mono ?_
  rintro e w1 ⟨he, bb⟩
  rw [H1.out] at he
  subst he
  replace rA := rA.next bb
  replace bel := next_trans bel bb
  have cA : w1.cell? ⟨w.heap.size, 0, none⟩ = some (.slice A n cs) := rA.cell 0
  clear bb L1
  go_wp2_with fail
  refine (L2.out _ bel).mono ?_
  rintro e w2 ⟨he, bb⟩
  rw [HB.out] at he
  subst he
  have F := hid (ansB (b := rightB d.1 d.2 t) (a := bt) (by rw [HS.out]) (next_trans bel bb))
  clear bb bel rA cA
  cases bt <;> (go_wp2; go_ret; exact F.out)
-- REST
def SubIn (W : World) (A : Option Addr) (n cs : Nat) (T : Option Addr) (m c : Nat) (x : Int) (ys : List Int) : Prop := ∀ X, Below W.heap.size W X → Calls Try.prog 65 #[.agg #[.slice A n cs], .slice T m c, .int .i64 x] X fun e w' => ∃ D dn dc, e = .returned (.slice D dn dc) ∧ Own w' W.heap.size (.slice D dn dc) ys ∧ Below W.heap.size W w' ∧ Below X.heap.size X w'
theorem subIn {W : World} {A : Option Addr} {n cs : Nat} {T : Option Addr} {m c : Nat} {sg t : List Int} {a : Nat} (h : Seg W W.heap.size A n sg) (h' : Seg W W.heap.size T m t) (hn : n ≤ 1048576) (hm : m ≤ 1048576) (hc : m ≤ c) (hc2 : c ≤ 9223372036854775807) (ht : termOkB sg t = true) (ha : a < t.length) : SubIn W A n cs T m c (a : Int) (subL sg t a) := fun X hX => by
 obtain ⟨t1, t2, t3⟩ := term_at ht ha
 have hl := h'.1
 refine (l1Sub A T n cs m c sg t a (len1 sg t a) X (h.next hX) (h'.next hX) hn hm hc hc2 (sig_arities (termOk_parts ht).1).1 (by omega) t1 t2 (by omega)).mono ?_
 rintro e w3 ⟨D, dn, dc, rfl, od, b3⟩
 exact ⟨D, dn, dc, rfl, Own.lower od hX.size, next_trans hX b3, b3⟩
theorem box_a {W w : World} {v : Bool} {o : Obj} (h : Below W.heap.size W w) : Value.bool v = .bool v ∧ Below W.heap.size W (w.alloc o) := ⟨rfl, h.alloc h.size _⟩
theorem box_b {W w : World} {v : Bool} {g i : Nat} {u : Value} (h : Below W.heap.size W w) (hg : W.heap.size ≤ g) : Value.bool v = .bool v ∧ Below W.heap.size W (w.setCell ⟨g, i, none⟩ u) := ⟨rfl, h.setCell hg _⟩
end stepSpec
end
section
namespace stepsMath
open sig term termOk termFacts ruleMath stepMath walkMath
section
variable {sg : List Int} {rs : List Rl} {t : List Int} {i k : Nat}
end
section
variable {sg : List Int} {rs : List Rl} {t : List Int} {i k : Nat}
end
end stepsMath
end
section
namespace dice
open Go.RowKit base ints cursor
section
variable {w w' : World} {p : Nat} {A : Option Addr} {n c i : Nat} {h : Int}
end
end dice
end
section
namespace drawSig
open Go.RowKit base ints sig cursor marks app sym dice
set_option maxRecDepth 100000
section
variable {w : World} {p : Nat} {A : Option Addr} {n c v : Nat} {wr : World} {O : Option Addr} {on oc : Nat} {xs : List Int}
end
end drawSig
end
section
namespace drawTerm
open Go.RowKit base ints sig term cursor marks app sym dice drawSig
set_option maxRecDepth 100000
def Rd (w : World) (p B : Nat) (A : Option Addr) (n : Nat) (xs : List Int) : Prop :=
 xs.length = n ∧ (0 < n → ∃ b off, A = some ⟨b, off, none⟩ ∧ b < B ∧ b ≠ p ∧ ∀ j, j < n → w.cell? ⟨b, off + j, none⟩ = some (.int .i64 (xs.getD j 0)))
theorem Rd.more {w : World} {p B B' : Nat} {A : Option Addr} {n : Nat} {xs : List Int} (h : Rd w p B A n xs) (hB : B ≤ B') : Rd w p B' A n xs :=
 ⟨h.1, fun hn => by obtain ⟨b, off, e, hb, hne, hc⟩ := h.2 hn; exact ⟨b, off, e, by omega, hne, hc⟩⟩
theorem Rd.keep {w w' : World} {p B : Nat} {A : Option Addr} {n : Nat} {xs : List Int} (h : Rd w p B A n xs) (hk : ∀ q : Addr, q.block < B → q.block ≠ p → w'.cell? q = w.cell? q) : Rd w' p B A n xs :=
 ⟨h.1, fun hn => by obtain ⟨b, off, e, hb, hne, hc⟩ := h.2 hn; exact ⟨b, off, e, hb, hne, fun j hj => (hk ⟨b, off + j, none⟩ hb hne).trans (hc j hj)⟩⟩
theorem Rd.below {w w' : World} {p B B' : Nat} {A : Option Addr} {n : Nat} {xs : List Int} (h : Rd w p B A n xs) (hb : Below B' w w') (hB : B ≤ B') : Rd w' p B A n xs :=
 h.keep fun q hq _ => hb.cell (by omega)
theorem Rd.seg {w : World} {p B : Nat} {A : Option Addr} {n : Nat} {xs : List Int} (h : Rd w p B A n xs) : Seg w B A n xs :=
 ⟨h.1, fun hn => by obtain ⟨b, off, e, hb, _, hc⟩ := h.2 hn; exact ⟨b, off, e, hb, hc⟩⟩
section
variable {w : World} {p : Nat} {A : Option Addr} {n c : Nat} {S : Option Addr} {sn sc : Nat} {sg : List Int} {wr w' : World}
end
end drawTerm
end
section
namespace drawAny
open Go.RowKit base ints sig term cursor termOk marks app sym dice drawSig drawTerm
set_option maxRecDepth 100000
theorem Own.cap {w : World} {base : Nat} {O : Option Addr} {on oc : Nat} {xs : List Int} (h : Own w base (.slice O on oc) xs) : on ≤ oc ∧ oc ≤ 9223372036854775807 := by
 rcases h.2 with ⟨e, _⟩ | ⟨g, cap, cur, e, _, _, h1, h2, _⟩
 ·injection e with _ e1 e2; omega
 ·injection e with _ e1 e2
  have := Own.len h
  unfold maxLen at h2
  omega
end drawAny
end
section
namespace drawX
open Go.RowKit base ints sig cursor marks app appAt sym segs shape dice
def RdQ (w : World) (Q : Nat → Prop) : (s : Sh) → List Value → Dat s → Prop
 | .num, cs, (x : Int) => cs = [.int .i64 x]
 | .bit, cs, (x : Bool) => cs = [.bool x]
 | .row _ s, cs, (d : List (Dat s)) => ∃ A n c, cs = [.slice A n c] ∧ Cap A n c ∧ d.length = n ∧
   (0 < n → ∃ b off, A = some ⟨b, off, none⟩ ∧ Q b ∧ ∀ j, j < n → ∃ es, es.length = nc s ∧ Piece w b (off + j * nc s) es ∧ RdQ w Q s es (d.getD j (dft s)))
 | .cat a b, cs, d => ∃ ca cb, cs = ca ++ cb ∧ RdQ w Q a ca d.1 ∧ RdQ w Q b cb d.2
section
variable {w w' : World} {Q Q' : Nat → Prop} {B : Nat}
theorem RdQ.keep (hk : ∀ b, Q b → w'.heap[b]? = w.heap[b]?) : ∀ {s : Sh} {cs : List Value} {d : Dat s}, RdQ w Q s cs d → RdQ w' Q s cs d
 | .num, _, _, h => h
 | .bit, _, _, h => h
 | .row _ s, _, _, h => by
  obtain ⟨A, n, c, e, hc, hl, h1⟩ := h
  refine ⟨A, n, c, e, hc, hl, fun hn => ?_⟩
  obtain ⟨b, off, e2, hb, h2⟩ := h1 hn
  refine ⟨b, off, e2, hb, fun j hj => ?_⟩
  obtain ⟨es, he, hp, hr⟩ := h2 j hj
  exact ⟨es, he, hp.keep (fun p hp => World.cell?_of_block (by rw [hp]; exact hk b hb)), hr.keep hk⟩
 | .cat a b, _, _, h => by
  obtain ⟨ca, cb, e, h1, h2⟩ := h
  exact ⟨ca, cb, e, h1.keep hk, h2.keep hk⟩
theorem RdQ.rd (hk : ∀ b, Q b → b < B) : ∀ {s : Sh} {cs : List Value} {d : Dat s}, RdQ w Q s cs d → Rd w B s cs d
 | .num, _, _, h => h
 | .bit, _, _, h => h
 | .row _ s, _, _, h => by
  obtain ⟨A, n, c, e, hc, hl, h1⟩ := h
  refine ⟨A, n, c, e, hc, hl, fun hn => ?_⟩
  obtain ⟨b, off, e2, hb, h2⟩ := h1 hn
  refine ⟨b, off, e2, hk b hb, fun j hj => ?_⟩
  obtain ⟨es, he, hp, hr⟩ := h2 j hj
  exact ⟨es, he, hp, hr.rd hk⟩
 | .cat a b, _, _, h => by
  obtain ⟨ca, cb, e, h1, h2⟩ := h
  exact ⟨ca, cb, e, h1.rd hk, h2.rd hk⟩
theorem RdQ.len : ∀ {s : Sh} {cs : List Value} {d : Dat s}, RdQ w Q s cs d → cs.length = nc s
 | .num, _, _, h => by have h : _ = _ := h; rw [h]; rfl
 | .bit, _, _, h => by have h : _ = _ := h; rw [h]; rfl
 | .row _ _, _, _, h => by obtain ⟨A, n, c, e, _⟩ := h; rw [e]; rfl
 | .cat a b, _, _, h => by
  obtain ⟨ca, cb, e, h1, h2⟩ := h
  rw [e, List.length_append, h1.len, h2.len]; rfl
theorem RdQ.cat {a b : Sh} {ca cb : List Value} {x : Dat a} {y : Dat b} (h1 : RdQ w Q a ca x) (h2 : RdQ w Q b cb y) : RdQ w Q (.cat a b) (ca ++ cb) (x, y) := ⟨ca, cb, rfl, h1, h2⟩
theorem RdQ.one : ∀ {s : Sh} {cs : List Value} {d : Dat s}, RdQ w Q s cs d → ∀ u ∈ cs, u.oneCell' = true
 | .num, _, _, h, u, hu => by have h : _ = _ := h; rw [h] at hu; rw [List.mem_singleton.1 hu]; rfl
 | .bit, _, _, h, u, hu => by have h : _ = _ := h; rw [h] at hu; rw [List.mem_singleton.1 hu]; rfl
 | .row _ _, _, _, h, u, hu => by obtain ⟨A, n, c, e, _⟩ := h; rw [e] at hu; rw [List.mem_singleton.1 hu]; rfl
 | .cat a b, _, _, h, u, hu => by
  obtain ⟨ca, cb, e, h1, h2⟩ := h
  rw [e] at hu
  rcases List.mem_append.1 hu with hu | hu
  ·exact h1.one u hu
  ·exact h2.one u hu
end
def OutR (w : World) (p : Nat) (r : Option Nat) (b : Nat) : Prop := b < w.heap.size ∧ b ≠ p ∧ some b ≠ r
section
variable {w w' : World} {p : Nat} {r : Option Nat} {s : Sh} {cs : List Value} {d : Dat s}
end
def cellsOf (k : Nat) (vs : List Value) (j : Nat) : List Value := (vs.drop (j * k)).take k
def OwnQ (w : World) (p lo : Nat) (e : TypeId) (s : Sh) (A : Option Addr) (n c : Nat) (D : List (Dat s)) : Prop :=
 D.length = n ∧ ∃ vs : List Value, w.ownsRow lo e (nc s) (.slice A n c) n vs ∧ ∀ j, j < n → RdQ w (OutR w p (blk A)) s (cellsOf (nc s) vs j) (D.getD j (dft s))
section
variable {w w' : World} {p lo n c : Nat} {e : TypeId} {s : Sh} {A : Option Addr} {D : List (Dat s)}
theorem OwnQ.nil (w : World) (p lo : Nat) (e : TypeId) (s : Sh) : OwnQ w p lo e s none 0 0 [] := ⟨rfl, [], ⟨by simp, .inl ⟨rfl, rfl⟩⟩, fun j hj => absurd hj (Nat.not_lt_zero _)⟩
end
end drawX
end
section
namespace ownL
open Go.RowKit base ints sig cursor marks app appAt sym segs shape drawX
set_option maxRecDepth 100000
theorem Ow.one {w : World} : ∀ {s : Sh} {cs : List Value} {d : Dat s} {F : List Nat}, Ow w s cs d F → ∀ u ∈ cs, u.oneCell' = true
 | .num, _, _, _, h, u, hu => by have h : _ = _ ∧ _ := h; rw [h.1] at hu; rw [List.mem_singleton.1 hu]; rfl
 | .bit, _, _, _, h, u, hu => by have h : _ = _ ∧ _ := h; rw [h.1] at hu; rw [List.mem_singleton.1 hu]; rfl
 | .row _ _, _, _, _, h, u, hu => by obtain ⟨A, n, c, e, _⟩ := h; rw [e] at hu; rw [List.mem_singleton.1 hu]; rfl
 | .cat a b, _, _, _, h, u, hu => by
  obtain ⟨ca, cb, Fa, Fb, e, _, h1, h2⟩ := h
  rw [e] at hu
  rcases List.mem_append.1 hu with hu | hu
  ·exact Ow.one h1 u hu
  ·exact Ow.one h2 u hu
def OwnL (w : World) (lo hi : Nat) (e : TypeId) (s : Sh) (A : Option Addr) (n c : Nat) (D : List (Dat s)) : Prop :=
 D.length = n ∧ (∀ k, blk A = some k → k < hi) ∧ ∃ (vs : List Value) (G : Nat → List Nat), w.ownsRow lo e (nc s) (.slice A n c) n vs ∧ (A = none → c = 0) ∧ ((List.range n).flatMap G).Nodup ∧
  ∀ j, j < n → Ow w s (cellsOf (nc s) vs j) (D.getD j (dft s)) (G j) ∧ ∀ q ∈ G j, lo ≤ q ∧ q < hi ∧ some q ≠ blk A
section
variable {w w' : World} {lo hi n c : Nat} {e : TypeId} {s : Sh} {A : Option Addr} {D : List (Dat s)}
theorem OwnL.nil (w : World) (lo hi : Nat) (e : TypeId) (s : Sh) : OwnL w lo hi e s none 0 0 [] := ⟨rfl, (fun k hk => by cases hk), [], fun _ => [], ⟨by simp, .inl ⟨rfl, rfl⟩⟩, fun _ => rfl, by simp, fun j hj => absurd hj (Nat.not_lt_zero _)⟩
theorem OwnL.keep (h : OwnL w lo hi e s A n c D) (hk : ∀ k, lo ≤ k → k < hi → k < w.heap.size → w'.heap[k]? = w.heap[k]?) (hs : w.heap.size ≤ w'.heap.size) : OwnL w' lo hi e s A n c D := by
 obtain ⟨h1, h2, vs, G, h3, h4, h5, h6⟩ := h
 refine ⟨h1, h2, vs, G, ?_, h4, h5, fun j hj => ⟨(h6 j hj).1.keep fun q hq => ?_, (h6 j hj).2⟩⟩
 ·refine ⟨h3.1, ?_⟩
  rcases h3.2 with q | ⟨g, cap, cur, e1, hg, hr, q⟩
  ·exact .inl q
  ·have hlt := (Array.getElem?_eq_some_iff.1 hr).1
   injection e1 with e2 e3 e4
   exact .inr ⟨g, cap, cur, by rw [e2, e4], hg, (hk g hg (h2 g (by rw [e2]; rfl)) hlt).trans hr, q⟩
 ·have := (h6 j hj).2 q hq
  exact hk q this.1 this.2.1 ((h6 j hj).1.lt q hq)
theorem OwnL.next (h : OwnL w lo hi e s A n c D) (hb : Below w.heap.size w w') : OwnL w' lo hi e s A n c D := h.keep (fun k _ _ hk => hb.block k hk) hb.size
theorem OwnL.btw {lo' hi' : Nat} (h : OwnL w lo hi e s A n c D) (hb : Btw lo' hi' w w') (ho : hi ≤ lo' ∨ hi' ≤ lo) : OwnL w' lo hi e s A n c D := h.keep (fun k h1 h2 hk => hb.block k hk (by omega)) hb.size
theorem OwnL.wider {lo' hi' : Nat} (h : OwnL w lo hi e s A n c D) (h1 : lo' ≤ lo) (h2 : hi ≤ hi') : OwnL w lo' hi' e s A n c D := by
 obtain ⟨q1, q2, vs, G, q3, q4, q5, q6⟩ := h
 refine ⟨q1, fun k hk => Nat.lt_of_lt_of_le (q2 k hk) h2, vs, G, ⟨q3.1, ?_⟩, q4, q5, fun j hj => ⟨(q6 j hj).1, fun q hq => ?_⟩⟩
 ·rcases q3.2 with q | ⟨g, cap, cur, e1, hg, q⟩
  ·exact .inl q
  ·exact .inr ⟨g, cap, cur, e1, by omega, q⟩
 ·have := (q6 j hj).2 q hq
  exact ⟨by omega, by omega, this.2.2⟩
theorem OwnL.ge (h : OwnL w lo hi e s A n c D) : ∀ k, blk A = some k → lo ≤ k ∧ k < w.heap.size := fun k hk => by
 obtain ⟨_, _, vs, G, ho, _⟩ := h
 exact World.ownsRow.lt ho k (by rw [blk_own]; exact hk)
theorem OwnL.owned (h : OwnL w lo hi e s A n c D) : Owned w lo hi (.row e s) [.slice A n c] D := by
 obtain ⟨h1, h2, vs, G, h3, h4, h5, h6⟩ := h
 rcases h3.2 with ⟨e1, h0⟩ | ⟨g, cap, cur, e1, hg, hrow, hn, hm, hs, ht⟩
 ·injection e1 with a1 a2 a3
  subst a1 a2 a3
  exact ⟨[], ⟨none, 0, 0, rfl, h1, .inl ⟨rfl, rfl, rfl, rfl⟩⟩, by simp, fun k hk => by cases hk⟩
 ·injection e1 with a1 a2 a3
  subst a1 a3
  have hl : vs.length = n * nc s := h3.1
  refine ⟨g :: (List.range n).flatMap G, ⟨_, n, c, rfl, h1, .inr ⟨g, cur, cellsOf (nc s) vs, G, rfl, hrow, hn, by unfold maxLen at hm; omega, hs, rfl, fun j hj => ?_⟩⟩, List.nodup_cons.2 ⟨fun hb => ?_, h5⟩, fun k hk => ?_⟩
  ·have hjn : j * nc s + nc s ≤ n * nc s := by
    have := Nat.mul_le_mul_right (nc s) (show j + 1 ≤ n by omega)
    rw [Nat.add_mul] at this
    omega
   refine ⟨(h6 j hj).1.len, fun i hi => ?_, (h6 j hj).1⟩
   have h7 : cur.toList[j * nc s + i]? = vs[j * nc s + i]? := by rw [← ht, List.getElem?_take, if_pos (by omega)]
   rw [← Array.getElem?_toList, h7]
   unfold cellsOf
   rw [List.getElem?_take, if_pos hi, List.getElem?_drop]
  ·obtain ⟨j, hj, hb⟩ := List.mem_flatMap.1 hb
   exact ((h6 j (List.mem_range.1 hj)).2 g hb).2.2 rfl
  ·rcases List.mem_cons.1 hk with hk | hk
   ·rw [hk]; exact ⟨hg, h2 g rfl⟩
   ·obtain ⟨j, hj, hb⟩ := List.mem_flatMap.1 hk
    have := (h6 j (List.mem_range.1 hj)).2 k hb
    exact ⟨this.1, this.2.1⟩
theorem OwnL.rd (h : OwnL w lo hi e s A n c D) : Rd w w.heap.size (.row e s) [.slice A n c] D := h.owned.rd
theorem cells_left {k n j : Nat} {vs es : List Value} (hl : vs.length = n * k) (hj : j < n) : cellsOf k (vs ++ es) j = cellsOf k vs j := by
 have hjn : j * k + k ≤ n * k := by
  have := Nat.mul_le_mul_right k (show j + 1 ≤ n by omega)
  rw [Nat.add_mul] at this
  omega
 unfold cellsOf
 rw [List.drop_append_of_le_length (by omega), List.take_append_of_le_length (by rw [List.length_drop]; omega)]
theorem cells_right {k n j : Nat} {vs es : List Value} (hl : vs.length = n * k) : cellsOf k (vs ++ es) (n + j) = cellsOf k es j := by
 unfold cellsOf
 rw [show (n + j) * k = vs.length + j * k by rw [hl, Nat.add_mul], ← List.drop_drop, List.drop_left]
theorem flat_range {G H : Nat → List Nat} : ∀ {n m : Nat}, (List.range (n + m)).flatMap (fun j => if j < n then G j else H (j - n)) = (List.range n).flatMap G ++ (List.range m).flatMap H
 | n, 0 => by
  simp only [Nat.add_zero, List.range_zero, List.flatMap_nil, List.append_nil]
  rw [List.flatMap_def, List.flatMap_def]
  congr 1
  exact List.map_congr_left fun j hj => if_pos (List.mem_range.1 hj)
 | n, m + 1 => by
  rw [← Nat.add_assoc, List.range_succ, List.flatMap_append, flat_range, List.range_succ, List.flatMap_append]
  simp
  intro h; omega
theorem ownL_app {mid hi2 m : Nat} {vs es : List Value} {G : Nat → List Nat} {E : List (Dat s)} {H : Nat → List Nat} {A' : Option Addr} {c' : Nat} (h1 : D.length = n) (h2 : ∀ k, blk A = some k → k < hi) (h3 : w.ownsRow lo e (nc s) (.slice A n c) n vs) (h5 : ((List.range n).flatMap G).Nodup)
  (h6 : ∀ j, j < n → Ow w s (cellsOf (nc s) vs j) (D.getD j (dft s)) (G j) ∧ ∀ q ∈ G j, lo ≤ q ∧ q < hi ∧ some q ≠ blk A) (hmid : hi ≤ mid) (hlo : lo ≤ mid)
  (hE : E.length = m) (hn : ((List.range m).flatMap H).Nodup) (hin : ∀ j, j < m → Ow w s (cellsOf (nc s) es j) (E.getD j (dft s)) (H j) ∧ ∀ q ∈ H j, mid ≤ q ∧ q < hi2)
  (hown : w'.ownsRow lo e (nc s) (.slice A' (n + m) c') (n + m) (vs ++ es)) (hg : w.grownBy w' (blk A)) (hat : blk A' = blk A ∨ blk A' = some w.heap.size) (hc' : A' = none → c' = 0) : OwnL w' lo w'.heap.size e s A' (n + m) c' (D ++ E) := by
 have hvl : vs.length = n * nc s := h3.1
 have hA' : ∀ k, blk A' = some k → k < w'.heap.size := fun k hk => (World.ownsRow.lt hown k (by rw [blk_own]; exact hk)).2
 refine ⟨by simp [h1, hE], hA', vs ++ es, fun j => if j < n then G j else H (j - n), hown, hc', ?_, fun j hj => ?_⟩
 ·rw [flat_range]
  refine List.nodup_append.2 ⟨h5, hn, fun x hx y hy e => ?_⟩
  obtain ⟨i, hi', hx⟩ := List.mem_flatMap.1 hx
  obtain ⟨j, hj', hy⟩ := List.mem_flatMap.1 hy
  have q1 := (h6 i (List.mem_range.1 hi')).2 x hx
  have q2 := (hin j (List.mem_range.1 hj')).2 y hy
  omega
 ·dsimp only
  by_cases ej : j < n
  ·rw [if_pos ej, cells_left hvl ej, show (D ++ E).getD j (dft s) = D.getD j (dft s) by simp [List.getD, List.getElem?_append_left (show j < D.length by omega)]]
   obtain ⟨o1, o2⟩ := h6 j ej
   refine ⟨o1.keep fun q hq => hg.block q (o1.lt q hq) (fun e => (o2 q hq).2.2 e), fun q hq => ?_⟩
   have q3 := o2 q hq
   refine ⟨q3.1, Nat.lt_of_lt_of_le (o1.lt q hq) hg.size, ?_⟩
   rcases hat with e2 | e2
   ·rw [e2]; exact q3.2.2
   ·rw [e2]; intro e3; injection e3 with e3; have := o1.lt q hq; omega
  ·obtain ⟨i, rfl⟩ : ∃ i, j = n + i := ⟨j - n, by omega⟩
   have hi' : i < m := by omega
   rw [if_neg ej, cells_right hvl, show n + i - n = i by omega, show (D ++ E).getD (n + i) (dft s) = E.getD i (dft s) by simp [List.getD, List.getElem?_append_right (show D.length ≤ n + i by omega), h1]]
   obtain ⟨o1, o2⟩ := hin i hi'
   have hne : ∀ q ∈ H i, some q ≠ blk A := fun q hq e => by
    have := h2 q e.symm
    have := o2 q hq
    omega
   refine ⟨o1.keep fun q hq => hg.block q (o1.lt q hq) (fun e => hne q hq e), fun q hq => ?_⟩
   have q3 := o2 q hq
   refine ⟨by omega, Nat.lt_of_lt_of_le (o1.lt q hq) hg.size, ?_⟩
   rcases hat with e2 | e2
   ·rw [e2]; exact hne q hq
   ·rw [e2]; intro e3; injection e3 with e3; have := o1.lt q hq; omega
end
theorem OwnL.single {w : World} {lo hi g : Nat} {e : TypeId} {s : Sh} {es : List Value} {y : Dat s} (hr : Row w g e es.toArray) (ho : Owned w lo hi s es y) (hg : hi ≤ g) (hlo : lo ≤ g) : OwnL w lo (g + 1) e s (some ⟨g, 0, none⟩) 1 1 [y] := by
 obtain ⟨F, hF, hFn, hFb⟩ := ho
 have hel := hF.len
 refine ⟨rfl, fun k hk => by injection hk with hk; have hk : g = k := hk; omega, es, fun _ => F, ⟨by rw [hel]; simp, .inr ⟨g, 1, es.toArray, rfl, hlo, hr, Nat.le_refl _, by unfold maxLen; omega, by simp [hel], by simp [← hel]⟩⟩, (fun e => by cases e), by simpa using hFn, fun j hj => ?_⟩
 obtain rfl : j = 0 := by omega
 refine ⟨?_, fun q hq => ?_⟩
 ·have : cellsOf (nc s) es 0 = es := by unfold cellsOf; rw [Nat.zero_mul, List.drop_zero, List.take_of_length_le (by omega)]
  rw [this]; exact hF
 ·have := hFb q hq
  refine ⟨this.1, by omega, fun e => ?_⟩
  injection e with e
  have e : q = g := e
  omega
theorem run_appL {w : World} (ty T e : TypeId) (s : Sh) (z : Value) (bytes : Nat) (hT : Try.prog.underlying T = some (.slice e))
  (hI : (Try.prog.info? e).map (fun i => (i.zero, i.size, i.bytes)) = some (some z, nc s, bytes)) (hzc : z.cells.size = nc s) (hby : bytes ≤ 4096)
  (lo hi mid hi2 : Nat) (A : Option Addr) (n c g m c2 : Nat) (D E : List (Dat s)) (hown : OwnL w lo hi e s A n c D) (hx : OwnL w mid hi2 e s (some ⟨g, 0, none⟩) m c2 E) (hmid : hi ≤ mid) (hlm : lo ≤ mid) (hn : n ≤ 1048576) (hm : m ≤ 1048576) (hlo : lo ≤ w.heap.size) :
  ∃ A' c' w', (Builtin.append_ #[T, T] ty #[.slice A n c, .slice (some ⟨g, 0, none⟩) m c2]).run Try.prog w = .ok (.slice A' (n + m) c') w' ∧ OwnL w' lo w'.heap.size e s A' (n + m) c' (D ++ E) ∧ w.grownBy w' (blk A) ∧ (blk A' = blk A ∨ blk A' = some w.heap.size) ∧ Below lo w w' ∧ (A ≠ none ∨ 0 < m → ∃ g', A' = some ⟨g', 0, none⟩) := by
 obtain ⟨i0, hi', hz0, hz1, hz2⟩ := info_parts hI
 obtain ⟨h1, h2, vs, G, hr, h4, h5, h6⟩ := hown
 obtain ⟨k1, k2, us, H, kr, k4, k5, k6⟩ := hx
 have hul : us.length = m * nc s := kr.1
 have hone : ∀ u ∈ us, u.oneCell' = true := fun u hu => by
  obtain ⟨i, hi2, rfl⟩ := List.getElem_of_mem hu
  have hnp := nc_pos s
  have hj : i / nc s < m := by rw [Nat.div_lt_iff_lt_mul hnp]; omega
  refine Ow.one (k6 (i / nc s) hj).1 _ ?_
  unfold cellsOf
  have hdm : i / nc s * nc s + i % nc s = i := by rw [Nat.mul_comm]; exact Nat.div_add_mod i (nc s)
  have hmod := Nat.mod_lt i hnp
  refine List.mem_of_getElem? (i := i % nc s) ?_
  rw [List.getElem?_take, if_pos hmod, List.getElem?_drop, hdm]
  exact List.getElem?_eq_getElem hi2
 have hcells : ∀ j u, us[j]? = some u → w.cell? ((⟨g, 0, none⟩ : Addr).add j) = some u := fun j u hj => by
  have e2 : (⟨g, 0, none⟩ : Addr).add j = ⟨g, j, none⟩ := by unfold Addr.add; split <;> simp_all
  rw [e2]
  rcases kr.2 with ⟨e1, _⟩ | ⟨g', cap, cur, e1, _, hrow, _, _, _, ht⟩
  ·cases e1
  ·injection e1 with a1 a2 a3
   injection a1 with a1
   injection a1 with a1
   subst a1
   rw [Row.cell (t := e) (cs := cur) hrow, ← Array.getElem?_toList]
   have hjl := (List.getElem?_eq_some_iff.1 hj).1
   rw [← ht, List.getElem?_take, if_pos (by omega)] at hj
   exact hj
 obtain ⟨v', w', hrun, hown', hg, hnn, hat⟩ := run_append_own_at (P := Try.prog) w lo T ty e i0 z (nc s) bytes hT hi' hz0 hz1 hz2 hzc (nc_pos s) (.slice A n c) n vs hr ⟨g, 0, none⟩ m c2 us hul hcells hone (by unfold maxLen; omega) (by have h1 : (n + m) * bytes ≤ 2097152 * 4096 := Nat.mul_le_mul (by omega) hby; omega) hlo
 rw [blk_own] at hg
 have hform : ∃ A' c', v' = .slice A' (n + m) c' ∧ (A' = none → c' = 0) ∧ (A ≠ none ∨ 0 < m → ∃ g', A' = some ⟨g', 0, none⟩) := by
  rcases hown'.2 with ⟨e1, h0⟩ | ⟨g', cap, cur, e1, _⟩
  ·refine ⟨none, 0, by rw [e1, h0], fun _ => rfl, fun hh => ?_⟩
   have := (hnn.1 e1)
   rcases hh with hh | hh
   ·exact absurd (by have := this.1; injection this) hh
   ·omega
  ·exact ⟨_, _, e1, (fun e => by cases e), fun _ => ⟨g', rfl⟩⟩
 obtain ⟨A', c', rfl, hc', hf⟩ := hform
 rw [blk_own, blk_own] at hat
 exact ⟨A', c', w', hrun, ownL_app (hi2 := hi2) (H := H) h1 h2 hr h5 h6 hmid hlm k1 k5 (fun j hj => ⟨(k6 j hj).1, fun q hq => ⟨((k6 j hj).2 q hq).1, ((k6 j hj).2 q hq).2.1⟩⟩) hown' hg hat hc', hg, hat, (Below.refl lo w).grown hg hlo (fun k hk => (World.ownsRow.lt hr k (by rw [blk_own]; exact hk)).1), hf⟩
end ownL
end
section
namespace stepSpec
open Go.RowKit base ints sig term termOk endAt endOf marks app sym sub segs segsHelp kinds termFacts shifted matchMath matchSpec shape kindsR kindsW ruleMath ruleSpec stepMath walkMath stepsMath ownL
set_option maxRecDepth 100000
structure Sn (w : World) (A V : Option Addr) (n cs q cv : Nat) (L : List St) (O : Option Addr) (on oc : Nat) (wr : World) : Prop where
 r : Row wr w.heap.size 34 #[.slice A n cs, .slice V q cv]
 o : OwnL wr (w.heap.size + 1) wr.heap.size 92 sStep O on oc L
 b : Below w.heap.size w wr
theorem Sn.len {w wr : World} {A V : Option Addr} {n cs q cv : Nat} {L : List St} {O : Option Addr} {on oc : Nat} (h : Sn w A V n cs q cv L O on oc wr) : L.length = on := h.o.1
end stepSpec
end
section
namespace stepSpec
open Go.RowKit base ints sig term termOk endAt endOf marks app sym sub segs segsHelp kinds termFacts shifted matchMath matchSpec shape kindsR kindsW ruleMath ruleSpec stepMath walkMath stepsMath ownL varsOf
set_option maxRecDepth 100000
def RowB (w : World) (T : TypeId) (cs : Array Value) (wr : World) : Prop := Row wr w.heap.size T cs ∧ Below w.heap.size w wr
end stepSpec
end
section
namespace orderMath
open sig term termOk termFacts ruleMath stepMath walkMath stepsMath
def hasR (sg : List Int) (rs : List Rl) (t : List Int) (a : Nat) : Bool := rs.any fun x => redB sg x t a
def ruleF (sg : List Int) (rs : List Rl) (t : List Int) (a : Nat) : Int := match rs.findIdx? (fun x => redB sg x t a) with
 | some r => (r : Int)
 | none => -1
def plN (sg : List Int) (rs : List Rl) (t : List Int) (n : Nat) : List Int := ((List.range n).filter (hasR sg rs t)).map fun a : Nat => (a : Int)
def placesL (sg : List Int) (rs : List Rl) (t : List Int) : List Int := plN sg rs t t.length
def placesI (sg : List Int) (rs : List Rl) (t : List Int) : List Int := if rightB sg rs t = true then placesL sg rs t else []
def inN (E : Int → Int) (l : List Int) (i : Nat) : List Int := ((List.range i).filter fun k => decide (k + 1 = l.length ∨ E (l.getD k 0) ≤ l.getD (k + 1) 0)).map fun k => l.getD k 0
def outN (E : Int → Int) (l : List Int) : Nat → List Int × Int
 | 0 => ([], 0)
 | i + 1 => if (outN E l i).2 ≤ l.getD i 0 then ((outN E l i).1 ++ [l.getD i 0], E (l.getD i 0)) else outN E l i
def inL (E : Int → Int) (l : List Int) : List Int := inN E l l.length
def outL (E : Int → Int) (l : List Int) : List Int := (outN E l l.length).1
def endR (sg t : List Int) (a : Int) : Int := endI sg t a.toNat
def inmostI (sg : List Int) (rs : List Rl) (t : List Int) : List Int := inL (endR sg t) (placesI sg rs t)
def outmostI (sg : List Int) (rs : List Rl) (t : List Int) : List Int := outL (endR sg t) (placesI sg rs t)
def selL (sg : List Int) (rs : List Rl) (t : List Int) (s : Int) : List Int := if s = 1 then inL (endR sg t) (placesL sg rs t) else if s = 2 then placesL sg rs t else (placesL sg rs t).reverse
def stratB (s : Int) : Bool := decide (1 ≤ s ∧ s ≤ 3)
def pickL (sg : List Int) (rs : List Rl) (t : List Int) (s : Int) : Option (Int × Int) := (selL sg rs t s).head?.map fun a => (a, ruleF sg rs t a.toNat)
def pickO (sg : List Int) (rs : List Rl) (t : List Int) (s : Int) : Option (Int × Int) := if rightB sg rs t = true ∧ stratB s = true then pickL sg rs t s else none
section
variable {sg : List Int} {rs : List Rl} {t : List Int}
theorem rule_none {a : Nat} (h : ∀ k, k < rs.length → redB sg (rs.getD k ([], [])) t a = false) : ruleF sg rs t a = -1 ∧ hasR sg rs t a = false := by
 have h1 : ∀ x ∈ rs, redB sg x t a = false := fun x hx => by
  obtain ⟨k, hk, e⟩ := List.mem_iff_getElem.1 hx
  have := h k hk
  rw [List.getD_eq_getElem?_getD, List.getElem?_eq_getElem hk, Option.getD_some, e] at this
  exact this
 have h2 : rs.findIdx? (fun x => redB sg x t a) = none := List.findIdx?_eq_none_iff.2 h1
 refine ⟨by unfold ruleF; rw [h2], ?_⟩
 unfold hasR
 rw [List.any_eq_false]
 exact fun x hx => by rw [h1 x hx]; simp
theorem rule_some {a k : Nat} (hk : k < rs.length) (h : ∀ j, j < k → redB sg (rs.getD j ([], [])) t a = false) (hy : redB sg (rs.getD k ([], [])) t a = true) : ruleF sg rs t a = (k : Int) ∧ hasR sg rs t a = true := by
 have e : ∀ j (hj : j < rs.length), rs.getD j ([], []) = rs[j] := fun j hj => by rw [List.getD_eq_getElem?_getD, List.getElem?_eq_getElem hj, Option.getD_some]
 have h2 : rs.findIdx? (fun x => redB sg x t a) = some k := by
  rw [List.findIdx?_eq_some_iff_getElem]
  exact ⟨hk, by rw [← e k hk]; exact hy, fun j hj => by rw [← e j (by omega)]; rw [h j hj]; simp⟩
 refine ⟨by unfold ruleF; rw [h2], ?_⟩
 unfold hasR
 rw [List.any_eq_true]
 exact ⟨rs[k], List.getElem_mem hk, by rw [← e k hk]; exact hy⟩
theorem has_rule {a : Nat} (h : hasR sg rs t a = true) : ∃ k, k < rs.length ∧ ruleF sg rs t a = (k : Int) ∧ redB sg (rs.getD k ([], [])) t a = true ∧ ∀ j, j < k → redB sg (rs.getD j ([], [])) t a = false := by
 have e : ∀ j (hj : j < rs.length), rs.getD j ([], []) = rs[j] := fun j hj => by rw [List.getD_eq_getElem?_getD, List.getElem?_eq_getElem hj, Option.getD_some]
 cases h2 : rs.findIdx? (fun x => redB sg x t a) with
 | none =>
  have h1 := List.findIdx?_eq_none_iff.1 h2
  unfold hasR at h
  rw [List.any_eq_true] at h
  obtain ⟨x, hx, hr⟩ := h
  rw [h1 x hx] at hr
  cases hr
 | some k =>
  obtain ⟨hk, hy, hn⟩ := List.findIdx?_eq_some_iff_getElem.1 h2
  exact ⟨k, hk, by unfold ruleF; rw [h2], by rw [e k hk]; exact hy, fun j hj => by rw [e j (by omega)]; have := hn j hj; simpa using this⟩
theorem pl_yes {n : Nat} (h : hasR sg rs t n = true) : plN sg rs t (n + 1) = plN sg rs t n ++ [(n : Int)] := by unfold plN; rw [List.range_succ, List.filter_append, List.map_append]; simp [h]
theorem pl_no {n : Nat} (h : hasR sg rs t n = false) : plN sg rs t (n + 1) = plN sg rs t n := by unfold plN; rw [List.range_succ, List.filter_append, List.map_append]; simp [h]
theorem pl_len (n : Nat) : (plN sg rs t n).length ≤ n := by
 unfold plN
 rw [List.length_map]
 exact Nat.le_trans (List.length_filter_le _ _) (by simp)
theorem pl_mem {n : Nat} {x : Int} : x ∈ plN sg rs t n ↔ ∃ a : Nat, a < n ∧ hasR sg rs t a = true ∧ x = (a : Int) := by
 unfold plN
 rw [List.mem_map]
 constructor
 ·rintro ⟨a, ha, rfl⟩
  rw [List.mem_filter, List.mem_range] at ha
  exact ⟨a, ha.1, ha.2, rfl⟩
 ·rintro ⟨a, h1, h2, rfl⟩
  exact ⟨a, by rw [List.mem_filter, List.mem_range]; exact ⟨h1, h2⟩, rfl⟩
theorem pl_sorted (n : Nat) : (plN sg rs t n).Pairwise (· < ·) := by
 unfold plN
 rw [List.pairwise_map]
 refine List.Pairwise.filter _ ?_
 exact List.Pairwise.imp (fun h => by omega) List.pairwise_lt_range
theorem in_yes {E : Int → Int} {l : List Int} {i : Nat} (h : i + 1 = l.length ∨ E (l.getD i 0) ≤ l.getD (i + 1) 0) : inN E l (i + 1) = inN E l i ++ [l.getD i 0] := by unfold inN; rw [List.range_succ, List.filter_append, List.map_append]; simp only [List.filter_cons, List.filter_nil, decide_eq_true h, if_true, List.map_cons, List.map_nil]
theorem in_no {E : Int → Int} {l : List Int} {i : Nat} (h : ¬ (i + 1 = l.length ∨ E (l.getD i 0) ≤ l.getD (i + 1) 0)) : inN E l (i + 1) = inN E l i := by unfold inN; rw [List.range_succ, List.filter_append, List.map_append]; simp only [List.filter_cons, List.filter_nil, decide_eq_false h, List.map_nil, List.append_nil]; simp
theorem in_len (E : Int → Int) (l : List Int) (i : Nat) : (inN E l i).length ≤ i := by
 unfold inN
 rw [List.length_map]
 exact Nat.le_trans (List.length_filter_le _ _) (by simp)
theorem out_yes {E : Int → Int} {l : List Int} {i : Nat} (h : (outN E l i).2 ≤ l.getD i 0) : outN E l (i + 1) = ((outN E l i).1 ++ [l.getD i 0], E (l.getD i 0)) := by rw [outN, if_pos h]
theorem out_no {E : Int → Int} {l : List Int} {i : Nat} (h : ¬ (outN E l i).2 ≤ l.getD i 0) : outN E l (i + 1) = outN E l i := by rw [outN, if_neg h]
theorem out_len (E : Int → Int) (l : List Int) : ∀ i : Nat, (outN E l i).1.length ≤ i
 | 0 => Nat.le_refl _
 | i + 1 => by
  have := out_len E l i
  by_cases h : (outN E l i).2 ≤ l.getD i 0
  ·rw [out_yes h, List.length_append, List.length_singleton]; omega
  ·rw [out_no h]; omega
theorem in_mem {E : Int → Int} {l : List Int} {i : Nat} {x : Int} (hi : i ≤ l.length) (h : x ∈ inN E l i) : x ∈ l := by
 unfold inN at h
 obtain ⟨k, hk, rfl⟩ := List.mem_map.1 h
 have hk := List.mem_range.1 (List.mem_filter.1 hk).1
 rw [List.getD_eq_getElem?_getD, List.getElem?_eq_getElem (by omega), Option.getD_some]
 exact List.getElem_mem _
theorem sel_mem {s x : Int} (h : x ∈ selL sg rs t s) : x ∈ placesL sg rs t := by
 unfold selL at h
 split at h
 ·exact in_mem (Nat.le_refl _) h
 ·split at h
  ·exact h
  ·exact List.mem_reverse.1 h
theorem pick_some {s : Int} {p : Int × Int} (h : pickL sg rs t s = some p) : ∃ a k : Nat, p = ((a : Int), (k : Int)) ∧ a < t.length ∧ k < rs.length ∧ redB sg (rs.getD k ([], [])) t a = true ∧ ∀ j, j < k → redB sg (rs.getD j ([], [])) t a = false := by
 unfold pickL at h
 cases hs : selL sg rs t s with
 | nil => rw [hs] at h; cases h
 | cons x l =>
  rw [hs] at h
  injection h with h
  obtain ⟨a, ha, hr, e⟩ := pl_mem.1 (sel_mem (s := s) (by rw [hs]; exact List.mem_cons_self ..) : x ∈ plN sg rs t t.length)
  obtain ⟨k, hk, e2, h3, h4⟩ := has_rule hr
  subst e
  exact ⟨a, k, by rw [← h]; simp [e2], ha, hk, h3, h4⟩
end
end orderMath
end
section
open Go.Lib (hid)
namespace orderSpec
open Go.RowKit base ints sig term termOk endAt endOf marks app sym sub segs segsHelp kinds termFacts shifted matchMath matchSpec shape kindsR kindsW ruleMath ruleSpec stepMath walkMath stepsMath varsOf stepSpec orderMath appAt
set_option maxRecDepth 100000
def MatchOn (W : World) (A : Option Addr) (n cs : Nat) (P : Option Addr) (pn pc : Nat) (D : Option Addr) (dn dc : Nat) (R : Option (List (List Int))) : Prop := ∀ X, Below W.heap.size W X → Calls Try.prog 66 #[.agg #[.slice A n cs], .slice P pn pc, .slice D dn dc] X fun e w' => ∃ G gn gc, e = .returned (.tuple #[.agg #[.slice G gn gc], .bool R.isSome]) ∧ Owns w' X.heap.size w'.heap.size G gn gc (resL R) ∧ Below W.heap.size W w' ∧ Below X.heap.size X w'
theorem matchOn {W : World} {A : Option Addr} {n cs : Nat} {P : Option Addr} {pn pc : Nat} {D : Option Addr} {dn dc B : Nat} {sg p ys : List Int} (h : Seg W W.heap.size A n sg) (h' : Seg W W.heap.size P pn p) (ho : Own W B (.slice D dn dc) ys) (hn : n ≤ 1048576) (hp : termOkB sg p = true) (ht : termOkB sg ys = true) : MatchOn W A n cs P pn pc D dn dc (mst sg ys p 0 s0) := fun X hX => by
 have hpn : pn ≤ 60 := by have := (term_len hp).2; have := h'.1; omega
 have hdn : dn ≤ 60 := by have := (term_len ht).2; have := Own.len ho; omega
 have hcd := look.own_cap ho
 refine (l4Match A P D n cs pn pc dn dc sg p ys X (h.next hX) (h'.next hX) (Own.seg (Own.next ho hX)) hn hpn hdn hcd.1 hcd.2.1 hp ht).mono ?_
 rintro e w4 ⟨G, gn, gc, rfl, og, b4⟩
 exact ⟨G, gn, gc, rfl, og, next_trans hX b4, b4⟩
set_option maxHeartbeats 4000000 in
theorem l8Redex (a v u : Value) (d : Dat sSystem) (t : List Int) (x : Nat) (w : World) (h : Rd w w.heap.size sSystem [a, v] d) (ht : Rd w w.heap.size sI [u] t) (hz : sz sSystem d ≤ 1048576) (hok : rightB d.1 d.2 t = true) (hx : x < t.length) :
  Calls Try.prog 36 #[.agg #[a, v], u, .int .i64 (x : Int)] w fun e w' => e = .returned (.int .i64 (ruleF d.1 d.2 t x)) ∧ Below w.heap.size w w' := by
 obtain ⟨T, m, c, rfl, hT, hcT⟩ := rd_ints.1 ht
 obtain ⟨A, n, cs, V, q, cv, rfl, rfl, hs, hc, hcv, hq, hn, hq1, hrs, hsg, hE⟩ := rd_sys h hz
 have HQ := hid hq
 have HTL := hid hT.1
 have HS := hid hs
 have HRS := hid hrs
 have HE := hid hE
 have HOK := hid (right_parts hok)
 have hcT1 := hcT.1
 have hcT2 := hcT.2.1
 have hm : m ≤ 60 := by have := (term_len (right_parts hok).2).2; have := hT.1; omega
 have hq12 : q ≤ 12 := by have := (sys_parts (right_parts hok).1).2.1; omega
 have HX := hid hx
 have HS0 := hid (show RowB w 34 #[.slice A n cs, .slice V q cv] (w.alloc (.cells #[.slice A n cs, .slice V q cv] 34)) from ⟨Row.new _ _ _, (Below.refl _ _).alloc (Nat.le_refl _) _⟩)
 have LS := hid (subIn (cs := cs) (c := c) (hs.next HS0.out.2) (hT.next HS0.out.2) hn (by omega) hcT1 hcT2 HOK.out.2 hx)
 clear h ht hz hok hs hc hcv hq hrs hsg hE hT hcT hx
 go_enter Try.func36, Try.ntmps36
 go_wp2_with fail
 refine (LS.out _ (Below.refl _ _)).mono ?_
 rintro e w1 ⟨D, dn, dc, rfl, od, B1, b1⟩
 have HS1 := hid (show RowB w 34 #[.slice A n cs, .slice V q cv] w1 from ⟨HS0.out.1.next b1, next_trans HS0.out.2 b1⟩)
 have HD := hid od
 have hw1 : w.heap.size < w1.heap.size := by have := b1.size; simp at this; omega
 clear b1 B1 od LS HS0
 go_wp2_with fail
 go_loopg [8] q (fun g r wr => ∃ k : Nat, r = .int .i64 k ∧ k + g = q ∧ (∀ j, j < k → redB d.1 (d.2.getD j ([], [])) t x = false) ∧ RowB w 34 #[.slice A n cs, .slice V q cv] wr ∧ Own wr (w.heap.size + 1) (.slice D dn dc) (subL d.1 t x))
 case atStart => exact ⟨0, rfl, by omega, fun j hj => absurd hj (Nat.not_lt_zero _), HS1.out, Own.lower HD.out (by simp)⟩
 case round =>
  clear HS1 HD
  obtain ⟨k, rfl, hkg, hlow, S, oD⟩ := hrel
  have K0 : wr.cell? ⟨w.heap.size, 0, none⟩ = some (.slice A n cs) := S.1.cell 0
  have K1 : wr.cell? ⟨w.heap.size, 1, none⟩ = some (.slice V q cv) := S.1.cell 1
  have HLOW := hid hlow
  have HK := hid hkg
  clear hlow hkg
  by_cases hkq : k < q
  ·obtain ⟨b, off, l, rr, y, hV, hb, ey, cl, cr, hry⟩ := rd_at HRS.out S.2 HQ.out hkq
   subst hV
   have hzy : sz sRule y ≤ 1048576 := by rw [← ey.out]; exact HE.out k hkq
   obtain ⟨P, pn, pc, P', pn', pc', rfl, rfl, sP, kP, sP', kP', hpn, hpn'⟩ := rd_rule hry hzy
   have okr : ruleOkB d.1 y = true := by rw [← ey.out]; exact sys_rule HOK.out.1 (by rw [HQ.out]; exact hkq)
   have zA : w.heap.size < wr.heap.size := S.1.lt
   have zB : b < wr.heap.size := by omega
   have K2 : wr.cell? ⟨b, off + k * 2, none⟩ = some (.slice P pn pc) := cl
   have LM := hid (matchOn (W := wr) (cs := cs) (pc := pc) (HS.out.next S.2) (sP.more (Nat.le_of_lt zA)) oD hn (rule_parts okr).1 (sub_ok HOK.out.2 HX.out))
   obtain ⟨R, hR⟩ : ∃ R, mst d.1 (subL d.1 t x) y.1 0 s0 = R := ⟨_, rfl⟩
   rw [hR] at LM
   obtain ⟨bo, hbo⟩ : ∃ bo, R.isSome = bo := ⟨_, rfl⟩
   have HR := hid hbo
   have HRE := hid (show redB d.1 (d.2.getD k ([], [])) t x = bo by unfold redB; rw [ey.out, hR, hbo])
   have B0 := Below.refl wr.heap.size wr
   have i0 : (0 : Int) ≤ (k : Int) := by omega
   have i1 : (k : Int) < (q : Int) := by omega
   have hneA : ¬ w.heap.size = wr.heap.size := by omega
   have hneB : ¬ b = wr.heap.size := by omega
   have hnfA : ¬ wr.heap.size = w.heap.size := by omega
   have hnfB : ¬ wr.heap.size = b := by omega
   have SS := hid S
   have OD := hid oD
   clear sP kP sP' kP' hpn hpn' okr ey hry hzy cl cr hR hbo S oD
   go_upto_region 5 with fail
   go_cut [10] (fun s9 wx => s9 = .bool bo ∧ Below wr.heap.size wr wx)
   case first =>
    go_region_held3 (fun w' => w'.cell? ⟨w.heap.size, 0, none⟩ = some (.slice A n cs) ∧ w'.cell? ⟨w.heap.size, 1, none⟩ = some (.slice (some ⟨b, off, none⟩) q cv) ∧ w'.cell? ⟨b, off + k * 2, none⟩ = some (.slice P pn pc))
     (go_keep)
     (first | (go_at_call 66; refine (LM.out _ ?_).mono ?_; (first | exact B0 | exact B0.drew | exact (B0.alloc B0.size _) | exact (B0.alloc B0.size _).drew | exact (B0.drew.alloc B0.drew.size _)); rintro e w4 ⟨G, gn, gc, rfl, og, B4, b4⟩; rw [HR.out]; have z4 := B4.size; (first | have r9 := Row.next (Row.drew (Row.new wr 106 #[.slice none 0 0])) b4 | have r9 := Row.next (Row.new wr.drew 106 #[.slice none 0 0]) b4 | skip); (first | (have c9 : _ = some (Value.slice none 0 0) := r9.cell 0; have f9 := r9.free 0) | skip); have ne40 : ¬ w.heap.size = w4.heap.size := Nat.ne_of_lt (Nat.lt_of_lt_of_le zA B4.size); have nf40 : ¬ w4.heap.size = w.heap.size := Nat.ne_of_gt (Nat.lt_of_lt_of_le zA B4.size); have ne41 : ¬ b = w4.heap.size := Nat.ne_of_lt (Nat.lt_of_lt_of_le zB B4.size); have nf41 : ¬ w4.heap.size = b := Nat.ne_of_gt (Nat.lt_of_lt_of_le zB B4.size); have k0_4 : w4.cell? ⟨w.heap.size, 0, none⟩ = some (.slice A n cs) := (B4.cell (p := ⟨w.heap.size, 0, none⟩) zA).trans K0; have k1_4 : w4.cell? ⟨w.heap.size, 1, none⟩ = some (.slice (some ⟨b, off, none⟩) q cv) := (B4.cell (p := ⟨w.heap.size, 1, none⟩) zA).trans K1; have k2_4 : w4.cell? ⟨b, off + k * 2, none⟩ = some (.slice P pn pc) := (B4.cell (p := ⟨b, off + k * 2, none⟩) zB).trans K2))
    all_goals
     go_wp2_with fail
     go_meet
     first | (with_reducible exact box_a B4) | (with_reducible exact box_b B4 (Nat.le_refl _)) | (with_reducible exact box_b B4 z4)
   case rest =>
    rename World => wc
    obtain ⟨rfl, bx⟩ := hcut
    have FS := hid (show RowB w 34 #[.slice A n cs, .slice (some ⟨b, off, none⟩) q cv] wc from ⟨SS.out.1.next bx, SS.out.2.trans (bx.mono SS.out.2.size)⟩)
    have FO := hid (Own.next OD.out bx)
    clear bx SS OD K0 K1 K2 LM HR
    cases bo with
    | false =>
     have HL2 := hid (show ∀ j, j < k + 1 → redB d.1 (d.2.getD j ([], [])) t x = false from fun j hj => by
      by_cases e : j = k
      ·subst e; exact HRE.out
      ·exact HLOW.out j (by omega))
     clear HRE
     go_wp2
     go_roundg (gk - 1)
     case measure => have := HK.out; omega
     case rel => exact ⟨k + 1, by simp, by have := HK.out; omega, HL2.out, FS.out, FO.out⟩
    | true =>
     have HF := hid (show (Ending.returned (.int .i64 (k : Int))) = .returned (.int .i64 (ruleF d.1 d.2 t x)) ∧ Below w.heap.size w wc from ⟨by rw [(rule_some (by rw [HQ.out]; exact hkq) HLOW.out HRE.out).1], FS.out.2⟩)
     clear FS FO
     go_wp2
     go_ret
     exact HF.out
  ·have e1 : k = q := by have := HK.out; omega
   subst e1
   have HF := hid (show (Ending.returned (.int .i64 (-1))) = .returned (.int .i64 (ruleF d.1 d.2 t x)) ∧ Below w.heap.size w wr from ⟨by rw [(rule_none (fun j hj => HLOW.out j (by rw [← HQ.out]; exact hj))).1], S.2⟩)
   clear S oD
   go_wp2
   go_ret
   exact HF.out
theorem app1Q {w : World} {ops : Array Oper} {rest : List Oper} {o : Oper} {a : Act} {Q : Exit → Act → World → Prop} (hgd : o.guard = none) (s x : Operand)
  (ho : o.op = .call { callee := .builtin .append, args := #[s, x], argTypes := #[22, 22] })
  (base : Nat) (A : Option Addr) (n c : Nat) (xs : List Int) (hs : a.eval s = .slice A n c) (hown : Own w base (.slice A n c) xs)
  (g c2 : Nat) (y : Int) (hx : a.eval x = .slice (some ⟨g, 0, none⟩) 1 c2) (hy : w.cell? ⟨g, 0, none⟩ = some (.int .i64 y)) (hn : n ≤ 2097152) (hbase : base ≤ w.heap.size)
  (h : ∀ A' c' w', Own w' base (.slice A' (n + 1) c') (xs ++ [y]) → w.grownBy w' (blk A) → (blk A' = blk A ∨ blk A' = some w.heap.size) → wpList Try.prog ops Q rest (a.put o.dst (.slice A' (n + 1) c')) w') : wpList Try.prog ops Q (o :: rest) a w :=
 appAllAt hgd s x ho base A n c xs hs hown (some ⟨g, 0, none⟩) 1 c2 (g + 1) [y] hx ⟨rfl, fun _ => ⟨g, 0, rfl, Nat.lt_succ_self _, fun j hj => by
  obtain rfl : j = 0 := by omega
  exact hy⟩⟩ (Nat.le_refl _) hn (by omega) hbase h
structure Lo (w : World) (a v : Value) (O : Option Addr) (on oc : Nat) (L : List Int) (wr : World) : Prop where
 r : Row wr w.heap.size 34 #[a, v]
 o : Own wr (w.heap.size + 1) (.slice O on oc) L
 b : Below w.heap.size w wr
section
variable {w wr w' : World} {a v : Value} {O : Option Addr} {on oc : Nat} {L : List Int}
theorem Lo.next (h : Lo w a v O on oc L wr) (hb : Below wr.heap.size wr w') : Lo w a v O on oc L w' := ⟨h.r.next hb, Own.next h.o hb, next_trans h.b hb⟩
theorem Lo.over {O' : Option Addr} {on' oc' : Nat} {L' : List Int} (h : Lo w a v O on oc L wr) (ho : Own w' (w.heap.size + 1) (.slice O' on' oc') L') (hb : Below (w.heap.size + 1) wr w') : Lo w a v O' on' oc' L' w' := ⟨h.r.below hb (Nat.lt_succ_self _), ho, h.b.trans (hb.mono (Nat.le_succ _))⟩
theorem Lo.list (h : Lo w a v O on oc L wr) {L' : List Int} (e : L = L') : AnsList w L' (.returned (.slice O on oc)) wr := ⟨O, on, oc, rfl, by rw [← e]; exact Own.lower h.o (Nat.le_succ _), h.b⟩
end
theorem places_has {sg : List Int} {rs : List Rl} {t : List Int} {a k : Nat} (hk : k < rs.length) (h : redB sg (rs.getD k ([], [])) t a = true) : hasR sg rs t a = true := by
 unfold hasR
 rw [List.any_eq_true]
 have e : rs.getD k ([], []) = rs[k] := by rw [List.getD_eq_getElem?_getD, List.getElem?_eq_getElem hk, Option.getD_some]
 rw [e] at h
 exact ⟨rs[k], List.getElem_mem hk, h⟩
theorem places_no {sg : List Int} {rs : List Rl} {t : List Int} (h : rightB sg rs t = false) : ([] : List Int) = placesI sg rs t := by unfold placesI; rw [if_neg (by rw [h]; simp)]
theorem places_yes {sg : List Int} {rs : List Rl} {t : List Int} (h : rightB sg rs t = true) : plN sg rs t t.length = placesI sg rs t := by unfold placesI; rw [if_pos h]; rfl
set_option maxHeartbeats 4000000 in
theorem specRedexesIn (a v u : Value) (d : Dat sSystem) (t : List Int) (w : World) (h : Rd w w.heap.size sSystem [a, v] d) (ht : Rd w w.heap.size sI [u] t) (hz : sz sSystem d ≤ 1048576) (hz' : sz sI t ≤ 1048576) :
  Calls Try.prog 64 #[.agg #[a, v], u] w (AnsList w (placesI d.1 d.2 t)) := by
 have htv := ht
 obtain ⟨T, m, c, rfl, hT, hcT⟩ := rd_ints.1 ht
 have hm := len_ints hT.1 hz'
 have HTL := hid hT.1
 obtain ⟨W, hW⟩ : ∃ W, W = (w.alloc (.cells #[a, v] 34)).alloc (.cells #[] 2) := ⟨_, rfl⟩
 have T0 : Lo w a v (some ⟨w.heap.size + 1, 0, none⟩) 0 0 [] W := by
  rw [hW]
  refine ⟨(Row.new _ _ _).alloc _, ?_, ((Below.refl _ _).alloc (Nat.le_refl _) _).alloc (by simp) _⟩
  have := own_empty (w.alloc (.cells #[a, v] 34)) (w.heap.size + 1) (by simp)
  simpa using this
 have HW := hid hW
 have LR := hid (fun (w1 : World) (bb : Below w.heap.size w w1) => l7Right a v d T m c t w1 (h.next bb) hz (hT.next bb) hm)
 have LX := hid (fun (w1 : World) (bb : Below w.heap.size w w1) x hok hx => l8Redex a v _ d t x w1 (h.next bb) (htv.next bb) hz hok hx)
 have H0 := hid T0
 clear hW h ht htv hT hcT T0
 cases ok : rightB d.1 d.2 t with
 | false =>
  have HR := hid ok
  rw [ok] at LR
  clear ok LX
  go_enter Try.func64, Try.ntmps64
  go_wp2_with fail
  rw [← HW.out]
  go_loopg [5, 6] 0 (fun g out at_ wr => at_ = .int .i64 0 ∧ out = .slice (some ⟨w.heap.size + 1, 0, none⟩) 0 0 ∧ Lo w a v (some ⟨w.heap.size + 1, 0, none⟩) 0 0 [] wr)
  case atStart => exact ⟨rfl, rfl, H0.out⟩
  case round =>
   clear H0
   obtain ⟨rfl, rfl, S⟩ := hrel
   have SS := hid S
   have K0 : wr.cell? ⟨w.heap.size, 0, none⟩ = some a := S.r.cell 0
   have K1 : wr.cell? ⟨w.heap.size, 1, none⟩ = some v := S.r.cell 1
   have LR1 := hid (LR.out wr S.b)
   clear S LR
   by_cases h0 : 0 < m
   ·have h1 : (0 : Int) < (m : Int) := by omega
    go_wp2_with (fail)
    refine LR1.out.mono ?_
    rintro e w2 ⟨rfl, bb⟩
    have F := hid ((SS.out.next bb).list (places_no HR.out))
    clear bb K0 K1 SS
    go_wp2
    go_ret
    exact F.out
   ·have h1 : ¬ (0 : Int) < (m : Int) := by omega
    have F := hid (SS.out.list (places_no HR.out))
    clear SS
    go_wp2
    go_ret
    exact F.out
 | true =>
  have HR := hid ok
  have hm60 : m ≤ 60 := by have := (term_len (right_parts ok).2).2; have := HTL.out; omega
  rw [ok] at LR
  clear ok
  go_enter Try.func64, Try.ntmps64
  go_wp2_with fail
  rw [← HW.out]
  go_loopg [5, 6] m (fun g out at_ wr => ∃ (i on oc : Nat) (O : Option Addr), at_ = .int .i64 i ∧ i + g = m ∧ out = .slice O on oc ∧ on ≤ i ∧ Lo w a v O on oc (plN d.1 d.2 t i) wr)
  case atStart => exact ⟨0, 0, 0, _, rfl, by omega, rfl, Nat.le_refl _, H0.out⟩
  case round =>
   clear H0
   obtain ⟨i, on, oc, O, rfl, hig, rfl, hon, S⟩ := hrel
   have HI := hid hig
   have SS := hid S
   have K0 : wr.cell? ⟨w.heap.size, 0, none⟩ = some a := S.r.cell 0
   have K1 : wr.cell? ⟨w.heap.size, 1, none⟩ = some v := S.r.cell 1
   have LR1 := hid (LR.out wr S.b)
   clear S LR hig
   by_cases h0 : i < m
   ·have h1 : (i : Int) < (m : Int) := by omega
    have LX1 := hid (fun w1 (bb : Below w.heap.size w w1) => LX.out w1 bb i HR.out (by rw [HTL.out]; exact h0))
    clear LX
    go_wp2_with (fail)
    refine LR1.out.mono ?_
    rintro e w2 ⟨rfl, bb⟩
    have S2 := SS.out.next bb
    have SS2 := hid S2
    have k0 : w2.cell? ⟨w.heap.size, 0, none⟩ = some a := S2.r.cell 0
    have k1 : w2.cell? ⟨w.heap.size, 1, none⟩ = some v := S2.r.cell 1
    have LX2 := hid (LX1.out w2 S2.b)
    clear bb K0 K1 SS S2 LX1 LR1
    go_wp2_with (fail)
    refine LX2.out.mono ?_
    rintro e w3 ⟨rfl, bb⟩
    have S3 := SS2.out.next bb
    have HS3 := hid S3
    cases hb : hasR d.1 d.2 t i with
    | false =>
     have hrf : ruleF d.1 d.2 t i = -1 := by
      refine (rule_none fun k hk => ?_).1
      cases hh : redB d.1 (d.2.getD k ([], [])) t i with
      | false => rfl
      | true => rw [places_has hk hh] at hb; cases hb
     have F := hid (show Lo w a v O on oc (plN d.1 d.2 t (i + 1)) w3 by rw [pl_no hb]; exact S3)
     rw [hrf]
     clear bb k0 k1 SS2 S3 HS3 LX2 hb hrf
     go_wp2
     go_roundg (gk - 1)
     case measure => have := HI.out; omega
     case rel => exact ⟨i + 1, on, oc, O, by simp, by have := HI.out; omega, rfl, by omega, F.out⟩
    | true =>
     obtain ⟨k, hk, hrf, -, -⟩ := has_rule hb
     have HB := hid hb
     have hkk : (0 : Int) ≤ (k : Int) := by omega
     rw [hrf]
     clear bb k0 k1 SS2 S3 LX2 hb hrf hk
     have ho : Own w3 (w.heap.size + 1) (.slice O on oc) (plN d.1 d.2 t i) := HS3.out.o
     have hsz : w.heap.size < w3.heap.size := HS3.out.r.lt
     go_wp2_with (at_builtin; refine app1 rfl _ _ rfl (w.heap.size + 1) O on oc _ rfl (Own.alloc ho _) w3.heap.size 1 (i : Int) rfl ((Row.new _ _ _).cell 0) (by omega) (by simp; omega) ?_; intro O' oc' w4 ho4 b4)
     have F := hid (show Lo w a v O' (on + 1) oc' (plN d.1 d.2 t (i + 1)) w4 from by
      have hb3 : Below (w.heap.size + 1) w3 w4 := ((Below.refl _ _).alloc (show w.heap.size + 1 ≤ w3.heap.size by omega) _).trans b4
      rw [pl_yes HB.out]
      exact HS3.out.over ho4 hb3)
     clear ho4 b4 ho HS3 HB
     go_wp2
     go_roundg (gk - 1)
     case measure => have := HI.out; omega
     case rel => exact ⟨i + 1, on + 1, oc', O', by simp, by have := HI.out; omega, rfl, by omega, F.out⟩
   ·have e1 : i = m := by have := HI.out; omega
    subst e1
    have h1 : ¬ (i : Int) < (i : Int) := by omega
    have F := hid (SS.out.list (show _ = placesI d.1 d.2 t by rw [← places_yes HR.out, HTL.out]))
    clear SS LR1 LX K0 K1
    go_wp2
    go_ret
    exact F.out
end orderSpec
end
section
namespace orderMath
open sig term termOk termFacts ruleMath stepMath walkMath stepsMath
section
variable {E : Int → Int} {l : List Int}
theorem out_first (h0 : ∀ x ∈ l, 0 ≤ x) : ∀ i, 1 ≤ i → i ≤ l.length → (outN E l i).1.head? = l.head?
 | 1, _, h => by
  cases l with
  | nil => simp at h
  | cons y r => rw [out_yes (by show (0 : Int) ≤ _; exact h0 _ (List.mem_cons_self ..))]; rfl
 | i + 2, _, h => by
  have ih := out_first h0 (i + 1) (by omega) (by omega)
  by_cases hh : (outN E l (i + 1)).2 ≤ l.getD (i + 1) 0
  ·rw [out_yes hh, ← ih]
   cases he : (outN E l (i + 1)).1 with
   | nil =>
    rw [he] at ih
    cases l with
    | nil => simp at h
    | cons y r => cases ih
   | cons y r => rfl
  ·rw [out_no hh, ih]
theorem out_head (h0 : ∀ x ∈ l, 0 ≤ x) : (outL E l).head? = l.head? := by
 unfold outL
 cases l with
 | nil => rfl
 | cons y r => exact out_first h0 _ (by simp) (Nat.le_refl _)
end
section
variable {sg : List Int} {rs : List Rl} {t : List Int}
theorem placesI_mem {x : Int} (h : x ∈ placesI sg rs t) : rightB sg rs t = true ∧ ∃ a : Nat, a < t.length ∧ hasR sg rs t a = true ∧ x = (a : Int) := by
 unfold placesI at h
 split at h
 ·exact ⟨by assumption, pl_mem.1 h⟩
 ·cases h
theorem placesI_nonneg {x : Int} (h : x ∈ placesI sg rs t) : 0 ≤ x := by
 obtain ⟨-, a, -, -, rfl⟩ := placesI_mem h
 omega
theorem outI_head : (outmostI sg rs t).head? = (placesI sg rs t).head? := out_head fun x hx => placesI_nonneg hx
end
section
variable {sg : List Int} {rs : List Rl} {s : Int} {F i : Nat} {t u v : List Int} {L : List St}
theorem pick_step {p : Int × Int} (hr : rightB sg rs u = true) (h : pickL sg rs u s = some p) : ∃ a k : Nat, p = ((a : Int), (k : Int)) ∧ a < u.length ∧ k < rs.length ∧ redB sg (rs.getD k ([], [])) u a = true ∧ (∀ j, j < k → redB sg (rs.getD j ([], [])) u a = false) ∧ stepAtO sg rs u p.1 p.2 = stepO sg (rs.getD k ([], [])) u a := by
 obtain ⟨a, k, rfl, ha, hk, h1, h2⟩ := pick_some h
 refine ⟨a, k, rfl, ha, hk, h1, h2, ?_⟩
 unfold rightB at hr
 rw [Bool.and_eq_true] at hr
 unfold stepAtO
 rw [if_pos (there_mk hr.1 hr.2 (by omega) (by omega))]
 unfold rl
 rw [Int.toNat_natCast, Int.toNat_natCast]
end
section
variable {sg : List Int} {rs : List Rl} {t : List Int}
end
end orderMath
end
section
namespace orderMath
open sig term termOk termFacts endAt posMath inside ruleMath stepMath walkMath stepsMath
theorem get_lt {l : List Int} {i : Nat} (h : i < l.length) : l.getD i 0 = l[i] := by rw [List.getD_eq_getElem?_getD, List.getElem?_eq_getElem h, Option.getD_some]
theorem mem_get {l : List Int} {x : Int} (h : x ∈ l) : ∃ i, i < l.length ∧ l.getD i 0 = x := by
 obtain ⟨i, hi, e⟩ := List.mem_iff_getElem.1 h
 exact ⟨i, hi, by rw [get_lt hi, e]⟩
section
variable {E : Int → Int} {l : List Int}
end
section
variable {sg : List Int} {rs : List Rl} {t : List Int}
theorem right_ok (h : rightB sg rs t = true) : termOkB sg t = true := by
 unfold rightB at h
 rw [Bool.and_eq_true] at h
 exact h.2
theorem endR_at (h : termOkB sg t = true) {a : Nat} (ha : a < t.length) : endR sg t (a : Int) = ((a + len1 sg t a : Nat) : Int) := by unfold endR; rw [Int.toNat_natCast]; exact end_at h ha
end
end orderMath
end
section
open Go.Lib (hid)
namespace orderSpec
open Go.RowKit base ints sig term termOk endAt endOf marks app sym sub segs segsHelp kinds termFacts shifted matchMath matchSpec shape kindsR kindsW ruleMath ruleSpec stepMath walkMath stepsMath varsOf stepSpec orderMath appAt
set_option maxRecDepth 100000
theorem ownLt {w : World} {base : Nat} {A : Option Addr} {n c : Nat} {xs : List Int} (h : Own w base (.slice A n c) xs) : ∀ k, blk A = some k → base ≤ k ∧ k < w.heap.size := fun k hk => World.ownsRow.lt h k (by rw [blk_own]; exact hk)
structure Lq (w : World) (a v : Value) (A : Option Addr) (n c : Nat) (all : List Int) (O : Option Addr) (on oc : Nat) (L : List Int) (wr : World) : Prop where
 t : Lo w a v O on oc L wr
 s : Own wr (w.heap.size + 1) (.slice A n c) all
 ne : ∀ k, blk A = some k → blk O ≠ some k
section
variable {w wr w' : World} {a v : Value} {A O : Option Addr} {n c on oc : Nat} {all L : List Int}
theorem Lq.next (h : Lq w a v A n c all O on oc L wr) (hb : Below wr.heap.size wr w') : Lq w a v A n c all O on oc L w' := ⟨h.t.next hb, Own.next h.s hb, h.ne⟩
theorem Lq.app {O' : Option Addr} {oc' : Nat} {y : Int} {o : Obj} (h : Lq w a v A n c all O on oc L wr) (ho : Own w' (w.heap.size + 1) (.slice O' (on + 1) oc') (L ++ [y])) (hg : (wr.alloc o).grownBy w' (blk O)) (hat : blk O' = blk O ∨ blk O' = some (wr.alloc o).heap.size) : Lq w a v A n c all O' (on + 1) oc' (L ++ [y]) w' := by
 have z1 : w.heap.size < wr.heap.size := h.t.r.lt
 have hb : Below (w.heap.size + 1) wr w' := ((Below.refl (w.heap.size + 1) wr).alloc z1 o).trans ((Below.refl _ _).grown hg (by simp; omega) (fun k hk => (ownLt h.t.o k hk).1))
 refine ⟨h.t.over ho hb, Own.kept (Own.alloc h.s o) hg ?_, fun k hk e => ?_⟩
 ·cases hA : blk A with
  | none => exact .inl rfl
  | some k => exact .inr fun e => h.ne k hA e.symm
 ·rcases hat with hat | hat
  ·exact h.ne k hk (by rw [← hat]; exact e)
  ·rw [hat] at e
   injection e with e
   have := (ownLt h.s k hk).2
   simp at e
   omega
end
theorem mem_get {l : List Int} {k n : Nat} (hl : l.length = n) (hk : k < n) : l.getD k 0 ∈ l := by rw [List.getD_eq_getElem?_getD, List.getElem?_eq_getElem (by omega), Option.getD_some]; exact List.getElem_mem _
theorem place_at {sg : List Int} {rs : List Rl} {t : List Int} {k n : Nat} (hl : (placesI sg rs t).length = n) (hk : k < n) : ∃ p : Nat, (placesI sg rs t).getD k 0 = (p : Int) ∧ p < t.length ∧ termOkB sg t = true ∧ ∃ e : Nat, endR sg t (p : Int) = (e : Int) ∧ e ≤ 60 ∧ p < 60 := by
 obtain ⟨hr, p, hp, -, e⟩ := placesI_mem (mem_get hl hk)
 have ht := right_ok hr
 have h60 := (term_len ht).2
 refine ⟨p, e, hp, ht, p + len1 sg t p, endR_at ht hp, ?_, by omega⟩
 have := (posMath.term_at ht hp).2.2
 omega
theorem placesI_len {sg : List Int} {rs : List Rl} {t : List Int} : (placesI sg rs t).length ≤ 60 := by
 unfold placesI
 split
 ·rename_i h
  have h60 := (term_len (right_ok h)).2
  exact Nat.le_trans (pl_len _) h60
 ·exact Nat.zero_le _
theorem endOn {W : World} {A T : Option Addr} {n cs m c p : Nat} {sg t : List Int} (h : Seg W W.heap.size A n sg) (h' : Seg W W.heap.size T m t) (hn : n ≤ 1048576) (hm : m ≤ 1048576) (ht : termOkB sg t = true) (hp : p < t.length) :
  Calls Try.prog 87 #[.agg #[.slice A n cs], .slice T m c, .int .i64 (p : Int)] W fun e w' => e = .returned (.int .i64 (endR sg t (p : Int))) ∧ Below W.heap.size W w' := by
 have hl := h'.1
 refine (specEnd A T n cs m c sg t (p : Int) W h h' hn hm (sig_arities (termOk_parts ht).1).1 (by omega) (by omega)).mono ?_
 rintro e w' ⟨he, hb⟩
 exact ⟨he, hb⟩
set_option maxHeartbeats 4000000 in
theorem specInmostIn (a v u : Value) (d : Dat sSystem) (t : List Int) (w : World) (h : Rd w w.heap.size sSystem [a, v] d) (ht : Rd w w.heap.size sI [u] t) (hz : sz sSystem d ≤ 1048576) (hz' : sz sI t ≤ 1048576) :
  Calls Try.prog 63 #[.agg #[a, v], u] w (AnsList w (inmostI d.1 d.2 t)) := by
 have htv := ht
 have h0 := h
 obtain ⟨T, m, c, rfl, hT, hcT⟩ := rd_ints.1 ht
 obtain ⟨A0, n0, cs0, V, q, cv, rfl, rfl, hs, hc, hcv, hq, hn, hq1, hrs, hsg, hE⟩ := rd_sys h hz
 have hm := len_ints hT.1 hz'
 obtain ⟨W, hW⟩ : ∃ W, W = (w.alloc (.cells #[.slice A0 n0 cs0, .slice V q cv] 34)).alloc (.cells #[] 2) := ⟨_, rfl⟩
 have T0 : Lo w (.slice A0 n0 cs0) (.slice V q cv) (some ⟨w.heap.size + 1, 0, none⟩) 0 0 [] W := by
  rw [hW]
  refine ⟨(Row.new _ _ _).alloc _, ?_, ((Below.refl _ _).alloc (Nat.le_refl _) _).alloc (by simp) _⟩
  have := own_empty (w.alloc (.cells #[.slice A0 n0 cs0, .slice V q cv] 34)) (w.heap.size + 1) (by simp)
  simpa using this
 have hzW : W.heap.size = w.heap.size + 2 := by rw [hW]; simp
 have LA := hid (specRedexesIn _ _ _ d t W (h0.next T0.b) (htv.next T0.b) hz hz')
 have LE := hid (fun (w1 : World) (bb : Below w.heap.size w w1) p hok (hp : p < t.length) => endOn (cs := cs0) (c := c) (hs.next bb) (hT.next bb) hn hm hok hp)
 have K0 : W.cell? ⟨w.heap.size, 0, none⟩ = some (.slice A0 n0 cs0) := T0.r.cell 0
 have K1 : W.cell? ⟨w.heap.size, 1, none⟩ = some (.slice V q cv) := T0.r.cell 1
 have HW := hid hW
 have H0 := hid T0
 have HZW := hid hzW
 clear hW h h0 ht htv hT hcT T0 hs hc hcv hq hrs hsg hE hzW
 go_enter Try.func63, Try.ntmps63
 go_wp2_with fail
 rw [← HW.out]
 go_wp2_with fail
 refine LA.out.mono ?_
 rintro e w1 ⟨A, n, cA, rfl, oA, bb⟩
 have hnl : (placesI d.1 d.2 t).length = n := (Own.len oA).symm
 have hn60 : n ≤ 60 := by rw [← hnl]; exact placesI_len
 have HNL := hid hnl
 have H1 := hid (show Lq w (.slice A0 n0 cs0) (.slice V q cv) A n cA (placesI d.1 d.2 t) (some ⟨w.heap.size + 1, 0, none⟩) 0 0 [] w1 from
  ⟨H0.out.next bb, Own.lower oA (by rw [HZW.out]; omega), fun k hk e => by
   have h1 := (ownLt oA k hk).1
   rw [HZW.out] at h1
   injection e with e
   have e : w.heap.size + 1 = k := e
   omega⟩)
 clear oA bb H0 K0 K1 HW LA hnl HZW
 go_wp2_with fail
 go_loopg [5, 7] n (fun g out i_ wr => ∃ (i on oc : Nat) (O : Option Addr), i_ = .int .i64 i ∧ i + g = n ∧ out = .slice O on oc ∧ on ≤ i ∧ Lq w (.slice A0 n0 cs0) (.slice V q cv) A n cA (placesI d.1 d.2 t) O on oc (inN (endR d.1 t) (placesI d.1 d.2 t) i) wr)
 case atStart => exact ⟨0, 0, 0, _, rfl, by omega, rfl, Nat.le_refl _, H1.out⟩
 case round =>
  clear H1
  obtain ⟨i, on, oc, O, rfl, hig, rfl, hon, S⟩ := hrel
  have HI := hid hig
  have HS := hid S
  have K0 : wr.cell? ⟨w.heap.size, 0, none⟩ = some (.slice A0 n0 cs0) := S.t.r.cell 0
  have K1 : wr.cell? ⟨w.heap.size, 1, none⟩ = some (.slice V q cv) := S.t.r.cell 1
  by_cases hi : i < n
  ·have h1 : (i : Int) < (n : Int) := by omega
   have h2 : (0 : Int) ≤ (i : Int) := by omega
   obtain ⟨b, off, eA, hbl, ci⟩ := (Own.seg S.s).round hi
   subst eA
   obtain ⟨p, hp, hpt, htok, e, he, he60, hp60⟩ := place_at HNL.out hi
   rw [hp] at ci
   have HP := hid hp
   have HEE := hid he
   have LE1 := hid (fun w1 bb => LE.out w1 bb p htok hpt)
   have zA : w.heap.size < wr.heap.size := S.t.r.lt
   have bel := hid S.t.b
   clear S hp he hpt htok hig LE
   obtain ⟨y, hy⟩ : ∃ y, (placesI d.1 d.2 t).getD (i + 1) 0 = y := ⟨_, rfl⟩
   have HY := hid hy
   have hcn : i + 1 < n → wr.cell? ⟨b, off + (i + 1), none⟩ = some (.int .i64 y) := fun hlt => by
    obtain ⟨b', off', e1, -, c1⟩ := (Own.seg HS.out.s).round hlt
    injection e1 with e1
    injection e1 with e1 e2
    subst e1 e2
    rw [hy] at c1
    exact c1
   have HCN := hid hcn
   have zB : b < wr.heap.size := hbl
   clear hy hcn
   go_wp2_with fail
   go_region_held3 (fun w' => w'.cell? ⟨w.heap.size, 0, none⟩ = some (.slice A0 n0 cs0) ∧ w'.cell? ⟨b, off + i, none⟩ = some (.int .i64 (p : Int)))
    (go_keep)
    (first
     | (go_at_call 87; refine (LE1.out _ bel.out.drew).mono ?_; rintro e w2 ⟨rfl, bb⟩; rw [HEE.out]; have k0 : w2.cell? ⟨w.heap.size, 0, none⟩ = some (.slice A0 n0 cs0) := (bb.cell (p := ⟨w.heap.size, 0, none⟩) zA).trans K0; have ci2 : w2.cell? ⟨b, off + i, none⟩ = some (.int .i64 (p : Int)) := (bb.cell (p := ⟨b, off + i, none⟩) zB).trans ci))
   have S2 := hid ((HS.out.next (drew_below wr)).next bb)
   have hcn2 : i + 1 < n → w2.cell? ⟨b, off + (i + 1), none⟩ = some (.int .i64 y) := fun hlt => (bb.cell (p := ⟨b, off + (i + 1), none⟩) zB).trans (HCN.out hlt)
   clear K0 K1 ci HCN bb HS bel LE1
   by_cases hl : i + 1 = n
   ·have q1 : (i : Int) + 1 = (n : Int) := by omega
    have HC := hid (show i + 1 = (placesI d.1 d.2 t).length ∨ endR d.1 t ((placesI d.1 d.2 t).getD i 0) ≤ (placesI d.1 d.2 t).getD (i + 1) 0 from .inl (by rw [HNL.out]; exact hl))
    have ho : Own w2 (w.heap.size + 1) (.slice O on oc) (inN (endR d.1 t) (placesI d.1 d.2 t) i) := S2.out.t.o
    have hsz : w.heap.size < w2.heap.size := S2.out.t.r.lt
    go_wp2_with (at_builtin; refine app1Q rfl _ _ rfl (w.heap.size + 1) O on oc _ rfl (Own.alloc ho _) w2.heap.size 1 (p : Int) rfl ((Row.new _ _ _).cell 0) (by omega) (by simp; omega) ?_; intro O' oc' w4 ho4 hg4 hat4)
    have F := hid (show Lq w (.slice A0 n0 cs0) (.slice V q cv) (some ⟨b, off, none⟩) n cA (placesI d.1 d.2 t) O' (on + 1) oc' (inN (endR d.1 t) (placesI d.1 d.2 t) (i + 1)) w4 from by rw [in_yes HC.out, HP.out]; exact S2.out.app ho4 hg4 hat4)
    clear ho4 hg4 hat4 ho S2 HC
    go_wp2
    go_roundg (gk - 1)
    case measure => have := HI.out; omega
    case rel => exact ⟨i + 1, on + 1, oc', O', by (first | (simp; done) | (simp; omega)), by have := HI.out; omega, rfl, by omega, F.out⟩
   ·have q1 : ¬ (i : Int) + 1 = (n : Int) := by omega
    have q2 : (i : Int) + 1 < (n : Int) := by omega
    have q3 : (0 : Int) ≤ (i : Int) + 1 := by omega
    have cy := hcn2 (by omega)
    by_cases hye : (e : Int) ≤ y
    ·have HC := hid (show i + 1 = (placesI d.1 d.2 t).length ∨ endR d.1 t ((placesI d.1 d.2 t).getD i 0) ≤ (placesI d.1 d.2 t).getD (i + 1) 0 from .inr (by rw [HP.out, HEE.out, HY.out]; exact hye))
     have ho : Own w2 (w.heap.size + 1) (.slice O on oc) (inN (endR d.1 t) (placesI d.1 d.2 t) i) := S2.out.t.o
     have hsz : w.heap.size < w2.heap.size := S2.out.t.r.lt
     go_wp2_with (at_builtin; refine app1Q rfl _ _ rfl (w.heap.size + 1) O on oc _ rfl (Own.alloc ho _) w2.heap.size 1 (p : Int) rfl ((Row.new _ _ _).cell 0) (by omega) (by simp; omega) ?_; intro O' oc' w4 ho4 hg4 hat4)
     have F := hid (show Lq w (.slice A0 n0 cs0) (.slice V q cv) (some ⟨b, off, none⟩) n cA (placesI d.1 d.2 t) O' (on + 1) oc' (inN (endR d.1 t) (placesI d.1 d.2 t) (i + 1)) w4 from by rw [in_yes HC.out, HP.out]; exact S2.out.app ho4 hg4 hat4)
     clear ho4 hg4 hat4 ho S2 HC
     go_wp2
     go_roundg (gk - 1)
     case measure => have := HI.out; omega
     case rel => exact ⟨i + 1, on + 1, oc', O', by (first | (simp; done) | (simp; omega)), by have := HI.out; omega, rfl, by omega, F.out⟩
    ·have HC := hid (show ¬ (i + 1 = (placesI d.1 d.2 t).length ∨ endR d.1 t ((placesI d.1 d.2 t).getD i 0) ≤ (placesI d.1 d.2 t).getD (i + 1) 0) from by rw [HNL.out, HP.out, HEE.out, HY.out]; omega)
     have F := hid (show Lq w (.slice A0 n0 cs0) (.slice V q cv) (some ⟨b, off, none⟩) n cA (placesI d.1 d.2 t) O on oc (inN (endR d.1 t) (placesI d.1 d.2 t) (i + 1)) w2 from by rw [in_no HC.out]; exact S2.out)
     clear S2 HC
     go_wp2
     go_roundg (gk - 1)
     case measure => have := HI.out; omega
     case rel => exact ⟨i + 1, on, oc, O, by simp, by have := HI.out; omega, rfl, by omega, F.out⟩
  ·have e1 : i = n := by have := HI.out; omega
   subst e1
   have h1 : ¬ (i : Int) < (i : Int) := by omega
   have F := hid (HS.out.t.list (show _ = inmostI d.1 d.2 t by unfold inmostI inL; rw [HNL.out]))
   clear HS LE K0 K1 S
   go_wp2
   go_ret
   exact F.out
theorem seg_cell {w : World} {B b off n i : Nat} {L : List Int} {p : Int} (h : Seg w B (some ⟨b, off, none⟩) n L) (hi : i < n) (hp : L.getD i 0 = p) : w.cell? ⟨b, off + i, none⟩ = some (.int .i64 p) := by
 obtain ⟨b', off', e1, -, c1⟩ := h.round hi
 injection e1 with e1
 injection e1 with e1 e2
 subst e1 e2
 rw [hp] at c1
 exact c1
end orderSpec
end
end Go.Proofs.Ytblhmplpcdcejaa
