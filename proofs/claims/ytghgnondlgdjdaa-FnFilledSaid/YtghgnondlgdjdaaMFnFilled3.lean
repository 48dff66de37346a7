/-
  MERGED: my texts PlainOf, DrawSS, SameSubst, CompMath, Filled, PlainFacts, Max, CompSpec, Then, CompImpl, Big, WFnFilled, one behind the other, as they are. By an AI agent.
-/
import Derived.Test.YtghgnondlgdjdaaMFnFilled2
import Derived.Deep.DeepMust
import Derived.Deep.RegionHeld3
import Derived.Deep.AppendLies
import Derived.Deep.DeepCutAuto
import Derived.Laws.NewBlocks
import Derived.Laws.EntriesVeiled
namespace Go.Proofs.Ytghgnondlgdjdaa
section
open Go.Lib (hid)
namespace plainOf
open Go.RowKit base ints sig cursor marks app appAt sym sub segs segsHelp kinds varsOf fillMath Go.Proofs.Ytghgnondlgdjdaa.look substOk gives plainMath plain
set_option maxRecDepth 100000
theorem own_one {w : World} {base : Nat} {D : Option Addr} {c : Nat} {x : Int} (h : Own w base (.slice D 1 c) [x]) : ∃ g, D = some ⟨g, 0, none⟩ ∧ w.cell? ⟨g, 0, none⟩ = some (.int .i64 x) := by
 rcases own_form (n := 1) (vs := [x].map (Value.int .i64)) h with ⟨_, h1, _⟩ | ⟨g, cur, e, _, hr, _, _, _, _, hc⟩
 ·omega
 ·refine ⟨g, e, ?_⟩
  rw [hr.cell 0, hc 0 (by omega)]
  rfl
theorem Owns.shrink {w : World} {lo hi m n c : Nat} {A : Option Addr} {xss : List (List Int)} (h : Owns w lo hi A m c xss) (hn : n ≤ m) : Owns w lo hi A n c (xss.take n) := by
 obtain ⟨h1, ⟨vs, hr, hin, hap⟩, h3⟩ := h
 rcases own_form hr with ⟨rfl, h0, rfl, rfl⟩ | ⟨g, cur, rfl, hlo, hrow, hmc, hsz, hmax, hlen, hc⟩
 ·obtain rfl : n = 0 := by omega
  simpa using Owns.nil w lo hi
 ·have e1 : ∀ j, j < n → (cur.toList.take n).getD j undef = vs.getD j undef := fun j hj => by
   have := hc j (by omega)
   simp [List.getD, List.getElem?_take, hj, this]
  have e2 : ∀ j, j < n → (xss.take n).getD j [] = xss.getD j [] := fun j hj => by simp [List.getD, List.getElem?_take, hj]
  refine ⟨by rw [List.length_take, h1]; omega, ⟨_, rowsOf hrow hsz (by omega) hmax hlo, fun j hj => ?_, fun i j k hij hj a b => ?_⟩, h3⟩
  ·rw [e1 j hj, e2 j hj]
   exact hin j (by omega)
  ·rw [e1 i (by omega)] at a
   rw [e1 j hj] at b
   exact hap i j k hij (by omega) a b
def HeadL1 (w : World) (S : Option Addr) (m c : Nat) (ss : List (List Int)) (i : Value) (wr : World) : Prop :=
 ∃ (k : Nat) (A : Option Addr) (cA : Nat), k ≤ m ∧ i = .int .i64 k ∧ Owns wr (w.heap.size + 3) wr.heap.size A k cA (rowsL (givesL ss) k) ∧ Row wr w.heap.size 30 #[.slice S m c] ∧ Row wr (w.heap.size + 1) 30 #[.slice none 0 0] ∧
  Row wr (w.heap.size + 2) 30 #[.slice A k cA] ∧ Below w.heap.size w wr
theorem headL1_step {w wr w1 w5 w6 : World} {S A A' : Option Addr} {m c k cA c' : Nat} {ss : List (List Int)} (hk : k < m) (ho : Owns w6 (w.heap.size + 3) w6.heap.size A' (k + 1) c' (rowsL (givesL ss) (k + 1)))
  (r0 : Row wr w.heap.size 30 #[.slice S m c]) (r1 : Row wr (w.heap.size + 1) 30 #[.slice none 0 0]) (r2 : Row wr (w.heap.size + 2) 30 #[.slice A k cA]) (hb : Below w.heap.size w wr)
  (b1 : Below wr.heap.size wr w1) (b5 : Below w1.heap.size w1 w5) (hg : w5.grownBy w6 (blk A)) (hA : ∀ z, blk A = some z → w.heap.size + 3 ≤ z) :
  HeadL1 w S m c ss (.int .i64 ((k : Int) + 1)) (w6.setCell ⟨w.heap.size + 2, 0, none⟩ (.slice A' (k + 1) c')) := by
 have bb := next_trans b1 b5
 have q0 := Row.away (r0.next bb) hg (fun e => by have := hA _ e; omega)
 have q1 := Row.away (r1.next bb) hg (fun e => by have := hA _ e; omega)
 have q2 := Row.away (r2.next bb) hg (fun e => by have := hA _ e; omega)
 have hbb : Below w.heap.size w w6 := (hb.trans (bb.mono hb.size)).grown hg (by have := hb.size; have := bb.size; omega) (fun z hz => by have := hA z hz; omega)
 refine ⟨k + 1, A', c', hk, by simp, ?_, q0.far (by simp) _, q1.far (by simp) _, ?_, hbb.setCell (by simp) _⟩
 ·have := owns_put ho q2 (by omega) 0 (.slice A' (k + 1) c')
  simpa using this
 ·have := q2.put 0 (.slice A' (k + 1) c')
  simpa using this
def HeadL2 (w : World) (L : Nat → List Int) (m : Nat) (A : Option Addr) (cA : Nat) (p : Value) (wr : World) : Prop :=
 ∃ n : Nat, n ≤ m ∧ p = .pointer (some ⟨w.heap.size + 2, 0, none⟩) ∧ strip ((rowsL L m).take n) = plainL L m ∧ Owns wr (w.heap.size + 3) wr.heap.size A m cA (rowsL L m) ∧ Row wr (w.heap.size + 1) 30 #[.slice none 0 0] ∧
  Row wr (w.heap.size + 2) 30 #[.slice A n cA] ∧ Below w.heap.size w wr
def lenAt (w : World) (p : Addr) : Nat := match w.cell? p with
 | some (.slice _ n _) => n
 | _ => 0
theorem headL2_end {w wr : World} {L : Nat → List Int} {m n cA : Nat} {A : Option Addr} (hn : n ≤ m) (hs : strip ((rowsL L m).take n) = plainL L m) (ho : Owns wr (w.heap.size + 3) wr.heap.size A m cA (rowsL L m))
  (r1 : Row wr (w.heap.size + 1) 30 #[.slice none 0 0]) (hb : Below w.heap.size w wr) (hend : n = 0 ∨ (rowsL L m).getD (n - 1) [] ≠ []) :
  AnsSubst w (plainL L m) (.returned (.agg #[.slice A n cA])) (wr.setCell ⟨w.heap.size + 1, 0, none⟩ (.slice A n cA)) := by
 have e : (rowsL L m).take n = plainL L m := by
  rw [← hs]
  rcases hend with rfl | h
  ·simp [strip]
  ·by_cases h0 : n = 0
   ·subst h0; simp [strip]
   ·have := strip_last (l := rowsL L m) (q := n - 1) (by rw [rows_len]; omega) h
    rw [show n - 1 + 1 = n by omega] at this
    exact this.symm
 have h1 := Owns.shrink (owns_put ho r1 (by omega) 0 (.slice A n cA)) hn
 rw [e] at h1
 exact ⟨A, n, cA, rfl, h1.wider (by omega) (by simp), hb.setCell (by simp) _⟩
set_option maxHeartbeats 8000000 in
theorem l2Plain (S : Option Addr) (m c : Nat) (ss : List (List Int)) (w : World) (h : Segs w w.heap.size S m ss) (ht : tot ss ≤ 1048576) :
  Calls Try.prog 52 #[.agg #[.slice S m c]] w (AnsSubst w (plainL (givesL ss) m)) := by
 have HT := hid ht
 have hm : m ≤ 1048576 := tot_len h.1 ht
 have HE := hid (tot_each ht)
 clear ht
 go_enter Try.func52, Try.ntmps52
 go_wp2_with fail
 go_loopw [4] (fun i wr => HeadL1 w S m c ss i wr) (fun i _ => m - (intOf i).toNat)
 case atStart =>
  have b0 : Below w.heap.size w (((w.alloc (.cells #[.slice S m c] 30)).alloc (.cells #[.slice none 0 0] 30)).alloc (.cells #[.slice none 0 0] 30)) := (((Below.refl _ _).alloc (Nat.le_refl _) _).alloc (by simp) _).alloc (by simp; omega) _
  have q1 := Row.new (w.alloc (.cells #[.slice S m c] 30)) 30 #[.slice none 0 0]
  have q2 := Row.new ((w.alloc (.cells #[.slice S m c] 30)).alloc (.cells #[.slice none 0 0] 30)) 30 #[.slice none 0 0]
  refine ⟨0, none, 0, Nat.zero_le _, rfl, by simpa [rowsL] using Owns.nil _ _ _, ((Row.new w 30 #[.slice S m c]).alloc _).alloc _, ?_, ?_, b0⟩
  ·have := q1.alloc (.cells #[.slice none 0 0] 30); simpa using this
  ·simpa using q2
 case round =>
  obtain ⟨k, A, cA, hk, rfl, ho, r0, r1, r2, hb⟩ := hrel
  have c0 : wr.cell? ⟨w.heap.size, 0, none⟩ = some (.slice S m c) := r0.cell 0
  have cO : wr.cell? ⟨w.heap.size + 2, 0, none⟩ = some (.slice A k cA) := r2.cell 0
  have i0 : (0 : Int) ≤ (k : Int) := by omega
  by_cases hlt : k < m
  ·have i1 : (k : Int) < (m : Int) := by omega
   have LG := hid (l2Gives S m c ss k wr ((h.below hb).more hb.size) HT.out (by omega))
   have HA : Hid (∀ z, blk A = some z → w.heap.size + 3 ≤ z) := hid (fun z hz => by
    obtain ⟨vs, hown, _⟩ := ho.row
    exact (World.ownsRow.lt hown z (by rw [blk_own]; exact hz)).1)
   have hw1 : IntKind.i64.wrap (-1 - (k : Int)) = -1 - (k : Int) := by rw [IntKind.wrap_i64]; omega
   have hrl := r2.lt
   obtain ⟨ys, hys⟩ : ∃ ys, givesL ss k = ys := ⟨_, rfl⟩
   rw [hys] at LG
   have hlen : ys.length ≤ 1048576 := by
    rw [← hys]
    unfold givesL
    split
    ·simp [vt]
    ·exact HE.out k
   have RS := hid (rows_succ (givesL ss) k)
   by_cases h1 : ys.length = 1
   ·obtain ⟨x, rfl⟩ : ∃ x, ys = [x] := by
     match ys, h1 with
     | [x], _ => exact ⟨x, rfl⟩
    by_cases hx : x = -1 - (k : Int)
    ·have RB := hid (show bare (givesL ss) k = [] by unfold bare; rw [if_pos (by rw [hys, hx]; rfl)])
     have DX : (x == -1 - (k : Int)) = true := by simp [hx]
     clear hx hys
     go_wp2_with (first
      | (go_at_call 58; go_must (refine LG.out.mono ?_; rintro e w1 ⟨D, dn, dc, rfl, od, bb⟩; obtain rfl : dn = 1 := Own.len od; obtain ⟨gD, rfl, cD⟩ := own_one od; have cO1 : w1.cell? ⟨w.heap.size + 2, 0, none⟩ = some (.slice A k cA) := (r2.next bb).cell 0; have e5 : ((w1.alloc (.cells #[] 2)).alloc (.cells #[.slice (some ⟨w1.heap.size, 0, none⟩) 0 0] 22)).cell? ⟨w1.heap.size + 1, 0, none⟩ = some (.slice (some ⟨w1.heap.size, 0, none⟩) 0 0) := (by simp); have c15 : (w1.alloc (.cells #[] 2)).cell? ⟨w.heap.size + 2, 0, none⟩ = some (.slice A k cA) := ((r2.next bb).alloc (.cells #[] 2)).cell 0; have B5 : Below w1.heap.size w1 ((w1.alloc (.cells #[] 2)).alloc (.cells #[.slice (some ⟨w1.heap.size, 0, none⟩) 0 0] 22)) := ((Below.refl _ _).alloc (Nat.le_refl _) _).alloc (by simp) _; have hz5 := B5.size; have hz1 := bb.size; have ho5 := (ho.next bb).next B5; have i5 : Inn ((w1.alloc (.cells #[] 2)).alloc (.cells #[.slice (some ⟨w1.heap.size, 0, none⟩) 0 0] 22)) wr.heap.size ((w1.alloc (.cells #[] 2)).alloc (.cells #[.slice (some ⟨w1.heap.size, 0, none⟩) 0 0] 22)).heap.size (.slice (some ⟨w1.heap.size, 0, none⟩) 0 0) [] := Inn.wider ((inn_own (own_empty w1 wr.heap.size bb.size)).next ((Below.refl _ _).alloc (Nat.le_refl _) _)) (Nat.le_refl _) (by simp); have r25 := (r2.next bb).next B5; have c25 : ((w1.alloc (.cells #[] 2)).alloc (.cells #[.slice (some ⟨w1.heap.size, 0, none⟩) 0 0] 22)).cell? ⟨w.heap.size + 2, 0, none⟩ = some (.slice A k cA) := r25.cell 0))
      | (at_builtin; go_must (refine appS1 rfl _ _ rfl (w.heap.size + 3) wr.heap.size A k cA (rowsL (givesL ss) k) rfl ho5 _ 1 (.slice (some ⟨w1.heap.size, 0, none⟩) 0 0) [] rfl e5 i5 (by omega) (by omega) (by omega) ?_; intro A' c' w6 ho6 hg6 hat6 b6; have q2 := Row.away r25 hg6 (fun e => by have := HA.out _ e; omega); have c26 : w6.cell? ⟨w.heap.size + 2, 0, none⟩ = some (.slice A k cA) := q2.cell 0; have f26 : w6.frozen? ⟨w.heap.size + 2, 0, none⟩ = false := q2.free 0)))
     have S := hid (headL1_step (ss := ss) hlt (by rw [RS.out, RB.out]; exact ho6) r0 r1 r2 hb bb B5 hg6 HA.out)
     clear ho6 hg6 hat6 b6 ho5 i5 r25 c25 c15 q2 od bb B5 r0 r1 r2 hb ho RS RB LG cO1
     go_wp2
     go_roundw
     case rel => exact S.out
     case measure => simp [intOf]; omega
    ·have RB := hid (show bare (givesL ss) k = [x] by unfold bare; rw [if_neg (by rw [hys]; unfold vt; intro e; injection e with e; exact hx e), hys])
     have DX : (x == -1 - (k : Int)) = false := by simp [hx]
     clear hx hys
     go_wp2_with (first
      | (go_at_call 58; refine LG.out.mono ?_; rintro e w1 ⟨D, dn, dc, rfl, od, bb⟩; obtain rfl : dn = 1 := Own.len od; obtain ⟨gD, rfl, cD⟩ := own_one od; have cO1 : w1.cell? ⟨w.heap.size + 2, 0, none⟩ = some (.slice A k cA) := (r2.next bb).cell 0; have B5 : Below w1.heap.size w1 (w1.alloc (.cells #[.slice (some ⟨gD, 0, none⟩) 1 dc] 22)) := (Below.refl _ _).alloc (Nat.le_refl _) _; have hz5 := B5.size; have hz1 := bb.size; have ho5 := (ho.next bb).next B5; have i5 : Inn (w1.alloc (.cells #[.slice (some ⟨gD, 0, none⟩) 1 dc] 22)) wr.heap.size (w1.alloc (.cells #[.slice (some ⟨gD, 0, none⟩) 1 dc] 22)).heap.size (.slice (some ⟨gD, 0, none⟩) 1 dc) [x] := Inn.wider ((inn_own od).next ((Below.refl _ _).alloc (Nat.le_refl _) _)) (Nat.le_refl _) (by simp); have r25 := (r2.next bb).next B5; have c25 : (w1.alloc (.cells #[.slice (some ⟨gD, 0, none⟩) 1 dc] 22)).cell? ⟨w.heap.size + 2, 0, none⟩ = some (.slice A k cA) := r25.cell 0)
      | (at_builtin; refine appS1 rfl _ _ rfl (w.heap.size + 3) wr.heap.size A k cA (rowsL (givesL ss) k) rfl ho5 _ 1 (.slice (some ⟨gD, 0, none⟩) 1 dc) [x] rfl ((Row.new _ _ _).cell 0) i5 (by omega) (by omega) (by omega) ?_; intro A' c' w6 ho6 hg6 hat6 b6; have q2 := Row.away r25 hg6 (fun e => by have := HA.out _ e; omega); have c26 : w6.cell? ⟨w.heap.size + 2, 0, none⟩ = some (.slice A k cA) := q2.cell 0; have f26 : w6.frozen? ⟨w.heap.size + 2, 0, none⟩ = false := q2.free 0))
     have S := hid (headL1_step (ss := ss) hlt (by rw [RS.out, RB.out]; exact ho6) r0 r1 r2 hb bb B5 hg6 HA.out)
     clear ho6 hg6 hat6 b6 ho5 i5 r25 c25 q2 od bb B5 r0 r1 r2 hb ho RS RB LG cO1
     go_wp2
     go_roundw
     case rel => exact S.out
     case measure => simp [intOf]; omega
   ·have RB := hid (show bare (givesL ss) k = ys by unfold bare; rw [if_neg (by rw [hys]; unfold vt; intro e; rw [e] at h1; exact h1 rfl), hys])
    clear hys
    go_wp2_with (first
     | (go_at_call 58; refine LG.out.mono ?_; rintro e w1 ⟨D, dn, dc, rfl, od, bb⟩; have hdn : ¬ dn = 1 := (by rw [Own.len od]; exact h1); have hdz : ¬ (dn : Int) = 1 := (by omega); have hdb : (((dn : Nat) : Int) == 1) = false := (by simp; omega); have cO1 : w1.cell? ⟨w.heap.size + 2, 0, none⟩ = some (.slice A k cA) := (r2.next bb).cell 0; have B5 : Below w1.heap.size w1 (w1.alloc (.cells #[.slice D dn dc] 22)) := (Below.refl _ _).alloc (Nat.le_refl _) _; have hz5 := B5.size; have hz1 := bb.size; have ho5 := (ho.next bb).next B5; have i5 : Inn (w1.alloc (.cells #[.slice D dn dc] 22)) wr.heap.size (w1.alloc (.cells #[.slice D dn dc] 22)).heap.size (.slice D dn dc) ys := Inn.wider ((inn_own od).next ((Below.refl _ _).alloc (Nat.le_refl _) _)) (Nat.le_refl _) (by simp); have r25 := (r2.next bb).next B5; have c25 : (w1.alloc (.cells #[.slice D dn dc] 22)).cell? ⟨w.heap.size + 2, 0, none⟩ = some (.slice A k cA) := r25.cell 0)
     | (at_builtin; refine appS1 rfl _ _ rfl (w.heap.size + 3) wr.heap.size A k cA (rowsL (givesL ss) k) rfl ho5 _ 1 (.slice D dn dc) ys rfl ((Row.new _ _ _).cell 0) i5 (by omega) (by omega) (by omega) ?_; intro A' c' w6 ho6 hg6 hat6 b6; have q2 := Row.away r25 hg6 (fun e => by have := HA.out _ e; omega); have c26 : w6.cell? ⟨w.heap.size + 2, 0, none⟩ = some (.slice A k cA) := q2.cell 0; have f26 : w6.frozen? ⟨w.heap.size + 2, 0, none⟩ = false := q2.free 0))
    have S := hid (headL1_step (ss := ss) hlt (by rw [RS.out, RB.out]; exact ho6) r0 r1 r2 hb bb B5 hg6 HA.out)
    clear ho6 hg6 hat6 b6 ho5 i5 r25 c25 q2 od bb B5 r0 r1 r2 hb ho RS RB LG cO1
    go_wp2
    go_roundw
    case rel => exact S.out
    case measure => simp [intOf]; omega
  ·obtain rfl : k = m := by omega
   have HC := hid ho.cap
   have H2 : HeadL2 w (givesL ss) k A cA (.pointer (some ⟨w.heap.size + 2, 0, none⟩)) wr := ⟨k, Nat.le_refl _, rfl, by rw [List.take_of_length_le (by rw [rows_len]; exact Nat.le_refl _)]; rfl, ho, r1, r2, hb⟩
   have HH2 := hid H2
   have hc1 : cA ≤ 9223372036854775807 := ho.cap.2.1
   have hc0 : k ≤ cA := ho.cap.1
   clear H2 ho r0 r1 r2 hb cO h
   go_wp2_with fail
   go_loopw [] (fun wr => HeadL2 w (givesL ss) k A cA (.pointer (some ⟨w.heap.size + 2, 0, none⟩)) wr) (fun wr => lenAt wr ⟨w.heap.size + 2, 0, none⟩)
   case atStart => exact HH2.out
   case round =>
    obtain ⟨n, hn, -, hs, ho, r1, r2, hb⟩ := hrel
    clear HH2
    have cO : wr.cell? ⟨w.heap.size + 2, 0, none⟩ = some (.slice A n cA) := r2.cell 0
    have fO : wr.frozen? ⟨w.heap.size + 2, 0, none⟩ = false := r2.free 0
    have cR : wr.cell? ⟨w.heap.size + 1, 0, none⟩ = some (.slice none 0 0) := r1.cell 0
    have fR : wr.frozen? ⟨w.heap.size + 1, 0, none⟩ = false := r1.free 0
    by_cases h0 : n = 0
    ·subst h0
     have F := hid (headL2_end hn hs ho r1 hb (.inl rfl))
     clear hs ho r1 r2 hb
     go_wp2
     exact bodyPost_ret (v := .agg #[.slice A 0 cA]) (by simp [results, Try.results52, go_sem, cR]) rfl F.out
    ·obtain ⟨p, rfl⟩ : ∃ p, n = p + 1 := ⟨n - 1, by omega⟩
     obtain ⟨b, off, A', q, cq, rfl, hbb, hx, hseg, hcap⟩ := ho.segs.spot (k := p) (by omega)
     have p0 : (0 : Int) ≤ (p : Int) := by omega
     have p1 : ((p + 1 : Nat) : Int) - 1 = (p : Int) := by omega
     have p2 : (p : Int) ≤ (cA : Int) := by omega
     have p3 : (p : Int) < ((p + 1 : Nat) : Int) := by omega
     have p4 : (0 : Int) < ((p + 1 : Nat) : Int) := by omega
     have hw2 : IntKind.i64.wrap (p : Int) = (p : Int) := by rw [IntKind.wrap_i64]; omega
     by_cases hq : q = 0
     ·subst hq
      have hnil : (rowsL (givesL ss) k).getD p [] = [] := List.eq_nil_of_length_eq_zero hseg.1
      have S1 : HeadL2 w (givesL ss) k (some ⟨b, off, none⟩) cA (.pointer (some ⟨w.heap.size + 2, 0, none⟩)) (wr.setCell ⟨w.heap.size + 2, 0, none⟩ (.slice (some ⟨b, off, none⟩) p cA)) := by
       refine ⟨p, by omega, rfl, by rw [← strip_drop (by rw [rows_len]; omega) hnil]; exact hs, ?_, r1.far (by simp) _, ?_, hb.setCell (by simp) _⟩
       ·have := owns_put ho r2 (by omega) 0 (.slice (some ⟨b, off, none⟩) p cA)
        simpa using this
       ·have := r2.put 0 (.slice (some ⟨b, off, none⟩) p cA)
        simpa using this
      have HS1 := hid S1
      have E1 : (wr.setCell ⟨w.heap.size + 2, 0, none⟩ (.slice (some ⟨b, off, none⟩) p cA)).cell? ⟨w.heap.size + 2, 0, none⟩ = some (.slice (some ⟨b, off, none⟩) p cA) := by have := (r2.put 0 (.slice (some ⟨b, off, none⟩) p cA)).cell 0; simpa using this
      have HLT := hid (show lenAt (wr.setCell ⟨w.heap.size + 2, 0, none⟩ (.slice (some ⟨b, off, none⟩) p cA)) ⟨w.heap.size + 2, 0, none⟩ < lenAt wr ⟨w.heap.size + 2, 0, none⟩ by simp only [lenAt, E1, cO]; omega)
      clear S1 E1 hs ho r1 r2 hb hseg hcap hnil
      go_wp2
      go_roundw
      case rel => exact HS1.out
      case measure => exact HLT.out
     ·have hq1 : (0 : Int) < (q : Int) := by omega
      have F := hid (headL2_end hn hs ho r1 hb (.inr (fun e => by rw [show p + 1 - 1 = p by omega] at e; rw [e] at hseg; exact hq hseg.1.symm)))
      clear hs ho r1 r2 hb hseg hcap
      go_wp2
      exact bodyPost_ret (v := .agg #[.slice (some ⟨b, off, none⟩) (p + 1) cA]) (by simp [results, Try.results52, go_sem, cR]) rfl F.out
def plainI (sg : List Int) (ss : List (List Int)) : List (List Int) := if substOkB sg ss = true then plainL (givesL ss) ss.length else []
theorem plain_yes {sg : List Int} {ss : List (List Int)} (h : substOkB sg ss = true) : plainI sg ss = plainL (givesL ss) ss.length := by unfold plainI; rw [if_pos h]
theorem plain_no {sg : List Int} {ss : List (List Int)} (h : substOkB sg ss = false) : plainI sg ss = [] := by unfold plainI; rw [if_neg (by rw [h]; simp)]
theorem tot_le {xss : List (List Int)} {M : Nat} (h : ∀ j, (xss.getD j []).length ≤ M) : tot xss ≤ xss.length + xss.length * M := by
 have : ∀ k, k ≤ xss.length → sumL xss k ≤ k * M := fun k => by
  induction k with
  | zero => intro _; simp [sumL]
  | succ k ih =>
   intro hk
   rw [sumL_succ (by omega)]
   have h1 := ih (by omega)
   have h2 := h k
   rw [Nat.succ_mul]
   omega
 unfold tot
 have := this xss.length (Nat.le_refl _)
 omega
theorem plainI_tot {sg : List Int} {ss : List (List Int)} : tot (plainI sg ss) ≤ 1048576 := by
 cases h : substOkB sg ss with
 | false => rw [plain_no h]; simp [tot, sumL]
 | true =>
  rw [plain_yes h]
  have h1 := tot_le (plain_each (L := givesL ss) (m := ss.length) (gives_len h))
  have h2 := plain_len (givesL ss) ss.length
  have h3 := (substOk_parts h).2.1
  have h4 : (plainL (givesL ss) ss.length).length * 60 ≤ 24 * 60 := Nat.mul_le_mul_right _ (by omega)
  omega
theorem boxes3 (w : World) (A : Option Addr) (n c : Nat) (S : Option Addr) (m c' : Nat) : ∃ W, W = ((w.alloc (.cells #[.slice A n c] 32)).alloc (.cells #[.slice S m c'] 30)).alloc (.cells #[.slice none 0 0] 30) ∧
  Row W w.heap.size 32 #[.slice A n c] ∧ Row W (w.heap.size + 1) 30 #[.slice S m c'] ∧ Row W (w.heap.size + 2) 30 #[.slice none 0 0] ∧ Below w.heap.size w W ∧ w.heap.size + 2 < W.heap.size := by
 obtain ⟨W, hW, r1, r2, b⟩ := boxes2 w A n c S m c'
 have hz : W.heap.size = w.heap.size + 2 := by rw [hW]; simp
 refine ⟨_, rfl, ?_, ?_, ?_, ?_, ?_⟩
 ·rw [← hW]; exact r1.alloc _
 ·rw [← hW]; exact r2.alloc _
 ·rw [← hW, ← hz]; exact Row.new _ _ _
 ·rw [← hW]; exact b.alloc b.size _
 ·rw [← hW]; simp; omega
set_option maxHeartbeats 2000000 in
theorem specPlainOf (A S : Option Addr) (n c m c' : Nat) (sg : List Int) (ss : List (List Int)) (w : World) (h : Seg w w.heap.size A n sg) (h' : Segs w w.heap.size S m ss) (hn : n ≤ 1048576) (ht : tot ss ≤ 1048576) :
  Calls Try.prog 13 #[.agg #[.slice A n c], .agg #[.slice S m c']] w (AnsSubst w (plainI sg ss)) := by
 obtain ⟨W, hW, rA, rS, rR, bel, hz⟩ := boxes3 w A n c S m c'
 have HW := hid hW
 have HL := hid h'.1
 have s := h.next bel
 have s1 := h'.next bel
 have L := hid (specSubstOk A S n c m c' sg ss W s s1 hn ht)
 clear hW h h'
 cases hok : substOkB sg ss with
 | false =>
  have HS := hid hok
  clear hok s s1
  go_enter Try.func13, Try.ntmps13
  go_wp2_with fail
  rw [← HW.out]
  refine L.out.mono ?_
  rintro e w1 ⟨he, bb⟩
  rw [HS.out] at he
  subst he
  have r1 := rR.next bb
  have cR : w1.cell? ⟨w.heap.size + 2, 0, none⟩ = some (.slice none 0 0) := r1.cell 0
  have fR : w1.frozen? ⟨w.heap.size + 2, 0, none⟩ = false := r1.free 0
  have F : ∀ w2, Below w.heap.size w w2 → AnsSubst w (plainI sg ss) (.returned (.agg #[.slice none 0 0])) w2 := fun w2 h2 => ⟨none, 0, 0, rfl, by rw [plain_no HS.out]; exact Owns.nil _ _ _, h2⟩
  have F1 := hid (F w1 (next_trans bel bb))
  have F2 := hid (F _ ((next_trans bel bb).setCell (by simp) (.slice none 0 0) (p := ⟨w.heap.size + 2, 0, none⟩)))
  clear bb bel rA rS rR r1 F
  go_wp2
  first
   | exact bodyPost_ret (v := .agg #[.slice none 0 0]) (by simp [results, Try.results13, go_sem, cR]) rfl F1.out
   | exact bodyPost_ret (v := .agg #[.slice none 0 0]) (by simp [results, Try.results13, go_sem, cR]) rfl F2.out
 | true =>
  have HS := hid hok
  clear hok
  go_enter Try.func13, Try.ntmps13
  go_wp2_with fail
  rw [← HW.out]
  refine L.out.mono ?_
  rintro e w1 ⟨he, bb⟩
  rw [HS.out] at he
  subst he
  have r1 := rR.next bb
  have cS : w1.cell? ⟨w.heap.size + 1, 0, none⟩ = some (.slice S m c') := (rS.next bb).cell 0
  have L2 := hid (l2Plain S m c' ss w1 (s1.next bb) ht)
  have bel1 := next_trans bel bb
  clear L s s1 rA rS
  go_wp2_with fail
  refine L2.out.mono ?_
  rintro e w2 ⟨O, on, oc, rfl, ho, b2⟩
  have r2 := r1.next b2
  have cR : w2.cell? ⟨w.heap.size + 2, 0, none⟩ = some (.slice none 0 0) := r2.cell 0
  have fR : w2.frozen? ⟨w.heap.size + 2, 0, none⟩ = false := r2.free 0
  have hz1 := r1.lt
  have F : AnsSubst w (plainI sg ss) (.returned (.agg #[.slice O on oc])) (w2.setCell ⟨w.heap.size + 2, 0, none⟩ (.slice O on oc)) :=
   ⟨O, on, oc, rfl, by rw [plain_yes HS.out, HL.out]; exact (owns_put ho r2 hz1 0 _).wider (by omega) (by simp), (next_trans bel1 b2).setCell (by simp) _⟩
  have HF := hid F
  clear F bb bel bel1 b2 rR r1 r2 ho cS L2
  go_wp2
  exact bodyPost_ret (v := .agg #[.slice O on oc]) (by simp [results, Try.results13, go_sem, cR]) rfl HF.out
end plainOf
end
section
open Go.Lib (hid)
namespace drawSS
open Go.RowKit base ints sig term cursor termOk marks app appAt sym segs segsHelp dice drawSig drawTerm drawAny drawTwo drawPair drawOne drawSub drawS drawSA drawVar plain plainOf
set_option maxRecDepth 100000
theorem OwnR.segs {w : World} {p lo n c : Nat} {A : Option Addr} {xss : List (List Int)} (h : OwnR w p lo A n c xss) : Segs w w.heap.size A n xss := by
 obtain ⟨h1, vs, hr, h3⟩ := h
 refine ⟨h1, fun hn => ?_⟩
 rcases own_form hr with ⟨_, e, _⟩ | ⟨g, cur, rfl, _, hrow, _, _, _, _, hc⟩
 ·omega
 ·refine ⟨g, 0, rfl, hrow.lt, fun j hj => ?_⟩
  obtain ⟨A', n', c', e, hrd, hcap, _⟩ := h3 j hj
  refine ⟨A', n', c', ?_, hrd.seg, hcap⟩
  rw [Nat.zero_add, hrow.cell j, hc j hj, e]
theorem ownR_owns {w : World} {p lo hi n c : Nat} {A : Option Addr} {xss : List (List Int)} (h : Owns w lo hi A n c xss) (hp : p < lo) : OwnR w p lo A n c xss := by
 obtain ⟨vs, hr, hin, _⟩ := h.row
 refine ⟨h.len, vs, hr, fun j hj => ?_⟩
 obtain ⟨A', c', e, ho, hcap⟩ := (hin j hj).cap
 refine ⟨A', _, c', e, Rd.of_own (by rw [← e]; exact ho) hp, hcap, fun hn e2 => ?_⟩
 rcases own_form hr with ⟨rfl, h1, _⟩ | ⟨g, cur, rfl, _, hrow, _⟩
 ·omega
 ·have h2 := (hin j hj).ne hrow
  rw [e, blk_own] at h2
  exact h2 e2
structure V4 (w : World) (p : Nat) (A : Option Addr) (n c v6 v7 : Nat) (S : Option Addr) (sn sc : Nat) (sg : List Int) (B : Option Addr) (m cB : Nat) (xss : List (List Int)) (wr : World) : Prop where
 d : Dice wr p A n c
 rN : Row wr w.heap.size 32 #[.slice none 0 0]
 rP : Row wr (w.heap.size + 1) 30 #[.slice none 0 0]
 r6 : Row wr v6 32 #[.slice S sn sc]
 r7 : Row wr v7 30 #[.slice B m cB]
 s : Rd wr p wr.heap.size S sn sg
 own : OwnR wr p (p + 1) B m cB xss
 b : Below w.heap.size w wr
 hp : w.heap.size + 1 < p
 p6 : p < v6
 p7 : p < v7
section
variable {w : World} {p : Nat} {A : Option Addr} {n c v6 v7 : Nat} {S : Option Addr} {sn sc : Nat} {sg : List Int} {B : Option Addr} {m cB : Nat} {xss : List (List Int)} {wr w' : World}
theorem V4.dice (t : V4 w p A n c v6 v7 S sn sc sg B m cB xss wr) (d : Dice w' p A n c) (hg : wr.grownBy w' (some p)) : V4 w p A n c v6 v7 S sn sc sg B m cB xss w' :=
 ⟨d, Row.away t.rN hg (fun e => by injection e; have := t.hp; omega), Row.away t.rP hg (fun e => by injection e; have := t.hp; omega), Row.away t.r6 hg (fun e => by injection e; have := t.p6; omega), Row.away t.r7 hg (fun e => by injection e; have := t.p7; omega), (t.s.grown hg (Nat.le_refl _)).more hg.size, t.own.dice hg (Nat.lt_succ_self _), t.b.grown hg t.b.size (fun k hk => by injection hk; have := t.hp; omega), t.hp, t.p6, t.p7⟩
theorem V4.next (t : V4 w p A n c v6 v7 S sn sc sg B m cB xss wr) (hb : Below wr.heap.size wr w') : V4 w p A n c v6 v7 S sn sc sg B m cB xss w' :=
 ⟨t.d.next hb, t.rN.next hb, t.rP.next hb, t.r6.next hb, t.r7.next hb, (t.s.below hb (Nat.le_refl _)).more hb.size, t.own.below hb, next_trans t.b hb, t.hp, t.p6, t.p7⟩
theorem V4.drew (t : V4 w p A n c v6 v7 S sn sc sg B m cB xss wr) : V4 w p A n c v6 v7 S sn sc sg B m cB xss wr.drew := t.next ⟨rfl, rfl, rfl, Nat.le_refl _, fun _ _ => rfl⟩
end
def AnsSS (w : World) (e : Ending) (w' : World) : Prop :=
 ∃ S sn sc sg B m cB xss C q cC yss, e = .returned (.tuple #[.agg #[.slice S sn sc], .agg #[.slice B m cB], .agg #[.slice C q cC]]) ∧ Seg w' w'.heap.size S sn sg ∧ Segs w' w'.heap.size B m xss ∧ Segs w' w'.heap.size C q yss ∧ sn ≤ 9 ∧ tot xss ≤ 1048576 ∧ tot yss ≤ 1048576 ∧ Below w.heap.size w w'
theorem ss_of {w u : World} {p : Nat} {A : Option Addr} {n c v6 v7 : Nat} {S : Option Addr} {sn sc : Nat} {sg : List Int} {B : Option Addr} {m cB : Nat} {xss : List (List Int)} {C : Option Addr} {q cC lo : Nat} {yss : List (List Int)} (t : V4 w p A n c v6 v7 S sn sc sg B m cB xss u) (rQ : Row u (w.heap.size + 2) 30 #[.slice none 0 0]) (hp : w.heap.size + 2 < p) (hc : OwnR u p lo C q cC yss) (hlo : p < lo)
  (h1 : sn ≤ 9) (h2 : tot xss ≤ 1048576) (h3 : tot yss ≤ 1048576) :
  AnsSS w (.returned (.tuple #[.agg #[.slice S sn sc], .agg #[.slice B m cB], .agg #[.slice C q cC]])) (((u.setCell ⟨w.heap.size, 0, none⟩ (.slice S sn sc)).setCell ⟨w.heap.size + 1, 0, none⟩ (.slice B m cB)).setCell ⟨w.heap.size + 2, 0, none⟩ (.slice C q cC)) := by
 have neB : ∀ N, N < p → blk B ≠ some N := fun N hN e => by have := (t.own.ge N e).1; omega
 have neC : ∀ N, N < p → blk C ≠ some N := fun N hN e => by have := (hc.ge N e).1; omega
 have s1 := Rd.other t.s (t.rN.cell 0) (.slice S sn sc)
 have o1 := OwnR.setNe t.own (neB w.heap.size (by omega)) (t.rN.cell 0) (.slice S sn sc)
 have c1 := OwnR.setNe hc (neC w.heap.size (by omega)) (t.rN.cell 0) (.slice S sn sc)
 have rP1 := t.rP.far (p := ⟨w.heap.size, 0, none⟩) (show w.heap.size + 1 ≠ w.heap.size by omega) (.slice S sn sc)
 have rQ1 := rQ.far (p := ⟨w.heap.size, 0, none⟩) (show w.heap.size + 2 ≠ w.heap.size by omega) (.slice S sn sc)
 have b1 := t.b.setCell (p := ⟨w.heap.size, 0, none⟩) (Nat.le_refl _) (.slice S sn sc)
 have s2 := Rd.other s1 (rP1.cell 0) (.slice B m cB)
 have o2 := OwnR.setNe o1 (neB (w.heap.size + 1) (by omega)) (rP1.cell 0) (.slice B m cB)
 have c2 := OwnR.setNe c1 (neC (w.heap.size + 1) (by omega)) (rP1.cell 0) (.slice B m cB)
 have rQ2 := rQ1.far (p := ⟨w.heap.size + 1, 0, none⟩) (show w.heap.size + 2 ≠ w.heap.size + 1 by omega) (.slice B m cB)
 have b2 := b1.setCell (p := ⟨w.heap.size + 1, 0, none⟩) (Nat.le_succ _) (.slice B m cB)
 have s3 := Rd.other s2 (rQ2.cell 0) (.slice C q cC)
 have o3 := OwnR.setNe o2 (neB (w.heap.size + 2) (by omega)) (rQ2.cell 0) (.slice C q cC)
 have c3 := OwnR.setNe c2 (neC (w.heap.size + 2) (by omega)) (rQ2.cell 0) (.slice C q cC)
 have b3 := b2.setCell (p := ⟨w.heap.size + 2, 0, none⟩) (by simp) (.slice C q cC)
 exact ⟨S, sn, sc, sg, B, m, cB, xss, C, q, cC, yss, rfl, s3.seg.more (by simp), OwnR.segs o3, OwnR.segs c3, h1, h2, h3, b3⟩
def AnsST (w : World) (e : Ending) (w' : World) : Prop :=
 ∃ S sn sc sg B m cB xss O on oc ys, e = .returned (.tuple #[.agg #[.slice S sn sc], .agg #[.slice B m cB], .slice O on oc]) ∧ Seg w' w'.heap.size S sn sg ∧ Segs w' w'.heap.size B m xss ∧ Seg w' w'.heap.size O on ys ∧ sn ≤ 9 ∧ tot xss ≤ 1048576 ∧ on ≤ 65 ∧ Below w.heap.size w w'
theorem st_of {w u : World} {p : Nat} {A : Option Addr} {n c v6 v7 : Nat} {S : Option Addr} {sn sc : Nat} {sg : List Int} {B : Option Addr} {m cB : Nat} {xss : List (List Int)} {O : Option Addr} {on oc : Nat} {ys : List Int} (t : V4 w p A n c v6 v7 S sn sc sg B m cB xss u) (hc : Rd u p u.heap.size O on ys)
  (h1 : sn ≤ 9) (h2 : tot xss ≤ 1048576) (h3 : on ≤ 65) :
  AnsST w (.returned (.tuple #[.agg #[.slice S sn sc], .agg #[.slice B m cB], .slice O on oc])) ((u.setCell ⟨w.heap.size, 0, none⟩ (.slice S sn sc)).setCell ⟨w.heap.size + 1, 0, none⟩ (.slice B m cB)) := by
 have hp := t.hp
 have neB : ∀ N, N < p → blk B ≠ some N := fun N hN e => by have := (t.own.ge N e).1; omega
 have s1 := Rd.other t.s (t.rN.cell 0) (.slice S sn sc)
 have o1 := OwnR.setNe t.own (neB w.heap.size (by omega)) (t.rN.cell 0) (.slice S sn sc)
 have c1 := Rd.other hc (t.rN.cell 0) (.slice S sn sc)
 have rP1 := t.rP.far (p := ⟨w.heap.size, 0, none⟩) (show w.heap.size + 1 ≠ w.heap.size by omega) (.slice S sn sc)
 have b1 := t.b.setCell (p := ⟨w.heap.size, 0, none⟩) (Nat.le_refl _) (.slice S sn sc)
 have s2 := Rd.other s1 (rP1.cell 0) (.slice B m cB)
 have o2 := OwnR.setNe o1 (neB (w.heap.size + 1) (by omega)) (rP1.cell 0) (.slice B m cB)
 have c2 := Rd.other c1 (rP1.cell 0) (.slice B m cB)
 have b2 := b1.setCell (p := ⟨w.heap.size + 1, 0, none⟩) (Nat.le_succ _) (.slice B m cB)
 exact ⟨S, sn, sc, sg, B, m, cB, xss, O, on, oc, ys, rfl, s2.seg.more (by simp), OwnR.segs o2, c2.seg.more (by simp), h1, h2, h3, b2⟩
theorem v4_mk {w w2 w4 W W2 : World} {p : Nat} {A : Option Addr} {n c : Nat} {S : Option Addr} {sn sc : Nat} {sg : List Int} {B : Option Addr} {m cB : Nat} {xss : List (List Int)}
  (hp : w.heap.size + 1 < p) (rN : Row W w.heap.size 32 #[.slice none 0 0]) (rP : Row W (w.heap.size + 1) 30 #[.slice none 0 0]) (b : Below w.heap.size w W) (s : Rd W p W.heap.size S sn sg) (hW : W = w2.alloc (.cells #[.slice S sn sc] 32)) (hp2 : p < w2.heap.size)
  (own : OwnR w4 p W.heap.size B m cB xss) (d : Dice w4 p A n c) (g : W.grownBy w4 (some p)) (hW2 : W2 = w4.alloc (.cells #[.slice B m cB] 30)) : V4 w p A n c w2.heap.size w4.heap.size S sn sc sg B m cB xss W2 := by
 have r6 : Row W w2.heap.size 32 #[.slice S sn sc] := by rw [hW]; exact Row.new _ _ _
 have hz := r6.lt
 have hzg := g.size
 have bb : Below w4.heap.size w4 W2 := by rw [hW2]; exact (Below.refl _ _).alloc (Nat.le_refl _) _
 exact ⟨d.next bb, (Row.away rN g (fun e => by injection e; omega)).next bb, (Row.away rP g (fun e => by injection e; omega)).next bb, (Row.away r6 g (fun e => by injection e; omega)).next bb, by rw [hW2]; exact Row.new _ _ _, (((s.grown g (Nat.le_refl _)).more g.size).below bb (Nat.le_refl _)).more bb.size, (own.below bb).lower (by omega), next_trans (b.grown g b.size (fun k hk => by injection hk; omega)) bb, hp, hp2, by omega⟩
set_option maxHeartbeats 8000000 in
theorem drawComposed (A : Option Addr) (n c : Nat) (w : World) (h : SegB w w.heap.size A n) (hn : n ≤ 4096) :
  Calls Try.prog 31 #[.slice A n c] w (AnsSS w) := by
 obtain ⟨W0, hW0⟩ : ∃ W0, W0 = ((w.alloc (.cells #[.slice none 0 0] 32)).alloc (.cells #[.slice none 0 0] 30)).alloc (.cells #[.slice none 0 0] 30) := ⟨_, rfl⟩
 have rN : Row W0 w.heap.size 32 #[.slice none 0 0] := by rw [hW0]; exact ((Row.new _ _ _).alloc _).alloc _
 have rP : Row W0 (w.heap.size + 1) 30 #[.slice none 0 0] := by rw [hW0]; have := (Row.new (w.alloc (.cells #[.slice none 0 0] 32)) 30 #[.slice none 0 0]).alloc (.cells #[.slice none 0 0] 30); simpa using this
 have rQ : Row W0 (w.heap.size + 2) 30 #[.slice none 0 0] := by rw [hW0]; have := Row.new ((w.alloc (.cells #[.slice none 0 0] 32)).alloc (.cells #[.slice none 0 0] 30)) 30 #[.slice none 0 0]; simpa using this
 have b0 : Below w.heap.size w W0 := by rw [hW0]; exact (((Below.refl _ _).alloc (Nat.le_refl _) _).alloc (by simp) _).alloc (by simp; omega) _
 have L := hid (new_ A n c W0 (segB_below h b0) hn)
 have HW0 := hid hW0
 clear h hW0
 go_enter Try.func31, Try.ntmps31
 go_wp2_with fail
 rw [← HW0.out]
 refine L.out.mono ?_
 rintro e w1 ⟨p, rfl, hp, d1, bb⟩
 have hNp : w.heap.size + 2 < p := Nat.lt_of_lt_of_le rQ.lt hp
 replace rN := rN.next bb
 replace rP := rP.next bb
 replace rQ := rQ.next bb
 have bel := next_trans b0 bb
 have L2 := hid (drawSigAny p A n c w1 d1)
 have hp1 := d1.lt
 clear d1 bb b0 L
 go_wp2_with fail
 refine L2.out.mono ?_
 rintro e w2 ⟨S, sn, sc, sg, rfl, o2, hshort, d2, g2⟩
 have hsn : sn ≤ 9 := by rw [Own.len o2]; exact hshort
 have hp2 := d2.lt
 replace rN := Row.away rN g2 (fun e => by injection e; omega)
 replace rP := Row.away rP g2 (fun e => by injection e; omega)
 replace rQ := Row.away rQ g2 (fun e => by injection e; omega)
 have bel2 : Below w.heap.size w w2 := bel.grown g2 bel.size (fun k hk => by injection hk; omega)
 obtain ⟨W, hW⟩ : ∃ W, W = w2.alloc (.cells #[.slice S sn sc] 32) := ⟨_, rfl⟩
 have bb : Below w2.heap.size w2 W := by rw [hW]; exact (Below.refl _ _).alloc (Nat.le_refl _) _
 replace rN := rN.next bb
 replace rP := rP.next bb
 replace rQ := rQ.next bb
 have bel3 := next_trans bel2 bb
 have s3 := ((Rd.of_own o2 hp1).below bb (Nat.le_refl _)).more bb.size
 have d3 := d2.next bb
 have hp3 := d3.lt
 have c6 : W.cell? ⟨w2.heap.size, 0, none⟩ = some (.slice S sn sc) := by rw [hW]; exact (Row.new w2 32 #[.slice S sn sc]).cell 0
 have L3 := hid (drawAnyS p A n c S sn sc sg W d3 s3 (by omega))
 have HW := hid hW
 clear o2 hshort d2 d3 g2 bel bel2 L2 bb hW
 go_wp2_with fail
 rw [← HW.out]
 refine L3.out.mono ?_
 rintro e w4 ⟨B, m, cB, xss, rfl, own4, hsm, d4, g4⟩
 obtain ⟨W2, hW2⟩ : ∃ W2, W2 = w4.alloc (.cells #[.slice B m cB] 30) := ⟨_, rfl⟩
 have T := v4_mk (by omega) rN rP bel3 s3 HW.out hp2 own4 d4 g4 hW2
 have hxt := small_tot hsm own4.1 (by omega)
 have rQ2 : Row W2 (w.heap.size + 2) 30 #[.slice none 0 0] := by rw [hW2]; exact (Row.away rQ g4 (fun e => by injection e; omega)).alloc _
 have HW2 := hid hW2
 have T1 := T.drew
 have rQ3 := rQ2.drew
 have k6 : W2.cell? ⟨w2.heap.size, 0, none⟩ = some (.slice S sn sc) := T.r6.cell 0
 have k7 : W2.cell? ⟨w4.heap.size, 0, none⟩ = some (.slice B m cB) := T.r7.cell 0
 obtain ⟨v6, h6⟩ : ∃ v, w2.heap.size = v := ⟨_, rfl⟩
 obtain ⟨v7, h7⟩ : ∃ v, w4.heap.size = v := ⟨_, rfl⟩
 rw [h6, h7] at T T1
 rw [h6] at k6
 rw [h7] at k7
 have H6 := hid h6
 have H7 := hid h7
 have zl := T.r7.lt
 have z6 : ¬ v6 = w.heap.size := by have := T.hp; have := T.p6; omega
 have z7 : ¬ v7 = w.heap.size := by have := T.hp; have := T.p7; omega
 have y6 : ¬ w.heap.size = v6 := by omega
 have y7 : ¬ w.heap.size = v7 := by omega
 have z61 : ¬ v6 = w.heap.size + 1 := by have := T.hp; have := T.p6; omega
 have z71 : ¬ v7 = w.heap.size + 1 := by have := T.hp; have := T.p7; omega
 have y61 : ¬ w.heap.size + 1 = v6 := by omega
 have y71 : ¬ w.heap.size + 1 = v7 := by omega
 have z62 : ¬ v6 = w.heap.size + 2 := by have := T.p6; omega
 have z72 : ¬ v7 = w.heap.size + 2 := by have := T.p7; omega
 have y62 : ¬ w.heap.size + 2 = v6 := by omega
 have y72 : ¬ w.heap.size + 2 = v7 := by omega
 clear rN rP rQ bel3 s3 own4 d4 g4 hW2 L3 c6 T h6 h7 hp3
 go_wp2_with fail
 rw [← HW2.out, H6.out, H7.out]
 go_region_held3 (fun w' => w'.cell? ⟨v6, 0, none⟩ = some (.slice S sn sc) ∧ w'.cell? ⟨v7, 0, none⟩ = some (.slice B m cB))
  (go_keep)
  (first
   | (go_at_call 64; refine (drawAnyS p A n c S sn sc sg W2.drew T1.d T1.s (by omega)).mono ?_; rintro e w5 ⟨C, q, cC, yss, rfl, own5, hsm5, d5, g5⟩; have T2 := T1.dice d5 g5; have j6 : w5.cell? ⟨v6, 0, none⟩ = some (.slice S sn sc) := T2.r6.cell 0; have j7 : w5.cell? ⟨v7, 0, none⟩ = some (.slice B m cB) := T2.r7.cell 0; have rQ5 := Row.away rQ3 g5 (fun e => by injection e; omega); have cN5 : w5.cell? ⟨w.heap.size, 0, none⟩ = some (.slice none 0 0) := T2.rN.cell 0; have fN5 : w5.frozen? ⟨w.heap.size, 0, none⟩ = false := T2.rN.free 0; have cP5 : w5.cell? ⟨w.heap.size + 1, 0, none⟩ = some (.slice none 0 0) := T2.rP.cell 0; have fP5 : w5.frozen? ⟨w.heap.size + 1, 0, none⟩ = false := T2.rP.free 0; have cQ5 : w5.cell? ⟨w.heap.size + 2, 0, none⟩ = some (.slice none 0 0) := rQ5.cell 0; have fQ5 : w5.frozen? ⟨w.heap.size + 2, 0, none⟩ = false := rQ5.free 0; have F := hid (ss_of T2 rQ5 hNp own5 T1.d.lt hsn hxt (small_tot hsm5 own5.1 (by omega)))))
 clear T2 T1 rQ5 rQ3 rQ2 own5 d5 g5 j6 j7 k6 k7
 go_wp2
 exact bodyPost_ret (v := .tuple #[.agg #[.slice S sn sc], .agg #[.slice B m cB], .agg #[.slice C q cC]]) (by simp [results, Try.results31, go_sem, cN5, cP5, cQ5]) rfl F.out
set_option maxHeartbeats 8000000 in
theorem drawSameSubst (A : Option Addr) (n c : Nat) (w : World) (h : SegB w w.heap.size A n) (hn : n ≤ 4096) :
  Calls Try.prog 25 #[.slice A n c] w (AnsSS w) := by
 obtain ⟨W0, hW0⟩ : ∃ W0, W0 = ((w.alloc (.cells #[.slice none 0 0] 32)).alloc (.cells #[.slice none 0 0] 30)).alloc (.cells #[.slice none 0 0] 30) := ⟨_, rfl⟩
 have rN : Row W0 w.heap.size 32 #[.slice none 0 0] := by rw [hW0]; exact ((Row.new _ _ _).alloc _).alloc _
 have rP : Row W0 (w.heap.size + 1) 30 #[.slice none 0 0] := by rw [hW0]; have := (Row.new (w.alloc (.cells #[.slice none 0 0] 32)) 30 #[.slice none 0 0]).alloc (.cells #[.slice none 0 0] 30); simpa using this
 have rQ : Row W0 (w.heap.size + 2) 30 #[.slice none 0 0] := by rw [hW0]; have := Row.new ((w.alloc (.cells #[.slice none 0 0] 32)).alloc (.cells #[.slice none 0 0] 30)) 30 #[.slice none 0 0]; simpa using this
 have b0 : Below w.heap.size w W0 := by rw [hW0]; exact (((Below.refl _ _).alloc (Nat.le_refl _) _).alloc (by simp) _).alloc (by simp; omega) _
 have L := hid (new_ A n c W0 (segB_below h b0) hn)
 have HW0 := hid hW0
 clear h hW0
 go_enter Try.func25, Try.ntmps25
 go_wp2_with fail
 rw [← HW0.out]
 refine L.out.mono ?_
 rintro e w1 ⟨p, rfl, hp, d1, bb⟩
 have hNp : w.heap.size + 2 < p := Nat.lt_of_lt_of_le rQ.lt hp
 replace rN := rN.next bb
 replace rP := rP.next bb
 replace rQ := rQ.next bb
 have bel := next_trans b0 bb
 have L2 := hid (drawSigAny p A n c w1 d1)
 have hp1 := d1.lt
 clear d1 bb b0 L
 go_wp2_with fail
 refine L2.out.mono ?_
 rintro e w2 ⟨S, sn, sc, sg, rfl, o2, hshort, d2, g2⟩
 have hsn : sn ≤ 9 := by rw [Own.len o2]; exact hshort
 have hp2 := d2.lt
 replace rN := Row.away rN g2 (fun e => by injection e; omega)
 replace rP := Row.away rP g2 (fun e => by injection e; omega)
 replace rQ := Row.away rQ g2 (fun e => by injection e; omega)
 have bel2 : Below w.heap.size w w2 := bel.grown g2 bel.size (fun k hk => by injection hk; omega)
 obtain ⟨W, hW⟩ : ∃ W, W = w2.alloc (.cells #[.slice S sn sc] 32) := ⟨_, rfl⟩
 have bb : Below w2.heap.size w2 W := by rw [hW]; exact (Below.refl _ _).alloc (Nat.le_refl _) _
 replace rN := rN.next bb
 replace rP := rP.next bb
 replace rQ := rQ.next bb
 have bel3 := next_trans bel2 bb
 have s3 := ((Rd.of_own o2 hp1).below bb (Nat.le_refl _)).more bb.size
 have d3 := d2.next bb
 have hp3 := d3.lt
 have c6 : W.cell? ⟨w2.heap.size, 0, none⟩ = some (.slice S sn sc) := by rw [hW]; exact (Row.new w2 32 #[.slice S sn sc]).cell 0
 have L3 := hid (drawAnyS p A n c S sn sc sg W d3 s3 (by omega))
 have HW := hid hW
 clear o2 hshort d2 d3 g2 bel bel2 L2 bb hW
 go_wp2_with fail
 rw [← HW.out]
 refine L3.out.mono ?_
 rintro e w4 ⟨B, m, cB, xss, rfl, own4, hsm, d4, g4⟩
 obtain ⟨W2, hW2⟩ : ∃ W2, W2 = w4.alloc (.cells #[.slice B m cB] 30) := ⟨_, rfl⟩
 have T := v4_mk (by omega) rN rP bel3 s3 HW.out hp2 own4 d4 g4 hW2
 have hxt := small_tot hsm own4.1 (by omega)
 have rQ2 : Row W2 (w.heap.size + 2) 30 #[.slice none 0 0] := by rw [hW2]; exact (Row.away rQ g4 (fun e => by injection e; omega)).alloc _
 have HW2 := hid hW2
 have k6 : W2.cell? ⟨w2.heap.size, 0, none⟩ = some (.slice S sn sc) := T.r6.cell 0
 have k7 : W2.cell? ⟨w4.heap.size, 0, none⟩ = some (.slice B m cB) := T.r7.cell 0
 obtain ⟨v6, h6⟩ : ∃ v, w2.heap.size = v := ⟨_, rfl⟩
 obtain ⟨v7, h7⟩ : ∃ v, w4.heap.size = v := ⟨_, rfl⟩
 rw [h6, h7] at T
 rw [h6] at k6
 rw [h7] at k7
 have H6 := hid h6
 have H7 := hid h7
 have zl := T.r7.lt
 have z6 : ¬ v6 = w.heap.size := by have := T.hp; have := T.p6; omega
 have z7 : ¬ v7 = w.heap.size := by have := T.hp; have := T.p7; omega
 have y6 : ¬ w.heap.size = v6 := by omega
 have y7 : ¬ w.heap.size = v7 := by omega
 have z61 : ¬ v6 = w.heap.size + 1 := by have := T.hp; have := T.p6; omega
 have z71 : ¬ v7 = w.heap.size + 1 := by have := T.hp; have := T.p7; omega
 have y61 : ¬ w.heap.size + 1 = v6 := by omega
 have y71 : ¬ w.heap.size + 1 = v7 := by omega
 have z62 : ¬ v6 = w.heap.size + 2 := by have := T.p6; omega
 have z72 : ¬ v7 = w.heap.size + 2 := by have := T.p7; omega
 have y62 : ¬ w.heap.size + 2 = v6 := by omega
 have y72 : ¬ w.heap.size + 2 = v7 := by omega
 clear rN rP rQ bel3 s3 own4 d4 g4 hW2 L3 c6 h6 h7 hp3
 have L5 := hid (once p A n c 2 W2 T.d (by omega) (by omega))
 go_wp2_with fail
 rw [← HW2.out, H6.out, H7.out]
 refine L5.out.mono ?_
 rintro e w3 ⟨b, rfl, d3, g3⟩
 have T3 := T.dice d3 g3
 have rQ3 := (Row.away rQ2 g3 (fun e => by injection e; omega)).drew
 have T1 := T3.drew
 replace k6 : w3.cell? ⟨v6, 0, none⟩ = some (.slice S sn sc) := T3.r6.cell 0
 replace k7 : w3.cell? ⟨v7, 0, none⟩ = some (.slice B m cB) := T3.r7.cell 0
 clear T T3 d3 g3 L5 rQ2
 cases b with
 | true =>
  go_wp2_with fail
  go_region_held3 (fun w' => w'.cell? ⟨v6, 0, none⟩ = some (.slice S sn sc) ∧ w'.cell? ⟨v7, 0, none⟩ = some (.slice B m cB))
   (go_keep)
   (first
    | (go_at_call 13; refine (specPlainOf S B sn sc m cB sg xss w3.drew T1.s.seg (OwnR.segs T1.own) (by omega) hxt).mono ?_; rintro e w5 ⟨C, q, cC, rfl, oc5, b5⟩; have T2 := T1.next b5; have own5 := ownR_owns oc5 T1.d.lt; have j6 : w5.cell? ⟨v6, 0, none⟩ = some (.slice S sn sc) := T2.r6.cell 0; have j7 : w5.cell? ⟨v7, 0, none⟩ = some (.slice B m cB) := T2.r7.cell 0; have rQ5 := rQ3.next b5; have cN5 : w5.cell? ⟨w.heap.size, 0, none⟩ = some (.slice none 0 0) := T2.rN.cell 0; have fN5 : w5.frozen? ⟨w.heap.size, 0, none⟩ = false := T2.rN.free 0; have cP5 : w5.cell? ⟨w.heap.size + 1, 0, none⟩ = some (.slice none 0 0) := T2.rP.cell 0; have fP5 : w5.frozen? ⟨w.heap.size + 1, 0, none⟩ = false := T2.rP.free 0; have cQ5 : w5.cell? ⟨w.heap.size + 2, 0, none⟩ = some (.slice none 0 0) := rQ5.cell 0; have fQ5 : w5.frozen? ⟨w.heap.size + 2, 0, none⟩ = false := rQ5.free 0; have F := hid (ss_of T2 rQ5 hNp own5 T1.d.lt hsn hxt plainI_tot)))
  clear T2 T1 rQ5 rQ3 own5 oc5 b5 j6 j7 k6 k7
  go_wp2
  exact bodyPost_ret (v := .tuple #[.agg #[.slice S sn sc], .agg #[.slice B m cB], .agg #[.slice C q cC]]) (by simp [results, Try.results25, go_sem, cN5, cP5, cQ5]) rfl F.out
 | false =>
  go_wp2_with fail
  go_region_held3 (fun w' => w'.cell? ⟨v6, 0, none⟩ = some (.slice S sn sc) ∧ w'.cell? ⟨v7, 0, none⟩ = some (.slice B m cB))
   (go_keep)
   (first
    | (go_at_call 64; refine (drawAnyS p A n c S sn sc sg w3.drew T1.d T1.s (by omega)).mono ?_; rintro e w5 ⟨C, q, cC, yss, rfl, own5, hsm5, d5, g5⟩; have T2 := T1.dice d5 g5; have j6 : w5.cell? ⟨v6, 0, none⟩ = some (.slice S sn sc) := T2.r6.cell 0; have j7 : w5.cell? ⟨v7, 0, none⟩ = some (.slice B m cB) := T2.r7.cell 0; have rQ5 := Row.away rQ3 g5 (fun e => by injection e; omega); have cN5 : w5.cell? ⟨w.heap.size, 0, none⟩ = some (.slice none 0 0) := T2.rN.cell 0; have fN5 : w5.frozen? ⟨w.heap.size, 0, none⟩ = false := T2.rN.free 0; have cP5 : w5.cell? ⟨w.heap.size + 1, 0, none⟩ = some (.slice none 0 0) := T2.rP.cell 0; have fP5 : w5.frozen? ⟨w.heap.size + 1, 0, none⟩ = false := T2.rP.free 0; have cQ5 : w5.cell? ⟨w.heap.size + 2, 0, none⟩ = some (.slice none 0 0) := rQ5.cell 0; have fQ5 : w5.frozen? ⟨w.heap.size + 2, 0, none⟩ = false := rQ5.free 0; have F := hid (ss_of T2 rQ5 hNp own5 T1.d.lt hsn hxt (small_tot hsm5 own5.1 (by omega)))))
  clear T2 T1 rQ5 rQ3 own5 d5 g5 j6 j7 k6 k7
  go_wp2
  exact bodyPost_ret (v := .tuple #[.agg #[.slice S sn sc], .agg #[.slice B m cB], .agg #[.slice C q cC]]) (by simp [results, Try.results25, go_sem, cN5, cP5, cQ5]) rfl F.out
set_option maxHeartbeats 8000000 in
theorem drawFilled (A : Option Addr) (n c : Nat) (w : World) (h : SegB w w.heap.size A n) (hn : n ≤ 4096) :
  Calls Try.prog 30 #[.slice A n c] w (AnsST w) := by
 obtain ⟨W0, hW0⟩ : ∃ W0, W0 = (w.alloc (.cells #[.slice none 0 0] 32)).alloc (.cells #[.slice none 0 0] 30) := ⟨_, rfl⟩
 have rN : Row W0 w.heap.size 32 #[.slice none 0 0] := by rw [hW0]; exact (Row.new _ _ _).alloc _
 have rP : Row W0 (w.heap.size + 1) 30 #[.slice none 0 0] := by rw [hW0]; have := Row.new (w.alloc (.cells #[.slice none 0 0] 32)) 30 #[.slice none 0 0]; simpa using this
 have b0 : Below w.heap.size w W0 := by rw [hW0]; exact ((Below.refl _ _).alloc (Nat.le_refl _) _).alloc (by simp) _
 have L := hid (new_ A n c W0 (segB_below h b0) hn)
 have HW0 := hid hW0
 clear h hW0
 go_enter Try.func30, Try.ntmps30
 go_wp2_with fail
 rw [← HW0.out]
 refine L.out.mono ?_
 rintro e w1 ⟨p, rfl, hp, d1, bb⟩
 have hNp : w.heap.size + 1 < p := Nat.lt_of_lt_of_le rP.lt hp
 replace rN := rN.next bb
 replace rP := rP.next bb
 have bel := next_trans b0 bb
 have L2 := hid (drawSigAny p A n c w1 d1)
 have hp1 := d1.lt
 clear d1 bb b0 L
 go_wp2_with fail
 refine L2.out.mono ?_
 rintro e w2 ⟨S, sn, sc, sg, rfl, o2, hshort, d2, g2⟩
 have hsn : sn ≤ 9 := by rw [Own.len o2]; exact hshort
 have hp2 := d2.lt
 replace rN := Row.away rN g2 (fun e => by injection e; omega)
 replace rP := Row.away rP g2 (fun e => by injection e; omega)
 have bel2 : Below w.heap.size w w2 := bel.grown g2 bel.size (fun k hk => by injection hk; omega)
 obtain ⟨W, hW⟩ : ∃ W, W = w2.alloc (.cells #[.slice S sn sc] 32) := ⟨_, rfl⟩
 have bb : Below w2.heap.size w2 W := by rw [hW]; exact (Below.refl _ _).alloc (Nat.le_refl _) _
 replace rN := rN.next bb
 replace rP := rP.next bb
 have bel3 := next_trans bel2 bb
 have s3 := ((Rd.of_own o2 hp1).below bb (Nat.le_refl _)).more bb.size
 have d3 := d2.next bb
 have hp3 := d3.lt
 have c6 : W.cell? ⟨w2.heap.size, 0, none⟩ = some (.slice S sn sc) := by rw [hW]; exact (Row.new w2 32 #[.slice S sn sc]).cell 0
 have L3 := hid (drawAnyS p A n c S sn sc sg W d3 s3 (by omega))
 have HW := hid hW
 clear o2 hshort d2 d3 g2 bel bel2 L2 bb hW
 go_wp2_with fail
 rw [← HW.out]
 refine L3.out.mono ?_
 rintro e w4 ⟨B, m, cB, xss, rfl, own4, hsm, d4, g4⟩
 obtain ⟨W2, hW2⟩ : ∃ W2, W2 = w4.alloc (.cells #[.slice B m cB] 30) := ⟨_, rfl⟩
 have T := v4_mk (by omega) rN rP bel3 s3 HW.out hp2 own4 d4 g4 hW2
 have hxt := small_tot hsm own4.1 (by omega)
 have HW2 := hid hW2
 have T1 := T.drew
 have k6 : W2.cell? ⟨w2.heap.size, 0, none⟩ = some (.slice S sn sc) := T.r6.cell 0
 have k7 : W2.cell? ⟨w4.heap.size, 0, none⟩ = some (.slice B m cB) := T.r7.cell 0
 obtain ⟨v6, h6⟩ : ∃ v, w2.heap.size = v := ⟨_, rfl⟩
 obtain ⟨v7, h7⟩ : ∃ v, w4.heap.size = v := ⟨_, rfl⟩
 rw [h6, h7] at T T1
 rw [h6] at k6
 rw [h7] at k7
 have H6 := hid h6
 have H7 := hid h7
 have zl := T.r7.lt
 have z6 : ¬ v6 = w.heap.size := by have := T.hp; have := T.p6; omega
 have z7 : ¬ v7 = w.heap.size := by have := T.hp; have := T.p7; omega
 have y6 : ¬ w.heap.size = v6 := by omega
 have y7 : ¬ w.heap.size = v7 := by omega
 have z61 : ¬ v6 = w.heap.size + 1 := by have := T.hp; have := T.p6; omega
 have z71 : ¬ v7 = w.heap.size + 1 := by have := T.hp; have := T.p7; omega
 have y61 : ¬ w.heap.size + 1 = v6 := by omega
 have y71 : ¬ w.heap.size + 1 = v7 := by omega
 clear rN rP bel3 s3 own4 d4 g4 hW2 L3 c6 T h6 h7 hp3
 go_wp2_with fail
 rw [← HW2.out, H6.out, H7.out]
 go_region_held3 (fun w' => w'.cell? ⟨v6, 0, none⟩ = some (.slice S sn sc) ∧ w'.cell? ⟨v7, 0, none⟩ = some (.slice B m cB))
  (go_keep)
  (first
   | (go_at_call 70; refine (drawAny p A n c S sn sc sg W2.drew T1.d T1.s (by omega)).mono ?_; rintro e w5 ⟨O, on, oc, ys, rfl, ra, h1, h2, h3, h4, d5, g5⟩; have T2 := T1.dice d5 g5; have j6 : w5.cell? ⟨v6, 0, none⟩ = some (.slice S sn sc) := T2.r6.cell 0; have j7 : w5.cell? ⟨v7, 0, none⟩ = some (.slice B m cB) := T2.r7.cell 0; have cN5 : w5.cell? ⟨w.heap.size, 0, none⟩ = some (.slice none 0 0) := T2.rN.cell 0; have fN5 : w5.frozen? ⟨w.heap.size, 0, none⟩ = false := T2.rN.free 0; have cP5 : w5.cell? ⟨w.heap.size + 1, 0, none⟩ = some (.slice none 0 0) := T2.rP.cell 0; have fP5 : w5.frozen? ⟨w.heap.size + 1, 0, none⟩ = false := T2.rP.free 0; have F := hid (st_of (oc := oc) T2 ra hsn hxt h4)))
 clear T2 T1 ra d5 g5 j6 j7 k6 k7
 go_wp2
 exact bodyPost_ret (v := .tuple #[.agg #[.slice S sn sc], .agg #[.slice B m cB], .slice O on oc]) (by simp [results, Try.results30, go_sem, cN5, cP5]) rfl F.out
end drawSS
end
section
namespace sameSubst
open Go.RowKit base ints sig same marks sym segs segsHelp kinds varsOf fillMath Go.Proofs.Ytghgnondlgdjdaa.look substOk gives
set_option maxRecDepth 100000
end sameSubst
end
section
namespace compMath
open term termOk termFacts segsHelp fillMath substOk gives plainMath plainOf
def compL (us ss : List (List Int)) (i : Nat) : List Int := fillL (givesL us) (givesL ss i)
def compOk (us ss : List (List Int)) : Bool := (List.range 24).all fun i => decide ((compL us ss i).length ≤ 60)
def composedB (sg : List Int) (ss us : List (List Int)) : Bool := substOkB sg ss && (substOkB sg us && compOk us ss)
def composedI (sg : List Int) (ss us : List (List Int)) : List (List Int) := if composedB sg ss us = true then plainL (compL us ss) 24 else []
theorem composed_s {sg : List Int} {ss us : List (List Int)} (h : substOkB sg ss = false) : composedB sg ss us = false := by unfold composedB; rw [h, Bool.false_and]
theorem composed_u {sg : List Int} {ss us : List (List Int)} (h : substOkB sg us = false) : composedB sg ss us = false := by unfold composedB; rw [h, Bool.false_and, Bool.and_false]
theorem composed_b {sg : List Int} {ss us : List (List Int)} (h : substOkB sg ss = true) (h' : substOkB sg us = true) : composedB sg ss us = compOk us ss := by unfold composedB; rw [h, h', Bool.true_and, Bool.true_and]
theorem composed_yes {sg : List Int} {ss us : List (List Int)} (h : composedB sg ss us = true) : composedI sg ss us = plainL (compL us ss) 24 := by unfold composedI; rw [if_pos h]
theorem composed_no {sg : List Int} {ss us : List (List Int)} (h : composedB sg ss us = false) : composedI sg ss us = [] := by unfold composedI; rw [if_neg (by rw [h]; simp)]
theorem compOk_iff {us ss : List (List Int)} : compOk us ss = true ↔ ∀ i, i < 24 → (compL us ss i).length ≤ 60 := by
 unfold compOk
 rw [List.all_eq_true]
 exact ⟨fun h i hi => of_decide_eq_true (h i (List.mem_range.2 hi)), fun h i hi => decide_eq_true (h i (List.mem_range.1 hi))⟩
theorem comp_out {us ss : List (List Int)} {i : Nat} (h : ss.length ≤ i) (h' : us.length ≤ i) : compL us ss i = vt i := by
 unfold compL
 rw [gives_out (by omega)]
 unfold vt
 rw [fill_cons, fill_nil, List.append_nil, rep_var (by omega), show (-1 - (-1 - (i : Int))).toNat = i by omega, gives_out (by omega)]
 rfl
theorem comp_pos (us ss : List (List Int)) (i : Nat) : 1 ≤ (compL us ss i).length := by
 have h1 := fill_ge (gives_pos us) (givesL ss i)
 have h2 := gives_pos ss i
 unfold compL
 omega
theorem comp_len {sg : List Int} {us ss : List (List Int)} (h : substOkB sg ss = true) (h' : substOkB sg us = true) (i : Nat) : (compL us ss i).length ≤ 3600 := by
 have h1 := fill_len (M := 60) (by omega) (gives_len h') (givesL ss i)
 have h2 := gives_len h i
 have h3 : (givesL ss i).length * 60 ≤ 60 * 60 := Nat.mul_le_mul_right _ h2
 unfold compL
 omega
def anyLong (xss : List (List Int)) : Bool := xss.any fun t => decide (60 < t.length)
theorem anyLong_iff {xss : List (List Int)} : anyLong xss = true ↔ ∃ i, 60 < (xss.getD i []).length := by
 unfold anyLong
 rw [List.any_eq_true]
 refine ⟨fun ⟨t, ht, h⟩ => ?_, fun ⟨i, h⟩ => ?_⟩
 ·obtain ⟨i, hi, rfl⟩ := List.getElem_of_mem ht
  exact ⟨i, by simpa [List.getD, hi] using h⟩
 ·by_cases hi : i < xss.length
  ·refine ⟨xss[i], List.getElem_mem hi, ?_⟩
   simpa [List.getD, hi] using h
  ·rw [show xss.getD i [] = [] by simp [List.getD, hi]] at h
   simp at h
theorem anyLong_comp (us ss : List (List Int)) : anyLong (plainL (compL us ss) 24) = !compOk us ss := by
 cases h : compOk us ss with
 | true =>
  cases e : anyLong (plainL (compL us ss) 24) with
  | false => rfl
  | true =>
   obtain ⟨i, hi⟩ := anyLong_iff.1 e
   rw [plain_get] at hi
   by_cases h24 : i < 24
   ·rw [rows_get h24] at hi
    have := compOk_iff.1 h i h24
    unfold bare at hi
    split at hi
    ·simp at hi
    ·omega
   ·rw [show (rowsL (compL us ss) 24).getD i [] = [] by simp [List.getD, rows_len, h24]] at hi
    simp at hi
 | false =>
  have hn : ∃ i, i < 24 ∧ ¬ (compL us ss i).length ≤ 60 := by
   refine Classical.byContradiction fun hne => ?_
   have : compOk us ss = true := compOk_iff.2 fun i hi => Classical.byContradiction fun hl => hne ⟨i, hi, hl⟩
   rw [h] at this
   cases this
  obtain ⟨i, hi, hl⟩ := hn
  refine anyLong_iff.2 ⟨i, ?_⟩
  rw [plain_get, rows_get hi]
  unfold bare
  rw [if_neg (fun e => by rw [e] at hl; simp [vt] at hl)]
  omega
theorem composed_tot {sg : List Int} {ss us : List (List Int)} : tot (composedI sg ss us) ≤ 1048576 := by
 cases h : composedB sg ss us with
 | false => rw [composed_no h]; simp [tot, sumL]
 | true =>
  rw [composed_yes h]
  unfold composedB at h
  simp only [Bool.and_eq_true] at h
  have h1 := tot_le (plain_each (L := compL us ss) (m := 24) (comp_len h.1 h.2.1))
  have h2 := plain_len (compL us ss) 24
  have h4 : (plainL (compL us ss) 24).length * 3600 ≤ 24 * 3600 := Nat.mul_le_mul_right _ h2
  omega
end compMath
end
section
open Go.Lib (hid)
namespace filled
open Go.RowKit base ints sig cursor term termOk marks app appAt sym sub segs segsHelp termFacts varsMath varsOf fillMath Go.Proofs.Ytghgnondlgdjdaa.look shifted substOk gives
set_option maxRecDepth 100000
theorem stepAppAll {w : World} {ops : Array Oper} {o : Oper} {a : Act} {K : Act → World → Prop} {Q : Exit → Act → World → Prop} {E : Prop} (hgd : o.guard = none) (s x : Operand)
  (ho : o.op = .call { callee := .builtin .append, args := #[s, x], argTypes := #[22, 22] })
  (base : Nat) (A : Option Addr) (n c : Nat) (xs : List Int) (hs : a.eval s = .slice A n c) (hown : Own w base (.slice A n c) xs)
  (S : Option Addr) (m c2 B : Nat) (ys : List Int) (hx : a.eval x = .slice S m c2) (hseg : Seg w B S m ys) (hm1 : 1 ≤ m) (hn : n ≤ 2097152) (hm : m ≤ 2097152) (hbase : base ≤ w.heap.size)
  (h : ∀ g' c' w', Own w' base (.slice (some ⟨g', 0, none⟩) (n + m) c') (xs ++ ys) → w.grownBy w' (blk A) → (blk A = some g' ∨ g' = w.heap.size) → g' < w'.heap.size → K (a.put o.dst (.slice (some ⟨g', 0, none⟩) (n + m) c')) w') :
  if Region.wanted o (yielded ops a.tmps) = true then Oper.wp Try.prog o a w K Q else E := by
 obtain ⟨i0, hi, hz0, hz1, hz2⟩ := info_parts info_i64
 have hl : xs.length = n := by
  obtain ⟨A', c', e⟩ := hown.slice
  exact (Value.slice.inj e).2.1.symm
 have hob : (Value.slice A n c).ownBlock = blk A := by cases A <;> rfl
 obtain ⟨b, off, e, _, hc⟩ := hseg.2 (by omega)
 subst e
 refine step_append_lies w hgd s x 22 ho base 2 i0 (.int .i64 0) 1 8 Try.underlying22 hi hz0 hz1 hz2 rfl (by decide) (.slice A n c) n (xs.map (Value.int .i64)) hs (by rw [← hl]; rw [← hl] at hown; exact hown)
  ⟨b, off, none⟩ m c2 (ys.map (Value.int .i64)) hx (by simp [hseg.1]) (fun j u hj => ?_) (fun u hu => ?_) (by omega) (by unfold maxLen; omega) (by omega) hbase w.heap.size rfl ?_
 ·have hjl : j < m := by
   have := (List.getElem?_eq_some_iff.1 hj).1
   simp at this
   have := hseg.1
   omega
  have hcj := hc j hjl
  have e2 : (⟨b, off, none⟩ : Addr).add j = ⟨b, off + j, none⟩ := by unfold Addr.add; split <;> simp_all
  rw [e2, hcj, ← hj]
  have := hseg.1
  simp [List.getD, show j < ys.length by omega]
 ·obtain ⟨y, _, rfl⟩ := List.mem_map.1 hu
  rfl
 ·intro g' c' w' hown' hg hat hlt
  rw [← List.map_append] at hown'
  rw [hob] at hg hat
  refine h g' c' w' ?_ hg hat hlt
  have hl2 : (xs ++ ys).length = n + m := by simp [hl, hseg.1]
  unfold Own
  rw [hl2]
  exact hown'
def fitsB (ss : List (List Int)) (t : List Int) : Bool := decide ((fillL (givesL ss) t).length ≤ 60)
def fitL (ss : List (List Int)) (t : List Int) : List Int := if fitsB ss t = true then fillL (givesL ss) t else []
theorem fits_no {ss : List (List Int)} {t : List Int} {k : Nat} (h : 60 < (fillL (givesL ss) (t.take k)).length) : fitsB ss t = false := by
 have e : fillL (givesL ss) t = fillL (givesL ss) (t.take k) ++ fillL (givesL ss) (t.drop k) := by rw [← fill_append, List.take_append_drop]
 unfold fitsB
 rw [e, List.length_append]
 simp
 omega
def HeadF (w : World) (S : Option Addr) (m c mt : Nat) (ss : List (List Int)) (t : List Int) (out i : Value) (wr : World) : Prop :=
 ∃ (k : Nat) (O : Option Addr) (on oc : Nat), k ≤ mt ∧ i = .int .i64 k ∧ out = .slice O on oc ∧ on ≤ 60 ∧ Own wr (w.heap.size + 1) (.slice O on oc) (fillL (givesL ss) (t.take k)) ∧ Row wr w.heap.size 30 #[.slice S m c] ∧ Below w.heap.size w wr
theorem pairF_no {w wr : World} {ss : List (List Int)} {t : List Int} (h : fitsB ss t = false) (hb : Below w.heap.size w wr) : AnsPairO w (fitL ss t) (fitsB ss t) (.returned (.tuple #[.slice (some ⟨wr.heap.size, 0, none⟩) 0 0, .bool false])) (wr.alloc (.cells #[] 2)) :=
 ⟨_, 0, 0, by rw [h], by unfold fitL; rw [if_neg (by rw [h]; simp)]; exact own_empty wr w.heap.size hb.size, hb.alloc hb.size _⟩
set_option maxHeartbeats 8000000 in
theorem l2Filled (S A : Option Addr) (m c mt ct : Nat) (ss : List (List Int)) (t : List Int) (w : World) (h : Segs w w.heap.size S m ss) (h' : Seg w w.heap.size A mt t) (ht : tot ss ≤ 1048576) (hmt : mt ≤ 60) (hv : ∀ x ∈ t, -24 ≤ x) (hM : ∀ i, (givesL ss i).length ≤ 60) :
  Calls Try.prog 57 #[.agg #[.slice S m c], .slice A mt ct] w (AnsPairO w (fitL ss t) (fitsB ss t)) := by
 have HL := hid h'.1
 have HV := hid hv
 have HM := hid hM
 have HT := hid ht
 have S0 : HeadF w S m c mt ss t (.slice (some ⟨w.heap.size + 1, 0, none⟩) 0 0) (.int .i64 0) ((w.alloc (.cells #[.slice S m c] 30)).alloc (.cells #[] 2)) :=
  ⟨0, _, _, _, Nat.zero_le _, rfl, rfl, by omega, by have := own_empty (w.alloc (.cells #[.slice S m c] 30)) (w.heap.size + 1) (by simp); simpa [fillL] using this, (Row.new _ _ _).alloc _, ((Below.refl _ _).alloc (Nat.le_refl _) _).alloc (by simp) _⟩
 have HS0 := hid S0
 clear S0 hv hM ht
 go_enter Try.func57, Try.ntmps57
 go_wp2_with fail
 go_loopw [6, 7] (fun out i wr => HeadF w S m c mt ss t out i wr) (fun _ i _ => mt - (intOf i).toNat)
 case atStart => exact HS0.out
 case round =>
  obtain ⟨k, O, on, oc, hk, rfl, rfl, hon, ho, hr, hb⟩ := hrel
  clear HS0
  have hsz := hr.lt
  by_cases hlt : k < mt
  ·obtain ⟨b, off, x, rfl, hbb, hx, ex⟩ := h'.spot hlt
   have hx1 : wr.cell? ⟨b, off + k, none⟩ = some (.int .i64 x) := (hb.cell (p := ⟨b, off + k, none⟩) hbb).trans hx
   have hbr : b < wr.heap.size := Nat.lt_of_lt_of_le hbb hb.size
   have cS : wr.cell? ⟨w.heap.size, 0, none⟩ = some (.slice S m c) := hr.cell 0
   have hmem : x ∈ t := by
    have hkl : k < t.length := by rw [HL.out]; exact hlt
    have := ex.out
    rw [← this]
    simp [List.getD, hkl]
   have hx24 : -24 ≤ x := HV.out x hmem
   have E := hid (fill_take (L := givesL ss) (t := t) (k := k) (by rw [HL.out]; exact hlt) ex.out)
   have i0 : (0 : Int) ≤ (k : Int) := by omega
   have i1 : (k : Int) < (mt : Int) := by omega
   have HN := hid (Own.len ho)
   have hx0 := hx
   clear hmem hx h' ex
   by_cases hpos : 0 ≤ x
   ·have R := hid (rep_sym (L := givesL ss) hpos)
    have d1 : decide (x < 0) = false := by simp; omega
    by_cases h60 : on + 1 ≤ 60
    ·go_wp2_with (at_builtin; refine app1 rfl _ _ rfl (w.heap.size + 1) O on oc (fillL (givesL ss) (t.take k)) rfl (Own.alloc ho _) wr.heap.size 1 x rfl ((Row.new _ _ _).cell 0) (by omega) (by simp; omega) ?_; intro O' oc' w2 ho2 b2)
     have S1 : HeadF w S m c mt ss t (.slice O' (on + 1) oc') (.int .i64 ((k : Int) + 1)) w2 := ⟨k + 1, O', on + 1, oc', hlt, by simp, rfl, h60, by rw [E.out, R.out]; exact ho2, (hr.alloc _).below b2 (Nat.lt_succ_self _), (hb.alloc (Nat.le_of_lt hsz) _).trans (b2.mono (Nat.le_succ _))⟩
     have HS1 := hid S1
     clear S1 ho2 b2 ho hr hb R E cS
     go_wp2
     go_roundw
     case rel => exact HS1.out
     case measure => simp [intOf]; omega
    ·have NO := hid (fits_no (ss := ss) (t := t) (k := k + 1) (by rw [E.out, R.out, List.length_append, ← HN.out]; simp; omega))
     go_wp2_with (at_builtin; refine app1 rfl _ _ rfl (w.heap.size + 1) O on oc (fillL (givesL ss) (t.take k)) rfl (Own.alloc ho _) wr.heap.size 1 x rfl ((Row.new _ _ _).cell 0) (by omega) (by simp; omega) ?_; intro O' oc' w2 ho2 b2)
     have F := hid (pairF_no NO.out ((hb.alloc (Nat.le_of_lt hsz) _).trans (b2.mono (Nat.le_succ _))))
     clear ho2 b2 ho hr hb R E cS
     go_wp2
     go_ret2
     exact F.out
   ·have hneg : x < 0 := by omega
    have R := hid (rep_var (L := givesL ss) hneg)
    obtain ⟨i, hi⟩ : ∃ i : Nat, (-1 - x).toNat = i := ⟨_, rfl⟩
    rw [hi] at R
    have hix : (i : Int) = -1 - x := by omega
    have LG := hid (l2Gives S m c ss i wr.drew (((h.below hb).more hb.size).drew) HT.out (by omega))
    rw [hix] at LG
    have hlen : (givesL ss i).length ≤ 60 := HM.out i
    have hlen1 : 1 ≤ (givesL ss i).length := gives_pos ss i
    obtain ⟨q, hq⟩ : ∃ q, (givesL ss i).length = q := ⟨_, rfl⟩
    rw [hq] at hlen hlen1
    have HQ := hid hq
    have hw1 : IntKind.i64.wrap (-1 - x) = -1 - x := by rw [IntKind.wrap_i64]; omega
    have hod := Own.drew ho
    have hrd := hr.drew
    have hbd := hb.drew
    clear hix hi hq h
    go_wp2_with fail
    go_region_held3 (fun w' => w'.cell? ⟨w.heap.size, 0, none⟩ = some (.slice S m c) ∧ w'.cell? ⟨b, off + k, none⟩ = some (.int .i64 x))
     (go_keep)
     (first
      | (go_at_call 58; refine LG.out.mono ?_; rintro e w1 ⟨D, dn, dc, rfl, od, bb⟩; obtain rfl : dn = q := (by rw [Own.len od]; exact HQ.out); have ho1 := Own.next hod bb; have hr1 := hrd.next bb; have hb1 := next_trans hbd bb; have cS1 : w1.cell? ⟨w.heap.size, 0, none⟩ = some (.slice S m c) := hr1.cell 0; have cX1 : w1.cell? ⟨b, off + k, none⟩ = some (.int .i64 x) := (bb.cell (p := ⟨b, off + k, none⟩) hbr).trans hx1)
      | (refine stepAppAll rfl _ _ rfl (w.heap.size + 1) O on oc (fillL (givesL ss) (t.take k)) (by rfl) ho1 D _ dc w1.heap.size (givesL ss i) (by rfl) (Own.seg od) (by omega) (by omega) (by omega) (by have := hr1.lt; omega) ?_; intro O' oc' w2 ho2 hg2 hat2 hlt2; have hr2 := Row.away hr1 hg2 (fun e => by have := (World.ownsRow.lt ho1 w.heap.size (by rw [blk_own]; exact e)).1; omega); have hb2 : Below w.heap.size w w2 := hb1.grown hg2 hb1.size (fun z hz => by have := (World.ownsRow.lt ho1 z (by rw [blk_own]; exact hz)).1; omega); have cS2 : w2.cell? ⟨w.heap.size, 0, none⟩ = some (.slice S m c) := hr2.cell 0; have cX2 : w2.cell? ⟨b, off + k, none⟩ = some (.int .i64 x) := (hb2.cell (p := ⟨b, off + k, none⟩) hbb).trans hx0))
    have hsum : (fillL (givesL ss) (t.take k) ++ givesL ss i).length = on + dn := by rw [List.length_append, ← HN.out, HQ.out]
    clear cS1 cX1 ho1 hr1 hb1 od bb hod hrd hbd LG ho hr hb cS hx1 hg2 hat2 HM HV
    by_cases h60 : on + dn ≤ 60
    ·have S1 : HeadF w S m c mt ss t (.slice (some ⟨O', 0, none⟩) (on + dn) oc') (.int .i64 ((k : Int) + 1)) w2 := ⟨k + 1, _, on + dn, oc', hlt, by simp, rfl, h60, by rw [E.out, R.out]; exact ho2, hr2, hb2⟩
     have HS1 := hid S1
     clear S1 ho2 hr2 hb2 R E HQ hsum
     go_wp2
     go_roundw
     case rel => exact HS1.out
     case measure => simp [intOf]; omega
    ·have NO := hid (fits_no (ss := ss) (t := t) (k := k + 1) (by rw [E.out, R.out, hsum]; omega))
     have F := hid (pairF_no NO.out hb2)
     clear ho2 hr2 hb2 R E HQ hsum
     go_wp2
     go_ret2
     exact F.out
  ·have F : AnsPairO w (fitL ss t) (fitsB ss t) (.returned (.tuple #[.slice O on oc, .bool true])) wr := by
    rw [List.take_of_length_le (by rw [HL.out]; omega)] at ho
    have hB : fitsB ss t = true := by unfold fitsB; rw [← Own.len ho]; simp; omega
    exact ⟨O, on, oc, by rw [hB], by unfold fitL; rw [if_pos hB]; exact Own.lower ho (Nat.le_succ _), hb⟩
   have HF := hid F
   clear F ho hr hb h h'
   go_wp2
   go_ret2
   exact HF.out
def filledB (sg : List Int) (ss : List (List Int)) (t : List Int) : Bool := substOkB sg ss && (termOkB sg t && fitsB ss t)
def filledL (sg : List Int) (ss : List (List Int)) (t : List Int) : List Int := if filledB sg ss t = true then fillL (givesL ss) t else []
theorem filled_s {sg : List Int} {ss : List (List Int)} {t : List Int} (h : substOkB sg ss = false) : filledB sg ss t = false := by unfold filledB; rw [h, Bool.false_and]
theorem filled_t {sg : List Int} {ss : List (List Int)} {t : List Int} (h : termOkB sg t = false) : filledB sg ss t = false := by unfold filledB; rw [h, Bool.false_and, Bool.and_false]
theorem filled_b {sg : List Int} {ss : List (List Int)} {t : List Int} (h : substOkB sg ss = true) (h' : termOkB sg t = true) : filledB sg ss t = fitsB ss t := by unfold filledB; rw [h, h', Bool.true_and, Bool.true_and]
theorem filled_l {sg : List Int} {ss : List (List Int)} {t : List Int} (h : substOkB sg ss = true) (h' : termOkB sg t = true) : filledL sg ss t = fitL ss t := by unfold filledL fitL; rw [filled_b h h']
theorem filled_len (sg : List Int) (ss : List (List Int)) (t : List Int) : (filledL sg ss t).length ≤ 60 := by
 unfold filledL filledB fitsB
 split
 ·rename_i h
  simp only [Bool.and_eq_true, decide_eq_true_eq] at h
  exact h.2.2
 ·simp
theorem pairSF_no {w wr : World} {sg : List Int} {ss : List (List Int)} {t : List Int} (h : filledB sg ss t = false) (hb : Below w.heap.size w wr) : AnsPairO w (filledL sg ss t) (filledB sg ss t) (.returned (.tuple #[.slice (some ⟨wr.heap.size, 0, none⟩) 0 0, .bool false])) (wr.alloc (.cells #[] 2)) :=
 ⟨_, 0, 0, by rw [h], by unfold filledL; rw [if_neg (by rw [h]; simp)]; exact own_empty wr w.heap.size hb.size, hb.alloc hb.size _⟩
theorem pairOF_no {w w' : World} {sg : List Int} {ss : List (List Int)} {t : List Int} (h : filledB sg ss t = false) (hb : Below w.heap.size w w') : AnsPairO w (filledL sg ss t) (filledB sg ss t) (.returned (.tuple #[.slice none 0 0, .bool false])) w' :=
 ⟨none, 0, 0, by rw [h], by unfold filledL; rw [if_neg (by rw [h]; simp)]; exact Own.nil _ _, hb⟩
set_option maxHeartbeats 2000000 in
theorem specFilledO (A S A' : Option Addr) (n c m c' q cq : Nat) (sg : List Int) (ss : List (List Int)) (t : List Int) (w : World) (h : Seg w w.heap.size A n sg) (h' : Segs w w.heap.size S m ss) (h2 : Seg w w.heap.size A' q t) (hn : n ≤ 1048576) (ht : tot ss ≤ 1048576) (hq : q ≤ 1048576) :
  Calls Try.prog 33 #[.agg #[.slice A n c], .agg #[.slice S m c'], .slice A' q cq] w (AnsPairO w (filledL sg ss t) (filledB sg ss t)) := by
 obtain ⟨W, hW, rA, rS, bel⟩ := boxes2 w A n c S m c'
 have HW := hid hW
 have HL := hid h2.1
 have s := h.next bel
 have s1 := h'.next bel
 have s2 := h2.next bel
 have L := hid (specSubstOk A S n c m c' sg ss W s s1 hn ht)
 clear hW h h' h2
 cases hok : substOkB sg ss with
 | false =>
  have HS := hid hok
  clear hok s s1 s2
  go_enter Try.func33, Try.ntmps33
  go_wp2_with fail
  rw [← HW.out]
  refine L.out.mono ?_
  rintro e w1 ⟨he, bb⟩
  rw [HS.out] at he
  subst he
  have bel1 := next_trans bel bb
  have F := hid (pairSF_no (filled_s (t := t) HS.out) bel1)
  clear bb bel bel1 rA rS
  go_wp2
  go_ret2
  exact F.out
 | true =>
  have HS := hid hok
  clear hok
  go_enter Try.func33, Try.ntmps33
  go_wp2_with fail
  rw [← HW.out]
  refine L.out.mono ?_
  rintro e w1 ⟨he, bb⟩
  rw [HS.out] at he
  subst he
  replace s := s.next bb
  replace s1 := s1.next bb
  replace s2 := s2.next bb
  replace rA := rA.next bb
  replace rS := rS.next bb
  replace bel := next_trans bel bb
  have cA : w1.cell? ⟨w.heap.size, 0, none⟩ = some (.slice A n c) := rA.cell 0
  have L2 := hid (specTermOk A A' n c q cq sg t w1 s s2 hn hq)
  clear bb L
  cases hok2 : termOkB sg t with
  | false =>
   have HS2 := hid hok2
   clear hok2 s s1 s2
   go_wp2_with fail
   refine L2.out.mono ?_
   rintro e w2 ⟨he, bb⟩
   rw [HS2.out] at he
   subst he
   have bel1 := next_trans bel bb
   have F := hid (pairSF_no (filled_t (ss := ss) HS2.out) bel1)
   clear bb bel bel1 rA rS cA L2
   go_wp2
   go_ret2
   exact F.out
  | true =>
   have HS2 := hid hok2
   have HV := hid (fun x hx => (term_mem (x := x) hok2 hx).1)
   have H60 : q ≤ 60 := by rw [← HL.out]; exact (term_len hok2).2
   clear hok2
   go_wp2_with fail
   refine L2.out.mono ?_
   rintro e w2 ⟨he, bb⟩
   rw [HS2.out] at he
   subst he
   replace s1 := s1.next bb
   replace s2 := s2.next bb
   replace bel := next_trans bel bb
   have cS : w2.cell? ⟨w.heap.size + 1, 0, none⟩ = some (.slice S m c') := (rS.next bb).cell 0
   have L3 := hid (l2Filled S A' m c' q cq ss t w2 s1 s2 ht H60 HV.out (gives_len HS.out))
   clear bb L2 s1 s2 cA rA rS
   go_wp2_with fail
   refine L3.out.mono ?_
   rintro e w3 ⟨O, on, oc, rfl, ho, bb⟩
   have hsz := bel.size
   have F : AnsPairO w (filledL sg ss t) (filledB sg ss t) (.returned (.tuple #[.slice O on oc, .bool (fitsB ss t)])) w3 :=
    ⟨O, on, oc, by rw [filled_b HS.out HS2.out], by rw [filled_l HS.out HS2.out]; exact Own.lower ho hsz, next_trans bel bb⟩
   have HF := hid F
   clear F ho bb bel L3 cS
   generalize fitsB ss t = z at *
   go_wp2
   go_ret2
   exact HF.out
theorem specFilled (A S A' : Option Addr) (n c m c' q cq : Nat) (sg : List Int) (ss : List (List Int)) (t : List Int) (w : World) (h : Seg w w.heap.size A n sg) (h' : Segs w w.heap.size S m ss) (h2 : Seg w w.heap.size A' q t) (hn : n ≤ 1048576) (ht : tot ss ≤ 1048576) (hq : q ≤ 1048576) :
  Calls Try.prog 33 #[.agg #[.slice A n c], .agg #[.slice S m c'], .slice A' q cq] w (AnsPairS w (filledL sg ss t) (filledB sg ss t)) :=
 (specFilledO A S A' n c m c' q cq sg ss t w h h' h2 hn ht hq).mono fun _ _ ⟨A0, n0, c0, e, ho, hb⟩ => ⟨A0, n0, c0, e, Own.seg ho, hb⟩
set_option maxHeartbeats 4000000 in
theorem implFilled (A S A' : Option Addr) (n c m c' q cq : Nat) (sg : List Int) (ss : List (List Int)) (t : List Int) (w : World) (h : Seg w w.heap.size A n sg) (h' : Segs w w.heap.size S m ss) (h2 : Seg w w.heap.size A' q t) (hn : n ≤ 1048576) (ht : tot ss ≤ 1048576) (hq : q ≤ 1048576) :
  Calls Try.prog 32 #[.agg #[.slice A n c], .agg #[.slice S m c'], .slice A' q cq] w (AnsPairO w (filledL sg ss t) (filledB sg ss t)) := by
 obtain ⟨W, hW, rA, rS, bel⟩ := boxes2 w A n c S m c'
 have HW := hid hW
 have HL := hid h2.1
 have hm : m ≤ 1048576 := tot_len h'.1 ht
 have s := h.next bel
 have s1 := h'.next bel
 have s2 := h2.next bel
 have L := hid (implSubstOk A S n c m c' sg ss W s s1 hn ht)
 clear hW h h' h2
 cases hok : substOkB sg ss with
 | false =>
  have HS := hid hok
  clear hok s s1 s2
  go_enter Try.func32, Try.ntmps32
  go_wp2_with fail
  rw [← HW.out]
  refine L.out.mono ?_
  rintro e w1 ⟨he, bb⟩
  rw [HS.out] at he
  subst he
  have F := hid (pairOF_no (filled_s (t := t) HS.out) (next_trans bel bb))
  clear bb bel rA rS
  go_wp2
  go_ret2
  exact F.out
 | true =>
  have HS := hid hok
  clear hok
  go_enter Try.func32, Try.ntmps32
  go_wp2_with fail
  rw [← HW.out]
  refine L.out.mono ?_
  rintro e w1 ⟨he, bb⟩
  rw [HS.out] at he
  subst he
  replace s := s.next bb
  replace s1 := s1.next bb
  replace s2 := s2.next bb
  replace rA := rA.next bb
  replace rS := rS.next bb
  replace bel := next_trans bel bb
  have cA : w1.cell? ⟨w.heap.size, 0, none⟩ = some (.slice A n c) := rA.cell 0
  have L2 := hid (implTermOk A A' n c q cq sg t w1 s s2 hn hq)
  clear bb L
  cases hok2 : termOkB sg t with
  | false =>
   have HS2 := hid hok2
   clear hok2 s s1 s2
   go_wp2_with fail
   refine L2.out.mono ?_
   rintro e w2 ⟨he, bb⟩
   rw [HS2.out] at he
   subst he
   have F := hid (pairOF_no (filled_t (ss := ss) HS2.out) (next_trans bel bb))
   clear bb bel rA rS cA L2
   go_wp2
   go_ret2
   exact F.out
  | true =>
   have HS2 := hid hok2
   have HV := hid (fun x hx => (term_mem (x := x) hok2 hx).1)
   have H60 : q ≤ 60 := by rw [← HL.out]; exact (term_len hok2).2
   have HG := hid (gives_len HS.out)
   clear hok2
   go_wp2_with fail
   refine L2.out.mono ?_
   rintro e w2 ⟨he, bb⟩
   rw [HS2.out] at he
   subst he
   replace s1 := s1.next bb
   replace s2 := s2.next bb
   replace bel := next_trans bel bb
   have cS : w2.cell? ⟨w.heap.size + 1, 0, none⟩ = some (.slice S m c') := (rS.next bb).cell 0
   clear bb L2 cA rA rS
   go_wp2_with fail
   refine (lookupIn S m c' w2).mono ?_
   rintro e w3 ⟨rfl, hw3⟩
   have b3 : Below w2.heap.size w2 w3 := by rw [hw3]; exact (Below.refl _ _).alloc (Nat.le_refl _) _
   have r3 : Row w3 w2.heap.size 30 #[.slice S m c'] := by rw [hw3]; exact Row.new _ _ _
   replace s1 := s1.next b3
   replace s2 := s2.next b3
   replace bel := next_trans bel b3
   have L3 := hid (fill 79 #[.pointer (some ⟨w2.heap.size, 0, none⟩)] (enters_of Try.func79 (by kernel_rfl) rfl) A' q cq t _ w3 (lookSubst w2.heap.size S m c' ss w3 r3 s1 hm) s2 H60 HV.out (fun i => Nat.le_trans (HG.out i) (by omega)))
   clear hw3 b3 r3 s1 s2 cS
   go_wp2_with fail
   refine L3.out.mono ?_
   rintro e w4 ⟨O, on, oc, rfl, ho, bb⟩
   have hsize := bel.size
   replace bel := next_trans bel bb
   have ho2 := Own.lower ho hsize
   have hlen := Own.len ho
   have hon : on ≤ 245760 := by rw [hlen]; have := fill_bound (L := givesL ss) (t := t) (k := t.length) (fun i => Nat.le_trans (HG.out i) (by omega)) HL.out H60; rwa [List.take_length] at this
   have F : ∀ z : Bool, z = decide (60 < on) → AnsPairO w (filledL sg ss t) (filledB sg ss t) (.returned (.tuple #[.slice (if z then none else O) (if z then 0 else on) (if z then 0 else oc), .bool !z])) w4 := fun z hz => by
    by_cases h60 : 60 < on
    ·rw [decide_eq_true h60] at hz
     subst hz
     exact pairOF_no (by rw [filled_b HS.out HS2.out]; unfold fitsB; rw [← hlen]; simp; omega) bel
    ·rw [decide_eq_false h60] at hz
     subst hz
     have hb : filledB sg ss t = true := by rw [filled_b HS.out HS2.out]; unfold fitsB; rw [← hlen]; simp; omega
     exact ⟨O, on, oc, by rw [hb]; rfl, by unfold filledL; rw [if_pos hb]; exact ho2, bel⟩
   have HF := hid F
   clear F ho ho2 bb bel L3 hlen
   go_wp2_with fail
   refine (tooLong O on oc w4 (by omega)).mono ?_
   rintro e w5 ⟨rfl, rfl⟩
   obtain ⟨z, hz⟩ : ∃ z, decide (60 < on) = z := ⟨_, rfl⟩
   have G := hid (HF.out z hz.symm)
   rw [hz]
   clear HF hz
   cases z
   ·go_wp2
    go_ret2
    exact G.out
   ·go_wp2
    go_ret2
    exact G.out
end filled
end
section
namespace plainFacts
open Go.RowKit base ints sig term termOk termFacts fillMath plainMath plainOf substOk gives sameSubst compMath filled
theorem gives_plain {L : Nat → List Int} {m i : Nat} (hpos : ∀ i, 1 ≤ (L i).length) (hout : ∀ i, m ≤ i → L i = vt i) : givesL (plainL L m) i = L i := by
 have e := plain_get L m i
 by_cases h : i < m
 ·rw [rows_get h] at e
  unfold bare at e
  by_cases h2 : L i = vt i
  ·rw [if_pos h2] at e
   rw [gives_var (by rw [e]; rfl), h2]
  ·rw [if_neg h2] at e
   rw [gives_term (by rw [e]; have := hpos i; omega), e]
 ·have e0 : (rowsL L m).getD i [] = [] := by simp [List.getD, rows_len, h]
  rw [e0] at e
  rw [gives_var (by rw [e]; rfl), hout i (by omega)]
theorem plain_valid {sg : List Int} {L : Nat → List Int} {m : Nat} (hs : sigOkB sg = true) (hm : m ≤ 24) (hok : ∀ i, i < m → termOkB sg (L i) = true) : substOkB sg (plainL L m) = true := by
 have hl := plain_len L m
 refine subst_good hs (by omega) (fun j hj => ?_)
 rw [plain_get, rows_get (by omega)]
 unfold bare goodB
 split
 ·simp
 ·rw [hok j (by omega)]
  simp
theorem comp_gives {sg : List Int} {ss us : List (List Int)} (h : composedB sg ss us = true) (i : Nat) : givesL (composedI sg ss us) i = if i < 24 then compL us ss i else vt i := by
 rw [composed_yes h]
 have hs : substOkB sg ss = true := by unfold composedB at h; simp at h; exact h.1
 have hu : substOkB sg us = true := by unfold composedB at h; simp at h; exact h.2.1
 have e : compL us ss = fun i => compL us ss i := rfl
 have h1 := gives_plain (L := compL us ss) (m := 24) (i := i) (fun j => comp_pos us ss j) (fun j hj => comp_out (by have := (substOk_parts hs).2.1; omega) (by have := (substOk_parts hu).2.1; omega))
 rw [h1]
 split
 ·rfl
 ·rename_i h2
  exact comp_out (by have := (substOk_parts hs).2.1; omega) (by have := (substOk_parts hu).2.1; omega)
theorem comp_ok {sg : List Int} {ss us : List (List Int)} (h : composedB sg ss us = true) : substOkB sg (composedI sg ss us) = true := by
 have hs : substOkB sg ss = true := by unfold composedB at h; simp at h; exact h.1
 have hu : substOkB sg us = true := by unfold composedB at h; simp at h; exact h.2.1
 have hc : compOk us ss = true := by unfold composedB at h; simp at h; exact h.2.2
 rw [composed_yes h]
 refine plain_valid (substOk_parts hs).1 (Nat.le_refl _) (fun i hi => ?_)
 unfold compL
 refine fill_term (gives_ok hs hi) (fun x hx h0 => gives_ok hu ?_) (compOk_iff.1 hc i hi)
 have := term_mem (gives_ok hs hi) hx
 omega
theorem comp_fill {sg : List Int} {ss us : List (List Int)} {t : List Int} (h : composedB sg ss us = true) (ht : termOkB sg t = true) : fillL (givesL (composedI sg ss us)) t = fillL (givesL us) (fillL (givesL ss) t) := by
 rw [fill_fill]
 refine fill_ext (fun x hx h0 => ?_)
 rw [comp_gives h]
 have := term_mem ht hx
 rw [if_pos (by omega)]
 rfl
theorem comp_facts {sg : List Int} {ss us : List (List Int)} {t : List Int} (h : composedB sg ss us = true) (h1 : filledB sg ss t = true) (h2 : filledB sg us (filledL sg ss t) = true) :
  substOkB sg (composedI sg ss us) = true ∧ filledB sg (composedI sg ss us) t = true ∧ filledL sg (composedI sg ss us) t = filledL sg us (filledL sg ss t) := by
 have a1 : termOkB sg t = true := by unfold filledB at h1; simp at h1; exact h1.2.1
 have e1 : filledL sg ss t = fillL (givesL ss) t := by unfold filledL; rw [if_pos h1]
 have e2 : filledL sg us (filledL sg ss t) = fillL (givesL us) (fillL (givesL ss) t) := by unfold filledL; rw [if_pos (by have := h2; unfold filledL at this; exact this), if_pos h1]
 have a2 : fitsB us (filledL sg ss t) = true := by unfold filledB at h2; simp at h2; exact h2.2.2
 have hb : filledB sg (composedI sg ss us) t = true := by
  rw [filled_b (comp_ok h) a1]
  unfold fitsB at a2 ⊢
  rw [comp_fill h a1, ← e1]
  exact a2
 refine ⟨comp_ok h, hb, ?_⟩
 rw [e2]
 unfold filledL
 rw [if_pos hb]
 exact comp_fill h a1
end plainFacts
end
section
namespace maxi
open Go.RowKit base
end maxi
end
section
namespace compSpec
open Go.RowKit base ints sig cursor marks app appAt sym segs segsHelp kinds termFacts fillMath substOk gives shifted filled plainMath plain plainOf compMath maxi
set_option maxRecDepth 100000
def AnsSubB (w : World) (xss : List (List Int)) (b : Bool) (e : Ending) (w' : World) : Prop := ∃ A n c, e = .returned (.tuple #[.agg #[.slice A n c], .bool b]) ∧ Owns w' w.heap.size w'.heap.size A n c xss ∧ Below w.heap.size w w'
theorem subB_no {w w' : World} {sg : List Int} {ss us : List (List Int)} (h : composedB sg ss us = false) (hb : Below w.heap.size w w') : AnsSubB w (composedI sg ss us) (composedB sg ss us) (.returned (.tuple #[.agg #[.slice none 0 0], .bool false])) w' :=
 ⟨none, 0, 0, by rw [h], by rw [composed_no h]; exact Owns.nil _ _ _, hb⟩
theorem boxes4 (w : World) (A : Option Addr) (n c : Nat) (S : Option Addr) (m c' : Nat) (T : Option Addr) (q cq : Nat) : ∃ W, W = (((w.alloc (.cells #[.slice A n c] 32)).alloc (.cells #[.slice S m c'] 30)).alloc (.cells #[.slice T q cq] 30)).alloc (.cells #[.slice none 0 0] 30) ∧
  Row W w.heap.size 32 #[.slice A n c] ∧ Row W (w.heap.size + 1) 30 #[.slice S m c'] ∧ Row W (w.heap.size + 2) 30 #[.slice T q cq] ∧ Row W (w.heap.size + 3) 30 #[.slice none 0 0] ∧ Below w.heap.size w W := by
 obtain ⟨W, hW, r1, r2, b⟩ := boxes2 w A n c S m c'
 have hz : W.heap.size = w.heap.size + 2 := by rw [hW]; simp
 have hz2 : (W.alloc (.cells #[.slice T q cq] 30)).heap.size = w.heap.size + 3 := by simp [hz]
 refine ⟨_, rfl, ?_, ?_, ?_, ?_, ?_⟩
 ·rw [← hW]; exact (r1.alloc _).alloc _
 ·rw [← hW]; exact (r2.alloc _).alloc _
 ·rw [← hW, ← hz]; exact (Row.new _ _ _).alloc _
 ·rw [← hW, ← hz2]; exact Row.new _ _ _
 ·rw [← hW]; exact (b.alloc b.size _).alloc (by simp; have := b.size; omega) _
end compSpec
end
section
open List (setIfInBounds_toArray set_cons_zero set_cons_succ getElem_toArray getElem_cons_zero getElem_cons_succ)
namespace thn
open Go.RowKit base ints cursor marks app sym segs fillMath Go.Proofs.Ytghgnondlgdjdaa.look
set_option maxRecDepth 100000
def LooksE (x : Option Nat) (g : Nat) (lb : Array Value) (w : World) (L : Nat → List Int) (N : Nat) : Prop :=
 ∀ (W : World) (i : Nat), w.grownBy W x → i < N → Calls Try.prog g (#[.int .i64 (i : Int)] ++ lb) W (AnsLook w.heap.size W (L i))
section
variable {x : Option Nat} {g : Nat} {lb : Array Value} {w w' : World} {L L' : Nat → List Int} {N : Nat}
theorem LooksE.next (h : LooksE x g lb w L N) (hg : w.grownBy w' x) : LooksE x g lb w' L N :=
 fun W i hW hi => (h W i (grown_trans hg hW) hi).mono fun _ _ ⟨A, n, c, he, h1, h2, h3, h4⟩ => ⟨A, n, c, he, h1, h2, fun k hk => by have := h3 k hk; have := hg.size; omega, h4⟩
theorem LooksE.looks (h : LooksE x g lb w L N) : Looks g lb w L N := fun W i hW hi => h W i (grown_below hW x) hi
theorem grown_drew {a b : World} {r : Option Nat} (h : a.grownBy b r) : a.grownBy b.drew r := ⟨h.os, h.tape, h.output, h.size, h.block⟩
end
theorem lookThen (x : Option Nat) (b1 b2 g1 g2 : Nat) (lb1 lb2 : Array Value) (e1 : ∀ args w, (callFunc g1 args).run Try.prog w = .ok (.enter g1 args) w) (e2 : ∀ args w, (callFunc g2 args).run Try.prog w = .ok (.enter g2 args) w) (L1 L2 : Nat → List Int) (w : World)
  (z1 : b1 < w.heap.size) (z2 : b2 < w.heap.size) (n1 : x ≠ some b1) (n2 : x ≠ some b2) (c1 : w.cell? ⟨b1, 0, none⟩ = some (.func (.func g1) #[] lb1)) (c2 : w.cell? ⟨b2, 0, none⟩ = some (.func (.func g2) #[] lb2))
  (h1 : LooksE x g1 lb1 w L1 24) (h2 : LooksE x g2 lb2 w L2 24) (hl1 : ∀ i, i < 24 → (L1 i).length ≤ 60) (hv : ∀ i, i < 24 → ∀ y ∈ L1 i, -24 ≤ y) (hl2 : ∀ i, (L2 i).length ≤ 4096) :
  LooksE x 83 #[.pointer (some ⟨b2, 0, none⟩), .pointer (some ⟨b1, 0, none⟩)] w (fun i => fillL L2 (L1 i)) 24 := by
 intro W i hb hi
 have hsz := hb.size
 have p1 : W.cell? ⟨b1, 0, none⟩ = some (.func (.func g1) #[] lb1) := hb.cell c1 (fun e => n1 e.symm)
 have p2 : W.cell? ⟨b2, 0, none⟩ = some (.func (.func g2) #[] lb2) := hb.cell c2 (fun e => n2 e.symm)
 have HL1 := Lib.hid (h1 W.drew i (grown_drew hb) hi)
 have LU := (h2.next (grown_drew hb)).looks
 have h60 := Lib.hid (hl1 i hi)
 have HV := Lib.hid (hv i hi)
 have hM2 := Lib.hid hl2
 clear hb z1 z2 c1 c2 h1 h2 hl1 hv hl2
 show Calls Try.prog 83 #[.int .i64 (i : Int), .pointer (some ⟨b2, 0, none⟩), .pointer (some ⟨b1, 0, none⟩)] W _
 go_enter Try.func83, Try.ntmps83
 go_wp2_with fail
 refine wp_region_held_drew (S := (fun w' => w'.cell? ⟨b1, 0, none⟩ = some (.func (.func g1) #[] lb1) ∧ w'.cell? ⟨b2, 0, none⟩ = some (.func (.func g2) #[] lb2))) (by kernel_rfl) ⟨p1, p2⟩ (fun hHeld => ?_)
 refine wpAnyH_take (i := 0) (v := ?_) rfl (by kernel_rfl) (by kernel_rfl) (by kernel_rfl) (fun _ _ _ h => h) (Or.inl ⟨by rfl, ?_⟩) (by assumption) ?_
 rotate_left 1
 ·(intro w0 hSw; (try dsimp only at hSw); go_simp; try with_reducible rfl)
 try simp only [Act.put, setIfInBounds_toArray, set_cons_zero, set_cons_succ, getElem_toArray, getElem_cons_zero, getElem_cons_succ]
 refine wpAnyH_take (i := 1) (v := ?_) rfl (by kernel_rfl) (by kernel_rfl) (by kernel_rfl) (fun _ _ _ h => h) (Or.inl ⟨by rfl, ?_⟩) (by assumption) ?_
 rotate_left 1
 ·(intro w0 hSw; (try dsimp only at hSw); go_simp; try with_reducible rfl)
 try simp only [Act.put, setIfInBounds_toArray, set_cons_zero, set_cons_succ, getElem_toArray, getElem_cons_zero, getElem_cons_succ]
 refine wpAnyH_take (i := 2) (v := ?_) rfl (by kernel_rfl) (by kernel_rfl) (by kernel_rfl) (fun _ _ _ h => h) (Or.inl ⟨by rfl, ?_⟩) (by assumption) ?_
 rotate_left 1
 ·(intro w0 hSw; (try dsimp only at hSw); go_simp; try with_reducible rfl)
 try simp only [Act.put, setIfInBounds_toArray, set_cons_zero, set_cons_succ, getElem_toArray, getElem_cons_zero, getElem_cons_succ]
 refine wpAnyH_ready (rs := [3]) (by kernel_rfl) (by simp) (AllReadyH.cons rfl (fun K hK => ?_) AllReadyH.nil)
 go_simp
 refine HL1.out.mono ?_; rintro e w3 ⟨X, xn, xc, rfl, s1, -, -, b1'⟩; have x1 : w3.cell? ⟨b1, 0, none⟩ = some (.func (.func g1) #[] lb1) := (b1'.cell (p := ⟨b1, 0, none⟩) (World.block_lt_of_cell? _ _ p1)).trans p1; have x2 : w3.cell? ⟨b2, 0, none⟩ = some (.func (.func g2) #[] lb2) := (b1'.cell (p := ⟨b2, 0, none⟩) (World.block_lt_of_cell? _ _ p2)).trans p2; go_wp2_with fail
 refine hK.out _ _ ?_ (fun hHeld => ?_)
 ·first | assumption | (dsimp only; assumption) | exact ⟨by assumption, by assumption⟩
 clear hK K
 try simp only [Act.put, setIfInBounds_toArray, set_cons_zero, set_cons_succ, getElem_toArray, getElem_cons_zero, getElem_cons_succ]
 refine wpAnyH_ready (rs := [4]) (by kernel_rfl) (by simp) (AllReadyH.cons rfl (fun K hK => ?_) AllReadyH.nil)
 go_simp
 refine (fill g2 lb2 e2 X xn xc (L1 i) L2 w3 (LU.next b1') s1 (by rw [← s1.1]; exact h60.out) HV.out hM2.out).mono ?_; rintro e w4 ⟨Y, yn, yc, rfl, oy, b2'⟩; have y1 := (b2'.cell (p := ⟨b1, 0, none⟩) (World.block_lt_of_cell? _ _ x1)).trans x1; have y2 := (b2'.cell (p := ⟨b2, 0, none⟩) (World.block_lt_of_cell? _ _ x2)).trans x2; go_wp2_with fail
 refine hK.out _ _ ?_ (fun hHeld => ?_)
 ·first | assumption | (dsimp only; assumption) | exact ⟨by assumption, by assumption⟩
 clear hK K
 try simp only [Act.put, setIfInBounds_toArray, set_cons_zero, set_cons_succ, getElem_toArray, getElem_cons_zero, getElem_cons_succ]
 refine wpAnyH_take (i := 5) (v := ?_) rfl (by kernel_rfl) (by kernel_rfl) (by kernel_rfl) (fun _ _ _ h => h) (Or.inl ⟨by rfl, ?_⟩) (by assumption) ?_
 rotate_left 1
 ·(intro w0 hSw; (try dsimp only at hSw); go_simp; try with_reducible rfl)
 try simp only [Act.put, setIfInBounds_toArray, set_cons_zero, set_cons_succ, getElem_toArray, getElem_cons_zero, getElem_cons_succ]
 refine wpAnyH_done (by kernel_rfl) ?_ _
 have F : AnsLook w.heap.size W (fillL L2 (L1 i)) (.returned (.slice Y yn yc)) w4 :=
  look_new (w := W) (Own.lower oy (show W.drew.heap.size ≤ w3.heap.size from b1'.size)) (next_trans ((Below.refl _ _).drew : Below W.heap.size W W.drew) (next_trans b1' b2'))
 have HF := Lib.hid F
 clear F oy s1 b1' b2' HL1 LU p1 p2 x1 x2
 go_wp2
 go_ret
 exact HF.out
theorem thenC (g1 g2 : Nat) (lb1 lb2 : Array Value) (w : World) :
  Calls Try.prog 59 #[.func (.func g1) #[] lb1, .func (.func g2) #[] lb2] w fun e w' => e = .returned (.func (.func 83) #[] #[.pointer (some ⟨w.heap.size + 1, 0, none⟩), .pointer (some ⟨w.heap.size, 0, none⟩)]) ∧ w' = (w.alloc (.cells #[.func (.func g1) #[] lb1] 66)).alloc (.cells #[.func (.func g2) #[] lb2] 66) := by
 have hmf : ∀ (fn : Fn) (first cap : Array Value) (w : World), (Instr.makeFunc fn first cap).run Try.prog w = .ok (.func fn first cap) w := fun _ _ _ _ => rfl
 go_enter Try.func59, Try.ntmps59
 go_wp2
 go_ret
 exact ⟨rfl, rfl⟩
end thn
end
section
open Go.Lib (hid)
namespace compImpl
open Go.RowKit base ints sig cursor marks app appAt sym segs segsHelp kinds termFacts fillMath Go.Proofs.Ytghgnondlgdjdaa.look substOk gives shifted filled plainMath plain plainOf compMath compSpec thn
set_option maxRecDepth 100000
def AnsIdx (w : World) (xss : List (List Int)) (e : Ending) (w' : World) : Prop := w = w' ∧ ∃ z : Int, e = .returned (.int .i64 z) ∧ -1 ≤ z ∧ z ≤ 1048576 ∧ decide (0 ≤ z) = anyLong xss
def HeadIdx (w : World) (n : Nat) (xss : List (List Int)) (i : Value) (wr : World) : Prop := ∃ k : Nat, k ≤ n ∧ i = .int .i64 k ∧ (∀ j, j < k → ¬ 60 < (xss.getD j []).length) ∧ w = wr
set_option maxHeartbeats 2000000 in
theorem indexLong (A : Option Addr) (n c : Nat) (xss : List (List Int)) (w : World) (h : Segs w w.heap.size A n xss) (hn : n ≤ 1048576) (hE : ∀ j, (xss.getD j []).length ≤ 1048576) :
  Calls Try.prog 84 #[.slice A n c, .func (.func 61) #[] #[]] w (AnsIdx w xss) := by
 have HE := hid hE
 have HL := hid h.1
 have HH : Hid (HeadIdx w n xss (.int .i64 0) w) := hid ⟨0, Nat.zero_le _, rfl, fun j hj => absurd hj (Nat.not_lt_zero _), rfl⟩
 clear hE
 go_enter Try.func84, Try.ntmps84
 go_wp2_with fail
 go_loopw [8] (fun i wr => HeadIdx w n xss i wr) (fun i _ => n - (intOf i).toNat)
 case atStart => exact HH.out
 case round =>
  obtain ⟨k, hk, rfl, hlow, rfl⟩ := hrel
  have HLOW := hid hlow
  clear hlow HH
  by_cases hlt : k < n
  ·obtain ⟨b, off, A', n', cc, rfl, hbB, hx, hseg, hcap⟩ := h.spot hlt
   have hn' : n' ≤ 1048576 := by rw [← hseg.1]; exact HE.out k
   have HG := hid hseg.1
   have i0 : (0 : Int) ≤ (k : Int) := by omega
   have i1 : (k : Int) < (n : Int) := by omega
   clear hseg hcap h
   go_wp2_with fail
   refine (tooLong A' n' cc w (by omega)).mono ?_
   rintro e w' ⟨rfl, rfl⟩
   by_cases h60 : 60 < n'
   ·rw [decide_eq_true h60]
    have F : AnsIdx w xss (.returned (.int .i64 (k : Int))) w := ⟨rfl, k, rfl, by omega, by omega, by rw [decide_eq_true (by omega)]; exact (anyLong_iff.2 ⟨k, by rw [HG.out]; exact h60⟩).symm⟩
    have HF := hid F
    clear F hx
    go_wp2
    go_ret
    exact HF.out
   ·rw [decide_eq_false h60]
    have S1 : HeadIdx w n xss (.int .i64 ((k : Int) + 1)) w := ⟨k + 1, hlt, by simp, fun j hj => by
     by_cases e : j = k
     ·rw [e, HG.out]; exact h60
     ·exact HLOW.out j (by omega), rfl⟩
    have HS1 := hid S1
    clear S1 hx
    go_wp2
    go_roundw
    case rel => exact HS1.out
    case measure => simp [intOf]; omega
  ·have F : AnsIdx w xss (.returned (.int .i64 (-1))) w := ⟨rfl, -1, rfl, by omega, by omega, by
    cases e : anyLong xss with
    | false => rfl
    | true =>
     obtain ⟨i, hi⟩ := anyLong_iff.1 e
     by_cases hin : i < n
     ·exact absurd hi (HLOW.out i (by omega))
     ·rw [show xss.getD i [] = [] by simp [List.getD, HL.out, hin]] at hi
      simp at hi⟩
   have HF := hid F
   clear F h
   go_wp2
   go_ret
   exact HF.out
theorem containsLong (A : Option Addr) (n c : Nat) (xss : List (List Int)) (w : World) (h : Segs w w.heap.size A n xss) (hn : n ≤ 1048576) (hE : ∀ j, (xss.getD j []).length ≤ 1048576) :
  Calls Try.prog 60 #[.slice A n c, .func (.func 61) #[] #[]] w fun e w' => w = w' ∧ e = .returned (.bool (anyLong xss)) := by
 have L := hid (indexLong A n c xss w h hn hE)
 clear h hE
 go_enter Try.func60, Try.ntmps60
 go_wp2_with fail
 refine L.out.mono ?_
 rintro e w' ⟨rfl, z, rfl, h1, h2, hz⟩
 have HZ := hid hz
 clear hz L
 go_wp2
 go_ret
 exact ⟨rfl, by rw [← HZ.out]; rfl⟩
theorem lookBoth (b1 b2 l1 l2 : Nat) (S : Option Addr) (m c : Nat) (T : Option Addr) (q cq : Nat) (sg : List Int) (ss us : List (List Int)) (w wx : World) (hok : substOkB sg ss = true) (hok2 : substOkB sg us = true) (hb : Below w.heap.size w wx) (h : Segs w w.heap.size S m ss) (h' : Segs w w.heap.size T q us)
  (c1 : wx.cell? ⟨b1, 0, none⟩ = some (.func (.func 79) #[] #[.pointer (some ⟨l1, 0, none⟩)])) (c2 : wx.cell? ⟨b2, 0, none⟩ = some (.func (.func 79) #[] #[.pointer (some ⟨l2, 0, none⟩)]))
  (k1 : wx.cell? ⟨l1, 0, none⟩ = some (.slice S m c)) (k2 : wx.cell? ⟨l2, 0, none⟩ = some (.slice T q cq)) :
  Calls Try.prog 54 #[.func (.func 83) #[] #[.pointer (some ⟨b2, 0, none⟩), .pointer (some ⟨b1, 0, none⟩)]] wx (fun e w' => ∃ O on oc, e = .returned (.agg #[.slice O on oc]) ∧ Owns w' wx.heap.size w'.heap.size O on oc (plainL (compL us ss) 24) ∧ Below wx.heap.size wx w' ∧ Below w.heap.size w wx) := by
 have m24 : m ≤ 1048576 := by have := (substOk_parts hok).2.1; rw [h.1] at this; omega
 have q24 : q ≤ 1048576 := by have := (substOk_parts hok2).2.1; rw [h'.1] at this; omega
 have eq := enters_of Try.func79 (by kernel_rfl) rfl
 have no : ∀ {g : Nat} {lb : Array Value} {L : Nat → List Int}, Looks g lb wx L 24 → LooksE none g lb wx L 24 := fun h W i hg hi => h W i ⟨hg.os, hg.tape, hg.output, hg.size, fun k hk => hg.block k hk (by simp)⟩ hi
 have LK := lookThen none b1 b2 _ _ _ _ eq eq (givesL ss) (givesL us) wx (World.block_lt_of_cell? _ _ c1) (World.block_lt_of_cell? _ _ c2) (by simp) (by simp) c1 c2
  (no (lookSubstC l1 S m c ss wx (World.block_lt_of_cell? _ _ k1) k1 (h.next hb) m24)) (no (lookSubstC l2 T q cq us wx (World.block_lt_of_cell? _ _ k2) k2 (h'.next hb) q24)) (fun i _ => gives_len hok i) (fun i hi y hy => (term_mem (x := y) (gives_ok hok hi) hy).1) (fun i => Nat.le_trans (gives_len hok2 i) (by omega))
 exact (plain 83 _ (enters_of Try.func83 (by kernel_rfl) rfl) (compL us ss) wx LK.looks (comp_pos us ss) (fun i => Nat.le_trans (comp_len hok hok2 i) (by omega))).mono fun _ _ ⟨O, on, oc, e1, e2, e3⟩ => ⟨O, on, oc, e1, e2, e3, hb⟩
def Got (w : World) (F : List (List Int)) (p : Value) (wx : World) : Prop :=
 ∃ (b : Nat) (O : Option Addr) (on oc : Nat), p = .pointer (some ⟨b, 0, none⟩) ∧ Row wx b 30 #[.slice O on oc] ∧ Owns wx w.heap.size wx.heap.size O on oc F ∧ w.heap.size ≤ b ∧ Below w.heap.size w wx
theorem got_after {w w1 w2 : World} {F : List (List Int)} {O : Option Addr} {on oc : Nat} (b1 : Below w.heap.size w w1) (ho : Owns w2 w1.heap.size w2.heap.size O on oc F) (b2 : Below w1.heap.size w1 w2) : Got w F (.pointer (some ⟨w2.heap.size, 0, none⟩)) (w2.alloc (.cells #[.slice O on oc] 30)) :=
 have B : Below w2.heap.size w2 (w2.alloc (.cells #[.slice O on oc] 30)) := (Below.refl _ _).alloc (Nat.le_refl _) _
 ⟨_, O, on, oc, rfl, Row.new _ _ _, (ho.next B).wider b1.size (by simp), Nat.le_trans b1.size b2.size, next_trans b1 (next_trans b2 B)⟩
theorem got_ahead {w w1 w2 : World} {F : List (List Int)} {O : Option Addr} {on oc b : Nat} (b1 : Below w.heap.size w w1) (hb : w.heap.size ≤ b) (r2 : Row w2 b 30 #[.slice none 0 0]) (hlt : b < w1.heap.size) (ho : Owns w2 w1.heap.size w2.heap.size O on oc F) (b2 : Below w1.heap.size w1 w2) : Got w F (.pointer (some ⟨b, 0, none⟩)) (w2.setCell ⟨b, 0, none⟩ (.slice O on oc)) :=
 ⟨b, O, on, oc, rfl, by have := r2.put 0 (.slice O on oc); simpa using this, (owns_put ho r2 hlt 0 _).wider b1.size (by simp), hb, (next_trans b1 b2).setCell hb _⟩
theorem sz_alloc (w : World) (o : Obj) : (w.alloc o).heap.size = w.heap.size + 1 := by simp
theorem sz_drew (w : World) : w.drew.heap.size = w.heap.size := rfl
theorem row_top {w : World} {t : TypeId} {cs : Array Value} {n : Nat} (hn : n = w.heap.size) : Row (w.alloc (.cells cs t)) n t cs := by subst hn; exact Row.new _ _ _
theorem row_alloc {w : World} {o : Obj} {t : TypeId} {cs : Array Value} {n : Nat} (h : Row w n t cs) : Row (w.alloc o) n t cs := h.alloc o
theorem row_drew {w : World} {t : TypeId} {cs : Array Value} {n : Nat} (h : Row w n t cs) : Row w.drew n t cs := h.drew
theorem keep_alloc {w : World} {a : Addr} {v : Value} {o : Obj} (h : w.cell? a = some v) : (w.alloc o).cell? a = some v := (World.cell?_alloc_some w a o (by rw [h]; rfl)).trans h
theorem cell_top {w : World} {v : Value} {t : TypeId} {n : Nat} (hn : n = w.heap.size) : (w.alloc (.cells #[v] t)).cell? ⟨n, 0, none⟩ = some v := by subst hn; simp
theorem keep_set {w : World} {p a : Addr} {u v : Value} (hne : p.block ≠ a.block) (h : w.cell? a = some v) : (w.setCell p u).cell? a = some v := (World.cell?_setCell_far w p a u hne).trans h
set_option maxHeartbeats 8000000 in
theorem implComposed (A S T : Option Addr) (n c m c' q cq : Nat) (sg : List Int) (ss us : List (List Int)) (w : World) (h : Seg w w.heap.size A n sg) (h' : Segs w w.heap.size S m ss) (h2 : Segs w w.heap.size T q us) (hn : n ≤ 1048576) (ht : tot ss ≤ 1048576) (ht2 : tot us ≤ 1048576) :
  Calls Try.prog 23 #[.agg #[.slice A n c], .agg #[.slice S m c'], .agg #[.slice T q cq]] w (AnsSubB w (composedI sg ss us) (composedB sg ss us)) := by
 obtain ⟨W, hW, rA, r1, r2, r3, bel⟩ := boxes4 w A n c S m c' T q cq
 have HW := hid hW
 have HT2 := hid ht2
 have s := h.next bel
 have s1 := h'.next bel
 have s2 := h2.next bel
 have L := hid (implSubstOk A S n c m c' sg ss W s s1 hn ht)
 clear hW ht ht2 h h' h2
 cases hok : substOkB sg ss with
 | false =>
  have HS := hid hok
  clear hok s s1 s2
  go_enter Try.func23, Try.ntmps23
  go_wp2_with fail
  rw [← HW.out]
  refine L.out.mono ?_
  rintro e w1 ⟨he, bb⟩
  rw [HS.out] at he
  subst he
  replace r3 := r3.next bb
  replace bel := next_trans bel bb
  have cR : w1.cell? ⟨w.heap.size + 3, 0, none⟩ = some (.slice none 0 0) := r3.cell 0
  have fR : w1.frozen? ⟨w.heap.size + 3, 0, none⟩ = false := r3.free 0
  have F1 := hid (subB_no (sg := sg) (ss := ss) (us := us) (composed_s HS.out) bel)
  have F2 := hid (subB_no (sg := sg) (ss := ss) (us := us) (composed_s HS.out) ((bel).setCell (p := ⟨w.heap.size + 3, 0, none⟩) (by simp) (.slice none 0 0)))
  clear bb bel rA r1 r2 r3
  go_wp2
  first
   | exact bodyPost_ret (v := .tuple #[.agg #[.slice none 0 0], .bool false]) (by simp [results, Try.results23, go_sem, cR]) rfl F1.out
   | exact bodyPost_ret (v := .tuple #[.agg #[.slice none 0 0], .bool false]) (by simp [results, Try.results23, go_sem, cR]) rfl F2.out
 | true =>
  have HS := hid hok
  clear hok
  have hmf : ∀ (fn : Fn) (first cap : Array Value) (w : World), (Instr.makeFunc fn first cap).run Try.prog w = .ok (.func fn first cap) w := fun _ _ _ _ => rfl
  go_enter Try.func23, Try.ntmps23
  go_wp2_with fail
  rw [← HW.out]
  refine L.out.mono ?_
  rintro e w1 ⟨he, bb⟩
  rw [HS.out] at he
  subst he
  replace s := s.next bb
  replace s1 := s1.next bb
  replace s2 := s2.next bb
  replace rA := rA.next bb
  replace r1 := r1.next bb
  replace r2 := r2.next bb
  replace r3 := r3.next bb
  replace bel := next_trans bel bb
  have cA : w1.cell? ⟨w.heap.size, 0, none⟩ = some (.slice A n c) := rA.cell 0
  have cT : w1.cell? ⟨w.heap.size + 2, 0, none⟩ = some (.slice T q cq) := r2.cell 0
  have L2 := hid (implSubstOk A T n c q cq sg us w1 s s2 hn HT2.out)
  clear bb L rA
  cases hok2 : substOkB sg us with
  | false =>
   have HS2 := hid hok2
   clear hok2 s s1 s2
   go_wp2_with fail
   refine L2.out.mono ?_
   rintro e w2 ⟨he, bb⟩
   rw [HS2.out] at he
   subst he
   replace r3 := r3.next bb
   replace bel := next_trans bel bb
   have cR : w2.cell? ⟨w.heap.size + 3, 0, none⟩ = some (.slice none 0 0) := r3.cell 0
   have fR : w2.frozen? ⟨w.heap.size + 3, 0, none⟩ = false := r3.free 0
   have F1 := hid (subB_no (sg := sg) (ss := ss) (us := us) (composed_u HS2.out) bel)
   have F2 := hid (subB_no (sg := sg) (ss := ss) (us := us) (composed_u HS2.out) ((bel).setCell (p := ⟨w.heap.size + 3, 0, none⟩) (by simp) (.slice none 0 0)))
   clear bb bel r1 r2 r3 cA cT L2 hmf
   go_wp2
   first
    | exact bodyPost_ret (v := .tuple #[.agg #[.slice none 0 0], .bool false]) (by simp [results, Try.results23, go_sem, cR]) rfl F1.out
    | exact bodyPost_ret (v := .tuple #[.agg #[.slice none 0 0], .bool false]) (by simp [results, Try.results23, go_sem, cR]) rfl F2.out
  | true =>
   have HS2 := hid hok2
   clear hok2
   go_wp2_with fail
   refine L2.out.mono ?_
   rintro e w2 ⟨he, bb⟩
   rw [HS2.out] at he
   subst he
   replace s1 := s1.next bb
   replace s2 := s2.next bb
   replace r1 := r1.next bb
   replace r2 := r2.next bb
   replace r3 := r3.next bb
   replace bel := next_trans bel bb
   clear bb L2 cA cT s
   have cS : w2.cell? ⟨w.heap.size + 1, 0, none⟩ = some (.slice S m c') := r1.cell 0
   have cT : w2.cell? ⟨w.heap.size + 2, 0, none⟩ = some (.slice T q cq) := r2.cell 0
   have z1 := r1.lt
   have z2 := r2.lt
   clear r1 r2
   go_wp2_with fail
   have LKB := hid (fun (wx : World) (b1 b2 l1 l2 : Nat) (hb : Below w2.heap.size w2 wx) => lookBoth b1 b2 l1 l2 S m c' T q cq sg ss us w2 wx HS.out HS2.out hb s1 s2)
   go_cut [8] (fun p8 wx => Got w2 (plainL (compL us ss) 24) p8 wx)
   case first =>
    clear bel r3 s1 s2
    go_region_held3 (fun w' => w'.cell? ⟨w.heap.size + 1, 0, none⟩ = some (.slice S m c') ∧ w'.cell? ⟨w.heap.size + 2, 0, none⟩ = some (.slice T q cq))
     (((try simp only [World.cell?_drew]); (refine ⟨?_, ?_⟩ <;> (repeat (first | assumption | (with_reducible apply keep_alloc) | (refine keep_set (by first | (simp only [sz_alloc, sz_drew]; omega) | (simp; done) | (simp; omega)) ?_))))))
     (first
      | (go_at_call 53; refine (lookupIn _ _ _ _).mono ?_; rintro e w3 ⟨rfl, rfl⟩)
      | (go_at_call 59; refine (thenC _ _ _ _ _).mono ?_; rintro e w3 ⟨rfl, rfl⟩)
      | (go_at_call 54; refine (LKB.out _ _ _ ?_ ?_ ?_ ?_ ?_ ?_ ?_).mono ?_; rotate_left 3; (focus (simp only [World.cell?_drew]; (repeat (first | ((with_reducible refine cell_top ?_); (simp only [sz_alloc, sz_drew]; done)) | (with_reducible refine keep_alloc ?_))))); (focus (simp only [World.cell?_drew]; (repeat (first | ((with_reducible refine cell_top ?_); (simp only [sz_alloc, sz_drew]; done)) | (with_reducible refine keep_alloc ?_))))); (focus (simp only [World.cell?_drew]; (repeat (first | ((with_reducible refine cell_top ?_); (simp only [sz_alloc, sz_drew]; done)) | (with_reducible refine keep_alloc ?_))))); (focus (simp only [World.cell?_drew]; (repeat (first | ((with_reducible refine cell_top ?_); (simp only [sz_alloc, sz_drew]; done)) | (with_reducible refine keep_alloc ?_))))); rotate_right 1; (focus (repeat (first | (with_reducible exact Below.refl _ _) | (with_reducible refine Below.drew ?_) | (with_reducible refine Below.alloc ?_ (by first | omega | (simp only [sz_alloc, sz_drew]; omega)) _)))); rintro e w4 ⟨O, on, oc, rfl, ho, b4, hbx⟩; have y1 : w4.cell? ⟨w.heap.size + 1, 0, none⟩ = some (.slice S m c') := (b4.cell (p := ⟨w.heap.size + 1, 0, none⟩) (by first | omega | (simp only [sz_alloc, sz_drew]; omega))).trans (by simp only [World.cell?_drew]; repeat (first | exact cS | (with_reducible apply keep_alloc))); have y2 : w4.cell? ⟨w.heap.size + 2, 0, none⟩ = some (.slice T q cq) := (b4.cell (p := ⟨w.heap.size + 2, 0, none⟩) (by first | omega | (simp only [sz_alloc, sz_drew]; omega))).trans (by simp only [World.cell?_drew]; repeat (first | exact cT | (with_reducible apply keep_alloc))); (try (obtain ⟨q4, -⟩ : Row w4 (w2.heap.size) 30 #[.slice none 0 0] ∧ True; (focus ((refine ⟨Go.Proofs.Ytghgnondlgdjdaa.base.Row.next ?_ b4, trivial⟩); (repeat (first | ((with_reducible refine row_top ?_); (simp only [sz_alloc, sz_drew]; done)) | (with_reducible refine row_drew ?_) | (with_reducible refine row_alloc ?_))); done)); have y3 : w4.cell? ⟨w2.heap.size, 0, none⟩ = some (.slice none 0 0) := q4.cell 0; have y4 : w4.frozen? ⟨w2.heap.size, 0, none⟩ = false := q4.free 0)); (try (obtain ⟨q4, -⟩ : Row w4 (w2.heap.size + 1) 30 #[.slice none 0 0] ∧ True; (focus ((refine ⟨Go.Proofs.Ytghgnondlgdjdaa.base.Row.next ?_ b4, trivial⟩); (repeat (first | ((with_reducible refine row_top ?_); (simp only [sz_alloc, sz_drew]; done)) | (with_reducible refine row_drew ?_) | (with_reducible refine row_alloc ?_))); done)); have y3 : w4.cell? ⟨w2.heap.size + 1, 0, none⟩ = some (.slice none 0 0) := q4.cell 0; have y4 : w4.frozen? ⟨w2.heap.size + 1, 0, none⟩ = false := q4.free 0)); (try (obtain ⟨q4, -⟩ : Row w4 (w2.heap.size + 1 + 1) 30 #[.slice none 0 0] ∧ True; (focus ((refine ⟨Go.Proofs.Ytghgnondlgdjdaa.base.Row.next ?_ b4, trivial⟩); (repeat (first | ((with_reducible refine row_top ?_); (simp only [sz_alloc, sz_drew]; done)) | (with_reducible refine row_drew ?_) | (with_reducible refine row_alloc ?_))); done)); have y3 : w4.cell? ⟨w2.heap.size + 1 + 1, 0, none⟩ = some (.slice none 0 0) := q4.cell 0; have y4 : w4.frozen? ⟨w2.heap.size + 1 + 1, 0, none⟩ = false := q4.free 0)); (try (obtain ⟨q4, -⟩ : Row w4 (w2.heap.size + 1 + 1 + 1 + 1) 30 #[.slice none 0 0] ∧ True; (focus ((refine ⟨Go.Proofs.Ytghgnondlgdjdaa.base.Row.next ?_ b4, trivial⟩); (repeat (first | ((with_reducible refine row_top ?_); (simp only [sz_alloc, sz_drew]; done)) | (with_reducible refine row_drew ?_) | (with_reducible refine row_alloc ?_))); done)); have y3 : w4.cell? ⟨w2.heap.size + 1 + 1 + 1 + 1, 0, none⟩ = some (.slice none 0 0) := q4.cell 0; have y4 : w4.frozen? ⟨w2.heap.size + 1 + 1 + 1 + 1, 0, none⟩ = false := q4.free 0)); all_goals skip))
    all_goals
     go_wp2_with fail
     go_meet
     first
      | exact got_after hbx ho b4
      | exact got_ahead hbx (by omega) q4 (by simp only [sz_alloc, sz_drew]; omega) ho b4
   case rest =>
    rename World => wc
    obtain ⟨b, O, on, oc, rfl, rb, ho, hwb, b4⟩ := hcut
    have HE := hid (plain_each (L := compL us ss) (m := 24) (comp_len HS.out HS2.out))
    have HLN := hid (plain_len (compL us ss) 24)
    have AL := hid (anyLong_comp us ss)
    have CB := hid (composed_b HS.out HS2.out)
    have r4 := r3.next b4
    have hlt3 := r3.lt
    have bel5 := next_trans bel b4
    have hon : on ≤ 24 := by rw [← ho.len]; exact HLN.out
    have LC := hid (containsLong O on oc (plainL (compL us ss) 24) wc ho.segs (by omega) (fun j => Nat.le_trans (HE.out j) (by omega)))
    have cR : wc.cell? ⟨w.heap.size + 3, 0, none⟩ = some (.slice none 0 0) := r4.cell 0
    have fR : wc.frozen? ⟨w.heap.size + 3, 0, none⟩ = false := r4.free 0
    have cO : wc.cell? ⟨b, 0, none⟩ = some (.slice O on oc) := rb.cell 0
    have F1 := hid (fun hno : composedB sg ss us = false => subB_no hno bel5)
    have F2 := hid (fun hno : composedB sg ss us = false => subB_no hno (bel5.setCell (p := ⟨w.heap.size + 3, 0, none⟩) (by simp) (.slice none 0 0)))
    have F3 : Hid (composedB sg ss us = true → AnsSubB w (composedI sg ss us) (composedB sg ss us) (.returned (.tuple #[.agg #[.slice O on oc], .bool true])) (wc.setCell ⟨w.heap.size + 3, 0, none⟩ (.slice O on oc))) :=
     hid fun hyes => ⟨O, on, oc, by rw [hyes], by rw [composed_yes hyes]; have hwc := bel.size; exact (owns_put ho r4 hlt3 0 _).wider hwc (by simp), bel5.setCell (by simp) _⟩
    clear r3 r4 ho b4 bel bel5 rb LKB
    go_wp2_with fail
    refine LC.out.mono ?_
    rintro e w6 ⟨rfl, rfl⟩
    rw [AL.out]
    cases hc : compOk us ss with
    | false =>
     have hno : composedB sg ss us = false := CB.out.trans hc
     have G1 := hid (F1.out hno)
     have G2 := hid (F2.out hno)
     clear hc hno F1 F2 F3 LC
     go_wp2
     first
      | exact bodyPost_ret (v := .tuple #[.agg #[.slice none 0 0], .bool false]) (by simp [results, Try.results23, go_sem, cR]) rfl G1.out
      | exact bodyPost_ret (v := .tuple #[.agg #[.slice none 0 0], .bool false]) (by simp [results, Try.results23, go_sem, cR]) rfl G2.out
    | true =>
     have G3 := hid (F3.out (CB.out.trans hc))
     clear hc F1 F2 F3 LC
     go_wp2
     exact bodyPost_ret (v := .tuple #[.agg #[.slice O on oc], .bool true]) (by simp [results, Try.results23, go_sem, cR]) rfl G3.out
end compImpl
end
section
namespace bigs
open Go.RowKit base ints
theorem bigAns (A : Option Addr) (n c : Nat) (b : Bool) (w : World) (hb : decide (4096 < n) = b) (hn : n ≤ 9223372036854775807) : Calls Try.prog 24 #[.slice A n c] w fun e w' => w = w' ∧ e = .returned (.bool b) := by
 cases b with
 | true =>
  have h : (4096 : Int) < (n : Int) := by have := of_decide_eq_true hb; omega
  clear hb
  go_enter Try.func24, Try.ntmps24
  go_wp2
  go_ret
  exact ⟨rfl, rfl⟩
 | false =>
  have h : ¬ (4096 : Int) < (n : Int) := by have := of_decide_eq_false hb; omega
  have h2 : decide (4096 < n) = false := hb
  clear hb
  go_enter Try.func24, Try.ntmps24
  go_wp2
  go_ret
  exact ⟨rfl, rfl⟩
end bigs
end
section
open Go.Lib (hid)
namespace wFnFilled
open Go.RowKit base ints sig same term cursor termOk marks app sym segs segsHelp dice drawVar drawSS varsOf substOk gives filled compMath compSpec compImpl plainFacts bigs
structure F1 (w : World) (v3 v4 v8 : Nat) (S : Option Addr) (sn sc : Nat) (sg : List Int) (B : Option Addr) (m cB : Nat) (ss : List (List Int)) (O : Option Addr) (on : Nat) (t : List Int) (U : Option Addr) (q cU : Nat) (us : List (List Int)) (wr : World) : Prop where
 s : Seg wr wr.heap.size S sn sg
 b : Segs wr wr.heap.size B m ss
 o : Seg wr wr.heap.size O on t
 u : Segs wr wr.heap.size U q us
 r3 : Row wr v3 32 #[.slice S sn sc]
 r4 : Row wr v4 30 #[.slice B m cB]
 r8 : Row wr v8 30 #[.slice U q cU]
 bel : Below w.heap.size w wr
section
variable {w : World} {v3 v4 v8 : Nat} {S : Option Addr} {sn sc : Nat} {sg : List Int} {B : Option Addr} {m cB : Nat} {ss : List (List Int)} {O : Option Addr} {on : Nat} {t : List Int} {U : Option Addr} {q cU : Nat} {us : List (List Int)} {wr w' : World}
theorem F1.next (f : F1 w v3 v4 v8 S sn sc sg B m cB ss O on t U q cU us wr) (hb : Below wr.heap.size wr w') : F1 w v3 v4 v8 S sn sc sg B m cB ss O on t U q cU us w' :=
 ⟨f.s.next hb, f.b.next hb, f.o.next hb, f.u.next hb, f.r3.next hb, f.r4.next hb, f.r8.next hb, next_trans f.bel hb⟩
end
theorem below_alloc (w : World) (x : Obj) : Below w.heap.size w (w.alloc x) := (Below.refl _ _).alloc (Nat.le_refl _) _
theorem below_drewN (w : World) (d : Nat) : Below w.heap.size w (w.drewN d) := ⟨rfl, rfl, rfl, Nat.le_refl _, fun _ _ => rfl⟩
set_option maxRecDepth 100000 in
set_option maxHeartbeats 8000000 in
theorem law (A : Option Addr) (n c : Nat) (_ : List Int) (w : World) (h : SegB w w.heap.size A n) (hN : n ≤ 9223372036854775807) :
  Calls Try.prog 6 #[.slice A n c] w (Fine w) := by
 by_cases hbig : n ≤ 4096
 ·have LB := hid (bigAns A n c false w (by simp; omega) hN)
  go_enter Try.func6, Try.ntmps6
  go_wp2_with fail
  refine LB.out.mono ?_
  rintro e w' ⟨rfl, rfl⟩
  clear LB
  go_wp2_with fail
  refine (drawFilled A n c w h hbig).mono ?_
  rintro e w2 ⟨S, sn, sc, sg, B, m, cB, ss, O, on, oc, t, rfl, s1, s2, s3, hsn, hst, hon, b2⟩
  obtain ⟨v3, h3⟩ : ∃ v, w2.heap.size = v := ⟨_, rfl⟩
  obtain ⟨W, hW⟩ : ∃ W, W = (w2.alloc (.cells #[.slice S sn sc] 32)).alloc (.cells #[.slice B m cB] 30) := ⟨_, rfl⟩
  have bb : Below w2.heap.size w2 W := by rw [hW]; exact (below_alloc _ _).trans ((below_alloc _ _).mono (by simp))
  have r3 : Row W v3 32 #[.slice S sn sc] := by rw [hW, ← h3]; exact (Row.new _ _ _).alloc _
  have r4 : Row W (v3 + 1) 30 #[.slice B m cB] := by rw [hW, ← h3]; have := Row.new (w2.alloc (.cells #[.slice S sn sc] 32)) 30 #[.slice B m cB]; simpa using this
  have b3 := next_trans b2 bb
  have hB := segB_below h b3
  replace s1 := s1.next bb
  replace s2 := s2.next bb
  replace s3 := s3.next bb
  have HW := hid hW
  have H3 := hid h3
  clear h hW h3 bb b2
  go_wp2_with fail
  rw [← HW.out, H3.out]
  refine (drawComposed A n c W hB hbig).mono ?_
  rintro e w4 ⟨S', sn', sc', sg', B', m', cB', xs', U, q, cU, us, rfl, q1, q2, q3, hsn', hxt', hut, b4⟩
  obtain ⟨v6, h6⟩ : ∃ v, w4.heap.size = v := ⟨_, rfl⟩
  obtain ⟨W2, hW2⟩ : ∃ W, W = ((w4.alloc (.cells #[.slice S' sn' sc'] 32)).alloc (.cells #[.slice B' m' cB'] 30)).alloc (.cells #[.slice U q cU] 30) := ⟨_, rfl⟩
  have bb : Below w4.heap.size w4 W2 := by rw [hW2]; exact ((below_alloc _ _).trans ((below_alloc _ _).mono (by simp))).trans ((below_alloc _ _).mono (by simp; omega))
  have T : F1 w v3 (v3 + 1) (v6 + 2) S sn sc sg B m cB ss O on t U q cU us W2 := by
   have b5 := next_trans b4 bb
   exact ⟨s1.next b5, s2.next b5, s3.next b5, q3.next bb, r3.next b5, r4.next b5, by rw [hW2, ← h6]; have := Row.new ((w4.alloc (.cells #[.slice S' sn' sc'] 32)).alloc (.cells #[.slice B' m' cB'] 30)) 30 #[.slice U q cU]; simpa using this, next_trans b3 b5⟩
  have k3 : (((w4.alloc (.cells #[.slice S' sn' sc'] 32)).alloc (.cells #[.slice B' m' cB'] 30)).alloc (.cells #[.slice U q cU] 30)).cell? ⟨v3, 0, none⟩ = some (.slice S sn sc) := by rw [← hW2]; exact T.r3.cell 0
  have k4 : (((w4.alloc (.cells #[.slice S' sn' sc'] 32)).alloc (.cells #[.slice B' m' cB'] 30)).alloc (.cells #[.slice U q cU] 30)).cell? ⟨v3 + 1, 0, none⟩ = some (.slice B m cB) := by rw [← hW2]; exact T.r4.cell 0
  obtain ⟨v4, h4⟩ : ∃ v, v3 + 1 = v := ⟨_, rfl⟩
  obtain ⟨v8, h8⟩ : ∃ v, v6 + 2 = v := ⟨_, rfl⟩
  rw [h4, h8] at T
  have HW2 := hid hW2
  have H4 := hid h4
  have H6 := hid h6
  have H8 := hid h8
  clear s1 s2 s3 q1 q2 q3 r3 r4 bb b3 b4 hW2 h6 h4 h8 hsn' hxt' hB
  have c3 : W2.cell? ⟨v3, 0, none⟩ = some (.slice S sn sc) := T.r3.cell 0
  have c4 : W2.cell? ⟨v4, 0, none⟩ = some (.slice B m cB) := T.r4.cell 0
  obtain ⟨b, hb⟩ : ∃ b, filledB sg ss t = b := ⟨_, rfl⟩
  obtain ⟨xs, hxs⟩ : ∃ xs, filledL sg ss t = xs := ⟨_, rfl⟩
  have HB := hid hb
  have HX := hid hxs
  have hxl : xs.length ≤ 60 := by rw [← hxs]; exact filled_len _ _ _
  have HBB := hid (show (b != b) = false by simp)
  clear hb hxs
  go_wp2_with fail
  rw [← HW2.out, H6.out, H4.out, H8.out]
  clear k3 k4
  refine (implFilled S B O sn sc m cB on oc sg ss t _ T.s T.b T.o (by omega) hst (by omega)).mono ?_
  rintro e w5 ⟨X, xn, xc, he, ox, bb⟩
  rw [HB.out] at he
  subst he
  rw [HX.out] at ox
  have sx := Own.seg ox
  have hxn : xn ≤ 60 := by rw [Own.len ox]; exact hxl
  have HXN := hid (Own.len ox)
  replace T := T.next bb
  clear bb ox
  replace c3 : w5.cell? ⟨v3, 0, none⟩ = some (.slice S sn sc) := T.r3.cell 0
  replace c4 : w5.cell? ⟨v4, 0, none⟩ = some (.slice B m cB) := T.r4.cell 0
  go_wp2_with fail
  refine (specFilled S B O sn sc m cB on oc sg ss t _ T.s T.b T.o (by omega) hst (by omega)).mono ?_
  rintro e w6 ⟨P, pn, pc, he, sp, bb⟩
  rw [HB.out] at he
  subst he
  rw [HX.out] at sp
  have hpn : pn ≤ 60 := by rw [← sp.1]; exact hxl
  replace T := T.next bb
  replace sx := sx.next bb
  clear bb c3 c4
  have ebb := HBB.out
  go_wp2_with fail
  refine (implSame X P xn pn xc pc xs xs _ sx sp (by omega) (by omega)).mono ?_
  rintro e w7 ⟨he, d1, rfl⟩
  rw [decide_eq_true rfl] at he
  subst he
  have bb := below_drewN w6 d1
  replace T := T.next bb
  replace sx := sx.next bb
  clear bb sp ebb
  generalize w6.drewN d1 = w7 at *
  have c3 : w7.cell? ⟨v3, 0, none⟩ = some (.slice S sn sc) := T.r3.cell 0
  have c4 : w7.cell? ⟨v4, 0, none⟩ = some (.slice B m cB) := T.r4.cell 0
  have c8 : w7.cell? ⟨v8, 0, none⟩ = some (.slice U q cU) := T.r8.cell 0
  obtain ⟨b2, hb2⟩ : ∃ b2, composedB sg ss us = b2 := ⟨_, rfl⟩
  obtain ⟨cs, hcs⟩ : ∃ cs, composedI sg ss us = cs := ⟨_, rfl⟩
  have HB2 := hid hb2
  have HC := hid hcs
  have hct : tot cs ≤ 1048576 := by rw [← hcs]; exact composed_tot
  clear hb2 hcs
  go_wp2_with fail
  refine (implComposed S B U sn sc m cB q cU sg ss us _ T.s T.b T.u (by omega) hst hut).mono ?_
  rintro e w8 ⟨C, cn, cc, he, oc8, bb⟩
  rw [HB2.out] at he
  subst he
  rw [HC.out] at oc8
  replace T := T.next bb
  replace sx := sx.next bb
  obtain ⟨v13, h13⟩ : ∃ v, w8.heap.size = v := ⟨_, rfl⟩
  obtain ⟨W9, hW9⟩ : ∃ W, W = w8.alloc (.cells #[.slice C cn cc] 30) := ⟨_, rfl⟩
  have bb9 : Below w8.heap.size w8 W9 := by rw [hW9]; exact below_alloc _ _
  have rC : Row W9 v13 30 #[.slice C cn cc] := by rw [hW9, ← h13]; exact Row.new _ _ _
  have sC := (oc8.segs).next bb9
  replace T := T.next bb9
  replace sx := sx.next bb9
  have HW9 := hid hW9
  have H13 := hid h13
  have k3 : (w8.alloc (.cells #[.slice C cn cc] 30)).cell? ⟨v3, 0, none⟩ = some (.slice S sn sc) := by rw [← hW9]; exact T.r3.cell 0
  have k8 : (w8.alloc (.cells #[.slice C cn cc] 30)).cell? ⟨v8, 0, none⟩ = some (.slice U q cU) := by rw [← hW9]; exact T.r8.cell 0
  clear bb bb9 oc8 hW9 h13
  replace c3 : W9.cell? ⟨v3, 0, none⟩ = some (.slice S sn sc) := T.r3.cell 0
  replace c8 : W9.cell? ⟨v8, 0, none⟩ = some (.slice U q cU) := T.r8.cell 0
  clear c4
  obtain ⟨b3, hb3⟩ : ∃ b3, filledB sg us xs = b3 := ⟨_, rfl⟩
  obtain ⟨ys, hys⟩ : ∃ ys, filledL sg us xs = ys := ⟨_, rfl⟩
  have HB3 := hid hb3
  have HY := hid hys
  have hyl : ys.length ≤ 60 := by rw [← hys]; exact filled_len _ _ _
  clear hb3 hys
  go_wp2_with fail
  rw [← HW9.out, H13.out]
  clear k3 k8
  refine (implFilled S U X sn sc q cU xn xc sg us xs _ T.s T.u sx (by omega) hut (by omega)).mono ?_
  rintro e w10 ⟨Y, yn, yc, he, oy, bb⟩
  rw [HB3.out] at he
  subst he
  rw [HY.out] at oy
  have sy := Own.seg oy
  have hyn : yn ≤ 60 := by rw [Own.len oy]; exact hyl
  replace T := T.next bb
  replace rC := rC.next bb
  replace sC := sC.next bb
  clear bb oy sx c8
  replace c3 : w10.cell? ⟨v3, 0, none⟩ = some (.slice S sn sc) := T.r3.cell 0
  have c13 : w10.cell? ⟨v13, 0, none⟩ = some (.slice C cn cc) := rC.cell 0
  obtain ⟨b4, hb4⟩ : ∃ b4, filledB sg cs t = b4 := ⟨_, rfl⟩
  obtain ⟨zs, hzs⟩ : ∃ zs, filledL sg cs t = zs := ⟨_, rfl⟩
  have HB4 := hid hb4
  have HZ := hid hzs
  have hzl : zs.length ≤ 60 := by rw [← hzs]; exact filled_len _ _ _
  clear hb4 hzs
  go_wp2_with fail
  refine (implFilled S C O sn sc cn cc on oc sg cs t _ T.s sC T.o (by omega) hct (by omega)).mono ?_
  rintro e w11 ⟨Z, zn, zc, he, oz, bb⟩
  rw [HB4.out] at he
  subst he
  rw [HZ.out] at oz
  have sz := Own.seg oz
  have hzn : zn ≤ 60 := by rw [Own.len oz]; exact hzl
  replace T := T.next bb
  replace rC := rC.next bb
  replace sC := sC.next bb
  replace sy := sy.next bb
  clear bb oz
  replace c3 : w11.cell? ⟨v3, 0, none⟩ = some (.slice S sn sc) := T.r3.cell 0
  replace c13 : w11.cell? ⟨v13, 0, none⟩ = some (.slice C cn cc) := rC.cell 0
  cases b with
  | false =>
   have hx0 : xn = 0 := by rw [HXN.out, ← HX.out]; unfold filledL; rw [if_neg (by rw [HB.out]; simp)]; rfl
   subst hx0
   have TB := hid T.bel
   clear T rC sC sy sz c3 c13
   go_wp2
   go_ret
   exact ⟨rfl, TB.out⟩
  | true =>
   cases b2 with
   | false =>
    have TB := hid T.bel
    clear T rC sC sy sz c3 c13
    go_wp2
    go_ret
    exact ⟨rfl, TB.out⟩
   | true =>
    cases b3 with
    | false =>
     have TB := hid T.bel
     clear T rC sC sy sz c3 c13
     go_wp2
     go_ret
     exact ⟨rfl, TB.out⟩
    | true =>
     have CF := comp_facts HB2.out HB.out (by rw [HX.out]; exact HB3.out)
     rw [HC.out, HX.out, HB4.out, HZ.out, HY.out] at CF
     obtain ⟨f1, f2, f3⟩ := CF
     subst f2
     subst f3
     have HF := hid f1
     clear f1
     go_wp2_with fail
     refine (implSame Y Z yn zn yc zc _ _ _ sy sz (by omega) (by omega)).mono ?_
     rintro e w12 ⟨he, d2, rfl⟩
     rw [decide_eq_true rfl] at he
     subst he
     have bb := below_drewN w11 d2
     replace T := T.next bb
     replace rC := rC.next bb
     replace sC := sC.next bb
     clear bb sy sz c3 c13
     generalize w11.drewN d2 = w12 at *
     have c3 : w12.cell? ⟨v3, 0, none⟩ = some (.slice S sn sc) := T.r3.cell 0
     have c13 : w12.cell? ⟨v13, 0, none⟩ = some (.slice C cn cc) := rC.cell 0
     go_wp2_with fail
     refine (implSubstOk S C sn sc cn cc sg cs _ T.s sC (by omega) hct).mono ?_
     rintro e w13 ⟨he, bb⟩
     rw [HF.out] at he
     subst he
     have TB := hid (T.next bb).bel
     clear bb T rC sC c3 c13
     go_wp2
     go_ret
     exact ⟨rfl, TB.out⟩
 ·have LB := hid (bigAns A n c true w (by simp; omega) hN)
  clear h
  go_enter Try.func6, Try.ntmps6
  go_wp2_with fail
  refine LB.out.mono ?_
  rintro e w' ⟨rfl, rfl⟩
  clear LB
  go_wp2
  go_ret
  exact ⟨rfl, Below.refl _ _⟩
end wFnFilled
end
end Go.Proofs.Ytghgnondlgdjdaa
