/-
  MERGED: my texts Rename, RenImpl, Variant, MatchMost, MatchImpl, MatchImplB, AnyOf, one behind the other, as they are. By an AI agent.
-/
import Derived.Test.YtgfgaeagbipobaaMFnGeneral3
import Derived.Deep.QuietTactic
import Derived.BigQuiet
import Derived.Deep.RegionHeld3
import Derived.Deep.WholeRow
import Derived.Shelf.Abstract
namespace Go.Proofs.Ytgfgaeagbipobaa
section
open Go.Lib (hid)
namespace rename
open Go.RowKit base ints sig term termOk marks app sym segs termFacts varsMath varsOf renMath
set_option maxRecDepth 100000
theorem mem_of_get {t : List Int} {k : Nat} {x : Int} (hk : k < t.length) (hx : t.getD k 0 = x) : x ∈ t := by
 rw [← hx]
 simp [List.getD, hk]
theorem not_mem_of {t : List Int} {x : Int} (h : ∀ j, j < t.length → t.getD j 0 ≠ x) : x ∉ t := fun hx => by
 obtain ⟨j, hj, e⟩ := List.getElem_of_mem hx
 exact h j hj (by simp [List.getD, hj, e])
def HeadNo (n : Nat) (xs : List Int) (x : Int) (i : Value) : Prop := ∃ k : Nat, k ≤ n ∧ i = .int .i64 k ∧ ∀ j, j < k → xs.getD j 0 ≠ x
theorem headNo_step {n k : Nat} {xs : List Int} {x y : Int} (hk : k < n) (h : ∀ j, j < k → xs.getD j 0 ≠ x) (hy : Hid (xs.getD k 0 = y)) (hne : ¬ y = x) : HeadNo n xs x (.int .i64 ((k : Int) + 1)) :=
 ⟨k + 1, hk, by simp, fun j hj => by
  by_cases e : j = k
  ·subst e; rw [hy.out]; exact hne
  ·exact h j (by omega)⟩
set_option maxHeartbeats 1000000 in
theorem l1Has (A : Option Addr) (n c : Nat) (xs : List Int) (x : Int) (w : World) (h : Seg w w.heap.size A n xs) (hn : n ≤ 1048576) :
  Calls Try.prog 106 #[.slice A n c, .int .i64 x] w fun e w' => w = w' ∧ e = .returned (.bool (decide (x ∈ xs))) := by
 have HX := hid h.1
 go_enter Try.func106, Try.ntmps106
 go_wp2
 go_loop [5] (fun i => HeadNo n xs x i) (fun i => n - (intOf i).toNat)
 case atStart => exact ⟨0, Nat.zero_le _, rfl, fun j hj => absurd hj (Nat.not_lt_zero _)⟩
 case round =>
  obtain ⟨k, hk, rfl, hlow⟩ := hrel
  by_cases hlt : k < n
  ·obtain ⟨b, off, y, rfl, -, hy, ey⟩ := h.spot hlt
   by_cases he : y = x
   ·subst he
    have F := hid (show y ∈ xs from mem_of_get (by rw [HX.out]; exact hlt) ey.out)
    have e1 : (y == y) = true := by simp
    clear h ey hlow
    go_wp2
    go_ret
    exact ⟨rfl, by rw [decide_eq_true F.out]; rfl⟩
   ·have S := hid (headNo_step hlt hlow ey he)
    have e1 : (y == x) = false := by simp [he]
    clear h ey hlow
    go_wp2
    go_round
    case rel => exact S.out
    case measure => simp [intOf]; omega
  ·have F := hid (not_mem_of (t := xs) (x := x) (fun j hj => hlow j (by rw [HX.out] at hj; omega)))
   clear h hlow
   go_wp2
   go_ret
   exact ⟨rfl, by rw [decide_eq_false F.out]; rfl⟩
def indexI (xs : List Int) (x : Int) : Int := if x ∈ xs then (idx xs x : Int) else -1
set_option maxHeartbeats 1000000 in
theorem indexOf (A : Option Addr) (n c : Nat) (xs : List Int) (x : Int) (w : World) (h : Seg w w.heap.size A n xs) (hn : n ≤ 1048576) :
  Calls Try.prog 105 #[.slice A n c, .int .i64 x] w fun e w' => w = w' ∧ e = .returned (.int .i64 (indexI xs x)) := by
 have HX := hid h.1
 go_enter Try.func105, Try.ntmps105
 go_wp2
 go_loop [8] (fun i => HeadNo n xs x i) (fun i => n - (intOf i).toNat)
 case atStart => exact ⟨0, Nat.zero_le _, rfl, fun j hj => absurd hj (Nat.not_lt_zero _)⟩
 case round =>
  obtain ⟨k, hk, rfl, hlow⟩ := hrel
  by_cases hlt : k < n
  ·obtain ⟨b, off, y, rfl, -, hy, ey⟩ := h.spot hlt
   by_cases he : y = x
   ·subst he
    have F := hid (show indexI xs y = (k : Int) by
     have hkl : k < xs.length := by rw [HX.out]; exact hlt
     unfold indexI
     rw [if_pos (mem_of_get hkl ey.out), idx_first hkl hlow ey.out])
    have e1 : (y == y) = true := by simp
    clear h ey hlow
    go_wp2
    go_ret
    exact ⟨rfl, by rw [F.out]; rfl⟩
   ·have S := hid (headNo_step hlt hlow ey he)
    have e1 : (x == y) = false := by simp; exact fun e => he e.symm
    clear h ey hlow
    go_wp2
    go_round
    case rel => exact S.out
    case measure => simp [intOf]; omega
  ·have F := hid (show indexI xs x = -1 by unfold indexI; rw [if_neg (not_mem_of (fun j hj => hlow j (by rw [HX.out] at hj; omega)))])
   clear h hlow
   go_wp2
   go_ret
   exact ⟨rfl, by rw [F.out]; rfl⟩
def HeadOrd (w : World) (m : Nat) (t : List Int) (out i : Value) (wr : World) : Prop :=
 ∃ (k : Nat) (O : Option Addr) (on oc : Nat), k ≤ m ∧ i = .int .i64 k ∧ out = .slice O on oc ∧ Own wr w.heap.size (.slice O on oc) (orderL (t.take k)) ∧ Below w.heap.size w wr
set_option maxHeartbeats 2000000 in
theorem l2Order (A : Option Addr) (m c : Nat) (t : List Int) (w : World) (h : Seg w w.heap.size A m t) (hm : m ≤ 1048576) :
  Calls Try.prog 99 #[.slice A m c] w (AnsList w (orderL t)) := by
 have HL := hid h.1
 have S0 : HeadOrd w m t (.slice (some ⟨w.heap.size, 0, none⟩) 0 0) (.int .i64 0) (w.alloc (.cells #[] 2)) :=
  ⟨0, _, _, _, Nat.zero_le _, rfl, rfl, by simpa [orderL] using own_empty w w.heap.size (Nat.le_refl _), (Below.refl _ _).alloc (Nat.le_refl _) _⟩
 have HS0 := hid S0
 clear S0
 go_enter Try.func99, Try.ntmps99
 go_wp2_with fail
 go_loopw [3, 4] (fun out i wr => HeadOrd w m t out i wr) (fun _ i _ => m - (intOf i).toNat)
 case atStart => exact HS0.out
 case round =>
  obtain ⟨k, O, on, oc, hk, rfl, rfl, ho, hb⟩ := hrel
  clear HS0
  have hon : on ≤ m := by have h1 := Own.len ho; have h2 := order_len (t.take k); simp at h2; have h3 := HL.out; omega
  by_cases hlt : k < m
  ·obtain ⟨b, off, x, rfl, hbb, hx, ex⟩ := h.spot hlt
   have hx1 : wr.cell? ⟨b, off + k, none⟩ = some (.int .i64 x) := (hb.cell (p := ⟨b, off + k, none⟩) hbb).trans hx
   have E := hid (order_take (t := t) (k := k) (by rw [HL.out]; exact hlt) ex.out)
   have hsz := hb.size
   clear hx h ex
   by_cases hneg : x < 0
   ·have L := hid (l1Has O on oc _ x wr (Own.seg ho) (by omega))
    by_cases hin : x ∈ orderL (t.take k)
    ·have R := hid (show extV (orderL (t.take k)) x = orderL (t.take k) by unfold extV ext; rw [if_pos hneg, if_pos hin])
     rw [decide_eq_true hin] at L
     have S : HeadOrd w m t (.slice O on oc) (.int .i64 ((k : Int) + 1)) wr := ⟨k + 1, O, on, oc, hlt, by simp, rfl, by rw [E.out, R.out]; exact ho, hb⟩
     replace S := hid S
     clear ho hb hin R E
     go_wp2_with fail
     refine L.out.mono ?_
     rintro e w' ⟨rfl, rfl⟩
     clear L
     go_wp2
     go_roundw
     case rel => exact S.out
     case measure => simp [intOf]; omega
    ·have R := hid (show extV (orderL (t.take k)) x = orderL (t.take k) ++ [x] by unfold extV ext; rw [if_pos hneg, if_neg hin])
     rw [decide_eq_false hin] at L
     clear hin
     go_wp2_with fail
     refine L.out.mono ?_
     rintro e w' ⟨rfl, rfl⟩
     clear L
     go_wp2_with (at_builtin; refine app1 rfl _ _ rfl w.heap.size O on oc (orderL (t.take k)) rfl (Own.alloc ho _) wr.heap.size 1 x rfl ((Row.new _ _ _).cell 0) (by omega) (by simp; omega) ?_; intro O' oc' w2 ho2 b2)
     have S : HeadOrd w m t (.slice O' (on + 1) oc') (.int .i64 ((k : Int) + 1)) w2 := ⟨k + 1, O', on + 1, oc', hlt, by simp, rfl, by rw [E.out, R.out]; exact ho2, (hb.alloc hsz _).trans b2⟩
     replace S := hid S
     clear ho2 b2 ho hb R E
     go_wp2
     go_roundw
     case rel => exact S.out
     case measure => simp [intOf]; omega
   ·have R := hid (show extV (orderL (t.take k)) x = orderL (t.take k) by unfold extV; rw [if_neg hneg])
    have S : HeadOrd w m t (.slice O on oc) (.int .i64 ((k : Int) + 1)) wr := ⟨k + 1, O, on, oc, hlt, by simp, rfl, by rw [E.out, R.out]; exact ho, hb⟩
    replace S := hid S
    have d1 : decide (x < 0) = false := by simp; omega
    clear ho hb R E
    go_wp2
    go_roundw
    case rel => exact S.out
    case measure => simp [intOf]; omega
  ·have F : AnsList w (orderL t) (.returned (.slice O on oc)) wr := by
    rw [List.take_of_length_le (by rw [HL.out]; omega)] at ho
    exact ⟨O, on, oc, rfl, ho, hb⟩
   have HF := hid F
   clear F ho hb h
   go_wp2
   go_ret
   exact HF.out
def upTo (o : List Int) (x : Int) (q : Nat) : Int := if idx o x < q then -1 - (idx o x : Int) else x
def HeadIn (wr : World) (pn : Nat) (o : List Int) (x : Int) (n k : Value) (wi : World) : Prop := ∃ q d : Nat, q ≤ pn ∧ k = .int .i64 q ∧ n = .int .i64 (upTo o x q) ∧ wi = wr.drewN d
theorem upTo_yes {o : List Int} (hd : o.Nodup) {x : Int} {q : Nat} (hq : q < o.length) (h : o.getD q 0 = x) : upTo o x (q + 1) = -1 - (q : Int) := by
 unfold upTo
 rw [idx_nodup hd hq h, if_pos (by omega)]
theorem upTo_no {o : List Int} {x y : Int} {q : Nat} (hq : q < o.length) (h : o.getD q 0 = y) (hne : ¬ y = x) : upTo o x (q + 1) = upTo o x q := by
 unfold upTo
 have h1 : idx o x ≠ q := fun e => by
  by_cases hx : x ∈ o
  ·have := idx_get hx
   rw [e, h] at this
   exact hne this
  ·have := idx_not hx
   omega
 by_cases h2 : idx o x < q
 ·rw [if_pos h2, if_pos (by omega)]
 ·rw [if_neg h2, if_neg (by omega)]
def HeadBy (w : World) (m : Nat) (t o : List Int) (out i : Value) (wr : World) : Prop :=
 ∃ (k : Nat) (O : Option Addr) (on oc : Nat), k ≤ m ∧ i = .int .i64 k ∧ out = .slice O on oc ∧ Own wr w.heap.size (.slice O on oc) ((t.take k).map (ren o)) ∧ Below w.heap.size w wr
set_option maxHeartbeats 4000000 in
theorem l2By (P A : Option Addr) (pn pc m c : Nat) (o t : List Int) (w : World) (hp : Seg w w.heap.size P pn o) (h : Seg w w.heap.size A m t) (hpn : pn ≤ 1048576) (hm : m ≤ 1048576) (hd : o.Nodup) (ho : ∀ x ∈ t, x < 0 → x ∈ o) :
  Calls Try.prog 98 #[.slice P pn pc, .slice A m c] w (AnsList w (t.map (ren o))) := by
 have HL := hid h.1
 have HP := hid hp.1
 have HO := hid ho
 have HD := hid hd
 have S0 : HeadBy w m t o (.slice (some ⟨w.heap.size, 0, none⟩) 0 0) (.int .i64 0) (w.alloc (.cells #[] 2)) :=
  ⟨0, _, _, _, Nat.zero_le _, rfl, rfl, by simpa using own_empty w w.heap.size (Nat.le_refl _), (Below.refl _ _).alloc (Nat.le_refl _) _⟩
 have HS0 := hid S0
 clear S0 ho hd
 go_enter Try.func98, Try.ntmps98
 go_wp2_with fail
 go_loopw [5, 6] (fun out i wr => HeadBy w m t o out i wr) (fun _ i _ => m - (intOf i).toNat)
 case atStart => exact HS0.out
 case round =>
  obtain ⟨k, O, on, oc, hk, rfl, rfl, hown, hb⟩ := hrel
  clear HS0
  have hon : on ≤ m := by have h1 := Own.len hown; simp at h1; omega
  obtain ⟨wo, rfl⟩ : ∃ wo : World, wo = wr := ⟨_, rfl⟩
  by_cases hlt : k < m
  ·obtain ⟨b, off, x, rfl, hbb, hx, ex⟩ := h.spot hlt
   have hx1 : wo.cell? ⟨b, off + k, none⟩ = some (.int .i64 x) := (hb.cell (p := ⟨b, off + k, none⟩) hbb).trans hx
   have hmem := mem_of_get (by rw [HL.out]; exact hlt) ex.out
   have E := hid (show (t.take (k + 1)).map (ren o) = (t.take k).map (ren o) ++ [ren o x] by rw [take_snoc (by rw [HL.out]; exact hlt) ex.out, List.map_append]; rfl)
   have hsz := hb.size
   have hpo := hp.below hb
   clear hx h ex
   by_cases hneg : x < 0
   ·have hin := HO.out x hmem hneg
    have I0 : HeadIn wo pn o x (.int .i64 x) (.int .i64 0) wo := ⟨0, 0, Nat.zero_le _, rfl, by simp [upTo], rfl⟩
    have HI0 := hid I0
    have R := hid (show upTo o x pn = ren o x by unfold upTo ren; rw [if_pos hneg, if_pos (by rw [← HP.out]; exact idx_lt hin)])
    have REST := hid (fun (d : Nat) (O' : Option Addr) (oc' : Nat) (w2 : World) (ho2 : Own w2 w.heap.size (.slice O' (on + 1) oc') ((t.take k).map (ren o) ++ [ren o x])) (b2 : Below w.heap.size ((wo.drewN d).alloc (.cells #[.int .i64 (ren o x)] 2)) w2) =>
     (show HeadBy w m t o (.slice O' (on + 1) oc') (.int .i64 ((k : Int) + 1)) w2 from ⟨k + 1, O', on + 1, oc', hlt, by simp, rfl, by rw [E.out]; exact ho2, ((below_drewN hb d).alloc hsz _).trans b2⟩))
    clear I0 hin hmem hb
    go_wp2_with fail
    go_loopw [7, 8] (fun n q wi => HeadIn wo pn o x n q wi) (fun _ q _ => pn - (intOf q).toNat)
    case atStart => exact HI0.out
    case round =>
     obtain ⟨q, d, hq, rfl, rfl, hw⟩ := hrel
     clear HI0
     have hxr : wr.cell? ⟨b, off + k, none⟩ = some (.int .i64 x) := by rw [hw]; exact hx1
     have hpr : Seg wr w.heap.size P pn o := by rw [hw]; exact hpo
     have HW := hid hw
     clear hw
     by_cases hq2 : q < pn
     ·obtain ⟨b2, off2, y, rfl, -, hy, ey⟩ := hpr.spot hq2
      by_cases he : y = x
      ·have U := hid (upTo_yes HD.out (by rw [HP.out]; exact hq2) (ey.out.trans he))
       have S : ∀ nq : Nat, HeadIn wo pn o x (.int .i64 (-1 - (q : Int))) (.int .i64 ((q : Int) + 1)) (wr.drewN nq) := fun nq => ⟨q + 1, d + nq, hq2, by simp, by rw [U.out], by rw [HW.out, World.drewN_drewN]⟩
       replace S := hid S
       have e1 : (y == x) = true := by simp [he]
       clear hpr ey U hpo hp hx1 hown
       generalize upTo o x q = z at *
       go_wp2_with fail
       go_quiet (fail)
       go_wp2
       go_roundw
       case rel => exact S.out _
       case measure => simp [intOf]; omega
      ·have U := hid (upTo_no (x := x) (by rw [HP.out]; exact hq2) ey.out he)
       have S : ∀ nq : Nat, HeadIn wo pn o x (.int .i64 (upTo o x q)) (.int .i64 ((q : Int) + 1)) (wr.drewN nq) := fun nq => ⟨q + 1, d + nq, hq2, by simp, by rw [U.out], by rw [HW.out, World.drewN_drewN]⟩
       replace S := hid S
       have e1 : (y == x) = false := by simp [he]
       clear hpr ey U hpo hp hx1 hown
       generalize upTo o x q = z at *
       go_wp2_with fail
       go_quiet (fail)
       go_wp2
       go_roundw
       case rel => exact S.out _
       case measure => simp [intOf]; omega
     ·have hqp : q = pn := by omega
      subst hqp
      have hown2 : Own wr w.heap.size (.slice O on oc) ((t.take k).map (ren o)) := by rw [HW.out]; exact hown
      have hszr : w.heap.size ≤ wr.heap.size := by rw [HW.out]; exact hsz
      rw [R.out]
      clear hpr hpo hp hx1 hown
      generalize hz : ren o x = z at *
      go_wp2_with (at_builtin; refine app1 rfl _ _ rfl w.heap.size O on oc ((t.take k).map (ren o)) rfl (Own.alloc hown2 _) wr.heap.size 1 z rfl ((Row.new _ _ _).cell 0) (by omega) (by simp; omega) ?_; intro O' oc' w2 ho2 b2)
      have S := hid (REST.out d O' oc' w2 ho2 (by rw [← HW.out]; exact b2))
      clear ho2 b2 hown2 REST
      go_wp2
      go_roundw
      case rel => exact S.out
      case measure => simp [intOf]; omega
   ·have RH := hid (show ren o x = x by unfold ren; rw [if_neg hneg])
    have d1 : decide (x < 0) = false := by simp; omega
    have REST := hid (fun (O' : Option Addr) (oc' : Nat) (w2 : World) (ho2 : Own w2 w.heap.size (.slice O' (on + 1) oc') ((t.take k).map (ren o) ++ [x])) (b2 : Below w.heap.size (wo.alloc (.cells #[.int .i64 x] 2)) w2) =>
     (show HeadBy w m t o (.slice O' (on + 1) oc') (.int .i64 ((k : Int) + 1)) w2 from ⟨k + 1, O', on + 1, oc', hlt, by simp, rfl, by rw [E.out, RH.out]; exact ho2, (hb.alloc hsz _).trans b2⟩))
    clear hmem hpo hb
    by_cases hp0 : 0 < pn
    all_goals
     go_wp2_with fail
     go_loopw [7, 8] (fun n q wi => n = .int .i64 x ∧ q = .int .i64 0 ∧ wi = wo) (fun _ _ _ => 0)
     case atStart => exact ⟨rfl, rfl, rfl⟩
     case round =>
      obtain ⟨rfl, rfl, hw⟩ := hrel
      subst hw
      go_wp2_with (at_builtin; refine app1 rfl _ _ rfl w.heap.size O on oc ((t.take k).map (ren o)) rfl (Own.alloc hown _) wr.heap.size 1 x rfl ((Row.new _ _ _).cell 0) (by omega) (by simp; omega) ?_; intro O' oc' w2 ho2 b2)
      have S := hid (REST.out O' oc' w2 ho2 b2)
      clear ho2 b2 hown REST
      go_wp2
      go_roundw
      case rel => exact S.out
      case measure => simp [intOf]; omega
  ·have F : AnsList w (t.map (ren o)) (.returned (.slice O on oc)) wo := by
    rw [List.take_of_length_le (by rw [HL.out]; omega)] at hown
    exact ⟨O, on, oc, rfl, hown, hb⟩
   have HF := hid F
   clear F hown hb h hp
   go_wp2
   go_ret
   exact HF.out
set_option maxHeartbeats 1000000 in
theorem l2Renamed (A : Option Addr) (m c : Nat) (t : List Int) (w : World) (h : Seg w w.heap.size A m t) (hm : m ≤ 1048576) :
  Calls Try.prog 74 #[.slice A m c] w (AnsList w (renL t)) := by
 have L := hid (l2Order A m c t w h hm)
 have HL := hid h.1
 go_enter Try.func74, Try.ntmps74
 go_wp2_with fail
 refine L.out.mono ?_
 rintro e w1 ⟨P, pn, pc, rfl, o1, bb⟩
 have hpn : pn ≤ 1048576 := by rw [Own.len o1]; have := order_len t; have := HL.out; omega
 have L2 := hid (l2By P A pn pc m c (orderL t) t w1 (Own.seg o1) (h.next bb) hpn hm (order_nodup t) (fun x hx h0 => order_mem.2 ⟨hx, h0⟩))
 clear L o1 h
 go_wp2_with fail
 refine L2.out.mono ?_
 rintro e w2 ⟨Q, qn, qc, rfl, o2, b2⟩
 have F : AnsList w (renL t) (.returned (.slice Q qn qc)) w2 := ⟨Q, qn, qc, rfl, Own.lower o2 bb.size, next_trans bb b2⟩
 have HF := hid F
 clear F o2 b2 bb L2
 go_wp2
 go_ret
 exact HF.out
end rename
end
section
open Go.Lib (hid)
namespace renImpl
open Go.RowKit base ints sig cursor term termOk marks app appAt sym segs termFacts varsMath fillMath Go.Proofs.Ytgfgaeagbipobaa.look renMath rename
set_option maxRecDepth 100000
def vn (n : Int) : Int := -1 - n
theorem vn_inj : ∀ a b : Int, vn a = vn b → a = b := fun a b h => by unfold vn at h; omega
structure Side (p : Nat) (r : Option Nat) (a b : World) : Prop where
 os : b.os = a.os
 tape : b.tape = a.tape
 output : b.output = a.output
 size : a.heap.size ≤ b.heap.size
 block : ∀ k, k < a.heap.size → k ≠ p → some k ≠ r → b.heap[k]? = a.heap[k]?
section
variable {p : Nat} {r : Option Nat} {a b c : World}
theorem Side.of_below (h : Below a.heap.size a b) : Side p r a b := ⟨h.os, h.tape, h.output, h.size, fun k hk _ _ => h.block k hk⟩
theorem Side.of_grown (h : a.grownBy b r) : Side p r a b := ⟨h.os, h.tape, h.output, h.size, fun k hk _ hr => h.block k hk hr⟩
theorem Side.of_var (h : a.grownBy b (some p)) : Side p r a b := ⟨h.os, h.tape, h.output, h.size, fun k hk hp _ => h.block k hk (fun e => by injection e with e; exact hp e)⟩
theorem Side.trans (h : Side p r a b) (k : Side p r b c) : Side p r a c :=
 ⟨k.os.trans h.os, k.tape.trans h.tape, k.output.trans h.output, Nat.le_trans h.size k.size, fun i hi hp hr => (k.block i (Nat.lt_of_lt_of_le hi h.size) hp hr).trans (h.block i hi hp hr)⟩
theorem Side.below (h : Side p r a b) (hr : ∀ k, r = some k → p ≤ k) (hp : p ≤ a.heap.size) : Below p a b :=
 ⟨h.os, h.tape, h.output, h.size, fun k hk => h.block k (by omega) (by omega) (fun e => by have := hr k e.symm; omega)⟩
theorem Own.side {base n cc : Nat} {O : Option Addr} {xs : List Int} {cs : Array Value} (h : Own a base (.slice O n cc) xs) (hs : Side p r a b) (hv : Row a p 24 cs) (hne : blk O = none ∨ blk O ≠ r) : Own b base (.slice O n cc) xs := by
 obtain ⟨q1, q2⟩ := h
 refine ⟨q1, ?_⟩
 rcases q2 with q2 | ⟨g, cap, cur, e, hg, hh, rest⟩
 ·exact .inl q2
 ·refine .inr ⟨g, cap, cur, e, hg, ?_, rest⟩
  have hlt : g < a.heap.size := (Array.getElem?_eq_some_iff.1 hh).1
  have hb : blk O = some g := by rw [← blk_own O n cc, e]; rfl
  have hgp : g ≠ p := Row.ne_ (t := 2) (t' := 24) hh hv (by decide)
  exact (hs.block g hlt hgp (by rw [hb] at hne; rcases hne with h | h; cases h; exact h)).trans hh
end
theorem own_ne {w : World} {base B n c : Nat} {S : Option Addr} {xs : List Int} {cs : Array Value} (h : Own w base (.slice S n c) xs) (hr : Row w B 24 cs) : blk S ≠ some B := by
 have hl := Own.len h
 rcases own_form (n := n) (vs := xs.map (Value.int .i64)) (by rw [hl]; rw [hl] at h; exact h) with ⟨rfl, _⟩ | ⟨g, cur, rfl, _, hrow, _⟩
 ·intro e; cases e
 ·intro e
  have e2 : g = B := Option.some.inj e
  exact Row.ne_ hr hrow (by decide) e2.symm
theorem one_seg (w : World) (y : Int) : Seg (w.alloc (.cells #[.int .i64 y] 2)) (w.alloc (.cells #[.int .i64 y] 2)).heap.size (some ⟨w.heap.size, 0, none⟩) 1 [y] :=
 (Row.new w 2 #[.int .i64 y]).seg rfl (by simp) (fun j hj => by
  have e : j = 0 := by omega
  subst e
  rfl)
def AnsRen (W : World) (B : Nat) (S : Option Addr) (o : List Int) (x : Int) (e : Ending) (w' : World) : Prop :=
 ∃ A c S' sn' sc', e = .returned (.slice A 1 c) ∧ Seg w' w'.heap.size A 1 [-1 - (idx (ext o x) x : Int)] ∧ (A = none → c = 0) ∧ Row w' B 24 #[.slice S' sn' sc'] ∧
  Own w' (B + 1) (.slice S' sn' sc') ((ext o x).map vn) ∧ (blk S' = blk S ∨ ∃ k, blk S' = some k ∧ W.heap.size ≤ k) ∧ Side B (blk S) W w'
set_option maxHeartbeats 4000000 in
theorem ren1 (B : Nat) (S : Option Addr) (sn sc : Nat) (o : List Int) (x : Int) (W : World) (hr : Row W B 24 #[.slice S sn sc]) (ho : Own W (B + 1) (.slice S sn sc) (o.map vn)) (hx0 : -24 ≤ x) (hx1 : x < 0) (hsn : sn ≤ 1000) :
  Calls Try.prog 104 #[.int .i64 (-1 - x), .pointer (some ⟨B, 0, none⟩)] W (AnsRen W B S o x) := by
 have hl := Own.len ho
 simp only [List.length_map] at hl
 have hlt := hr.lt
 have cB : W.cell? ⟨B, 0, none⟩ = some (.slice S sn sc) := hr.cell 0
 have fB : W.frozen? ⟨B, 0, none⟩ = false := hr.free 0
 have LI := hid (indexOf S sn sc (o.map vn) (-1 - x) W (Own.seg ho) (by omega))
 by_cases hin : x ∈ o
 ·have hi : idx o x < o.length := idx_lt hin
  obtain ⟨q, hq⟩ : ∃ q, idx o x = q := ⟨_, rfl⟩
  have EI := hid (show indexI (o.map vn) (-1 - x) = (q : Int) by
   unfold indexI
   rw [show (-1 - x : Int) = vn x from rfl, if_pos ((mem_map_inj vn_inj).2 hin), idx_map vn_inj, hq])
  have EX := hid (show ext o x = o by unfold ext; rw [if_pos hin])
  have LV := hid (varTerm (q : Int) W (by omega) (by omega))
  have HQ := hid hq
  have hq60 : q ≤ 1000 := by omega
  have HR := hid hr
  have HO := hid ho
  clear hin hi hq hl hr ho
  go_enter Try.func104, Try.ntmps104
  go_wp2_with fail
  refine LI.out.mono ?_
  rintro e w' ⟨rfl, he⟩
  rw [EI.out] at he
  subst he
  clear LI
  go_wp2_with fail
  refine LV.out.mono ?_
  rintro e w1 ⟨A, n, c, rfl, oq, bb⟩
  have hn1 := Own.len oq
  simp only [List.length_cons, List.length_nil] at hn1
  subst hn1
  have F : AnsRen W B S o x (.returned (.slice A 1 c)) w1 :=
   ⟨A, c, S, sn, sc, rfl, by rw [EX.out, HQ.out]; exact Own.seg oq, (own_cap oq).2.2, HR.out.next bb, by rw [EX.out]; exact HO.out.next bb, .inl rfl, Side.of_below bb⟩
  have HF := hid F
  clear F oq bb LV cB fB
  go_wp2
  go_ret
  exact HF.out
 ·have EI := hid (show indexI (o.map vn) (-1 - x) = -1 by
   unfold indexI
   rw [show (-1 - x : Int) = vn x from rfl, if_neg (fun h => hin ((mem_map_inj vn_inj).1 h))])
  have EX := hid (show (ext o x).map vn = o.map vn ++ [-1 - x] by unfold ext; rw [if_neg hin, List.map_append]; rfl)
  have EQ := hid (show idx (ext o x) x = sn by unfold ext; rw [if_neg hin, idx_app_new hin, hl])
  have hne := own_ne ho hr
  have hr1 := hr.alloc (.cells #[.int .i64 (-1 - x)] 2)
  have ho1 := Own.alloc ho (.cells #[.int .i64 (-1 - x)] 2)
  have HNE := hid hne
  have HN := hid hl
  clear hin hl hr ho hne
  go_enter Try.func104, Try.ntmps104
  go_wp2_with fail
  refine LI.out.mono ?_
  rintro e w' ⟨rfl, he⟩
  rw [EI.out] at he
  subst he
  clear LI
  go_wp2_with (first
   | (at_builtin; refine appAllAt rfl _ _ rfl (B + 1) S sn sc (o.map vn) rfl ho1 (some ⟨W.heap.size, 0, none⟩) 1 1 (W.heap.size + 1) [-1 - x] rfl (by simpa using one_seg W (-1 - x)) (by omega) (by omega) (by omega) (by simp; omega) ?_; intro S' sc' w2 ho2 hg hat; have r2 := Row.away hr1 hg HNE.out; have cB2 : w2.cell? ⟨B, 0, none⟩ = some (.slice S sn sc) := r2.cell 0; have fB2 : w2.frozen? ⟨B, 0, none⟩ = false := r2.free 0)
   | (go_at_call 87; refine (varTerm (sn : Int) _ (by omega) (by omega)).mono ?_; rintro e w3 ⟨A, n, c, rfl, oq, bb⟩))
  have hn1 := Own.len oq
  simp only [List.length_cons, List.length_nil] at hn1
  subst hn1
  have r3 := r2.put 0 (.slice S' (sn + 1) sc')
  have hg3 : w2.grownBy (w2.setCell ⟨B, 0, none⟩ (.slice S' (sn + 1) sc')) (some B) := grown_put (World.grownBy.refl _ _) _ _
  have o3 := Own.far ho2 hg3 (fun k hk => by injection hk; omega)
  have sd : Side B (blk S) W w3 := (((Side.of_below ((Below.refl _ _).alloc (Nat.le_refl _) _)).trans (Side.of_grown hg)).trans (Side.of_var hg3)).trans (Side.of_below bb)
  have F : AnsRen W B S o x (.returned (.slice A 1 c)) w3 := by
   refine ⟨A, c, S', sn + 1, sc', rfl, by rw [EQ.out]; exact Own.seg oq, (own_cap oq).2.2, r3.next bb, by rw [EX.out]; exact o3.next bb, ?_, sd⟩
   rcases hat with h | h
   ·exact .inl h
   ·exact .inr ⟨_, h, by simp⟩
  have HF := hid F
  clear F oq bb r3 hg3 o3 sd hat hg ho2 r2 cB2 fB2 cB fB hr1 ho1
  go_wp2
  go_ret
  exact HF.out
theorem ne_flip {a b : Option Nat} (h : a = none ∨ a ≠ b) : b = none ∨ b ≠ a := by
 cases b with
 | none => exact .inl rfl
 | some k =>
  right
  rintro rfl
  rcases h with h | h
  ·cases h
  ·exact h rfl
theorem blk_lt {w : World} {base : Nat} {A : Option Addr} {n c : Nat} {xs : List Int} (h : Own w base (.slice A n c) xs) : ∀ k, blk A = some k → base ≤ k ∧ k < w.heap.size := fun k hk => World.ownsRow.lt h k (by rw [blk_own]; exact hk)
theorem ne_new {w : World} {base : Nat} {S : Option Addr} {n c : Nat} {xs : List Int} {a : Option Nat} (h : Own w base (.slice S n c) xs) (q : Nat) (hq : w.heap.size ≤ q) (ha : a = some q) : a = none ∨ a ≠ blk S := by
 right
 rintro rfl
 have := (blk_lt h q ha).2
 omega
def ordF (o t : List Int) : List Int := t.foldl extV o
theorem ordF_take {o t : List Int} {k : Nat} {x : Int} (hk : k < t.length) (hx : t.getD k 0 = x) : ordF o (t.take (k + 1)) = extV (ordF o (t.take k)) x := by
 unfold ordF
 rw [take_snoc hk hx, List.foldl_append]
 rfl
theorem ordF_len (o t : List Int) : (ordF o t).length ≤ o.length + t.length := fold_ext_len t o
def renF (o t : List Int) : List Int := t.map (ren (ordF o t))
theorem renF_take {o t : List Int} {k : Nat} {x : Int} (hk : k < t.length) (hx : t.getD k 0 = x) : renF o (t.take (k + 1)) = renF o (t.take k) ++ [ren (extV (ordF o (t.take k)) x) x] := by
 unfold renF
 rw [ordF_take hk hx, take_snoc hk hx, List.map_append]
 congr 1
 refine List.map_congr_left fun n hn => ren_ext fun h0 => ?_
 exact fold_ext_mem.2 (.inl ⟨hn, h0⟩)
theorem Side.on {B : Nat} {r r' : Option Nat} {a b c : World} (h : Side B r a b) (hr : r' = r ∨ ∃ k, r' = some k ∧ a.heap.size ≤ k) (k : Side B r' b c) : Side B r a c :=
 ⟨k.os.trans h.os, k.tape.trans h.tape, k.output.trans h.output, Nat.le_trans h.size k.size, fun i hi hp hne => (k.block i (Nat.lt_of_lt_of_le hi h.size) hp (fun e => by
  rcases hr with e2 | ⟨q, e2, hq⟩
  ·exact hne (by rw [e, e2])
  ·rw [e2] at e; injection e with e; omega)).trans (h.block i hi hp hne)⟩
theorem Side.grow {B : Nat} {r q : Option Nat} {a b c : World} (h : Side B r a b) (hg : b.grownBy c q) (hq : ∀ k, q = some k → a.heap.size ≤ k) : Side B r a c :=
 ⟨hg.os.trans h.os, hg.tape.trans h.tape, hg.output.trans h.output, Nat.le_trans h.size hg.size, fun i hi hp hne => (hg.block i (Nat.lt_of_lt_of_le hi h.size) (fun e => by have := hq i e.symm; omega)).trans (h.block i hi hp hne)⟩
theorem Side.allocs {B : Nat} {r : Option Nat} {a b : World} (h : Side B r a b) (o : Obj) : Side B r a (b.alloc o) :=
 ⟨h.os, h.tape, h.output, by have := h.size; simp; omega, fun i hi hp hne => (Below.heap_alloc b o i (Nat.lt_of_lt_of_le hi h.size)).trans (h.block i hi hp hne)⟩
def HeadRG (w : World) (B m : Nat) (o t : List Int) (S0 : Option Addr) (out i : Value) (wr : World) : Prop :=
 ∃ (k : Nat) (O : Option Addr) (on oc : Nat) (S : Option Addr) (sn sc : Nat), k ≤ m ∧ i = .int .i64 k ∧ out = .slice O on oc ∧ Own wr w.heap.size (.slice O on oc) (renF o (t.take k)) ∧ Row wr B 24 #[.slice S sn sc] ∧
  Own wr (B + 1) (.slice S sn sc) ((ordF o (t.take k)).map vn) ∧ (blk S = blk S0 ∨ ∃ q, blk S = some q ∧ w.heap.size ≤ q) ∧ (blk O = none ∨ blk O ≠ blk S) ∧ Side B (blk S0) w wr
def AnsRG (w : World) (B : Nat) (o t : List Int) (S0 : Option Addr) (e : Ending) (w' : World) : Prop :=
 ∃ O on oc S sn sc, e = .returned (.slice O on oc) ∧ Own w' w.heap.size (.slice O on oc) (renF o t) ∧ Row w' B 24 #[.slice S sn sc] ∧ Own w' (B + 1) (.slice S sn sc) ((ordF o t).map vn) ∧ (blk O = none ∨ blk O ≠ blk S) ∧ Side B (blk S0) w w'
set_option maxHeartbeats 4000000 in
theorem fillRen (B : Nat) (A : Option Addr) (m c : Nat) (o t : List Int) (S0 : Option Addr) (n0 c0 : Nat) (w : World) (hr : Row w B 24 #[.slice S0 n0 c0]) (hS : Own w (B + 1) (.slice S0 n0 c0) (o.map vn)) (h : Seg w B A m t) (hm : m ≤ 60) (ho : o.length ≤ 60) (hv : ∀ x ∈ t, -24 ≤ x) :
  Calls Try.prog 48 #[.func (.func 104) #[] #[.pointer (some ⟨B, 0, none⟩)], .slice A m c] w (AnsRG w B o t S0) := by
 have HL := hid h.1
 have HV := hid hv
 have hBw := hr.lt
 have HG := hid (fun k hk => (blk_lt hS k hk).1)
 have S1 : HeadRG w B m o t S0 (.slice none 0 0) (.int .i64 0) w := ⟨0, none, 0, 0, S0, n0, c0, Nat.zero_le _, rfl, rfl, by simpa [renF] using Own.nil w w.heap.size, hr, by simpa [ordF] using hS, .inl rfl, .inl rfl, Side.of_below (Below.refl _ _)⟩
 have HS0 := hid S1
 clear S1 hv hr hS
 go_enter Try.func48, Try.ntmps48
 go_wp2
 go_loopw [5, 10] (fun out i wr => HeadRG w B m o t S0 out i wr) (fun _ i _ => m - (intOf i).toNat)
 case atStart => exact HS0.out
 case round =>
  obtain ⟨k, O, on, oc, S, sn, sc, hk, rfl, rfl, hO, hr, hs, hat0, hne, hsd⟩ := hrel
  clear HS0
  have hon : on ≤ 60 := by rw [Own.len hO]; unfold renF; simp; omega
  have hsn : sn ≤ 1000 := by have h1 := Own.len hs; have h2 := ordF_len o (t.take k); simp at h1 h2; omega
  have hBlt := hr.lt
  have hwz := hsd.size
  by_cases hlt : k < m
  ·obtain ⟨b, off, x, rfl, hbb, hx, ex⟩ := h.spot hlt
   have hx1 : wr.cell? ⟨b, off + k, none⟩ = some (.int .i64 x) := by
    have hneS : some b ≠ blk S0 := fun e => by have := HG.out b e.symm; omega
    exact (World.cell?_of_block (hsd.block b (by omega) (by omega) hneS)).trans hx
   have hmem := mem_of_get (by rw [HL.out]; exact hlt) ex.out
   have hx24 : -24 ≤ x := HV.out x hmem
   have E := hid (renF_take (o := o) (t := t) (k := k) (by rw [HL.out]; exact hlt) ex.out)
   have EO := hid (ordF_take (o := o) (t := t) (k := k) (by rw [HL.out]; exact hlt) ex.out)
   clear hmem hx h ex
   by_cases hpos : 0 ≤ x
   ·have R := hid (show ren (extV (ordF o (t.take k)) x) x = x by unfold ren; rw [if_neg (by omega)])
    have R2 := hid (show extV (ordF o (t.take k)) x = ordF o (t.take k) by unfold extV; rw [if_neg (by omega)])
    have ho1 := Own.alloc hO (.cells #[.int .i64 x] 2)
    have hs1 := Own.alloc hs (.cells #[.int .i64 x] 2)
    have hr1 := hr.alloc (.cells #[.int .i64 x] 2)
    go_wp2_with (at_builtin; refine appAllAt rfl _ _ rfl w.heap.size O on oc (renF o (t.take k)) rfl ho1 (some ⟨wr.heap.size, 0, none⟩) 1 1 (wr.heap.size + 1) [x] rfl (by simpa using one_seg wr x) (by omega) (by omega) (by omega) (by simp; omega) ?_; intro O' oc' w2 ho2 hg hat)
    have S1 : HeadRG w B m o t S0 (.slice O' (on + 1) oc') (.int .i64 ((k : Int) + 1)) w2 := by
     refine ⟨k + 1, O', on + 1, oc', S, sn, sc, hlt, by simp, rfl, by rw [E.out, R.out]; exact ho2, Row.away hr1 hg (own_ne ho1 hr1), by rw [EO.out, R2.out]; exact Own.kept hs1 hg (ne_flip hne), hat0, ?_, ?_⟩
     ·rcases hat with h | h
      ·rw [h]; exact hne
      ·exact ne_new hs1 _ (Nat.le_refl _) h
     ·exact (hsd.allocs _).grow hg (fun q hq => (blk_lt hO q hq).1)
    have S := hid S1
    clear S1 ho2 hg hat ho1 hs1 hr1 hO hs hr hne hsd R R2 E EO hat0
    go_wp2
    go_roundw
    case rel => exact S.out
    case measure => simp [intOf]; omega
   ·have hneg : x < 0 := by omega
    have R := hid (show ren (extV (ordF o (t.take k)) x) x = -1 - (idx (ext (ordF o (t.take k)) x) x : Int) by unfold ren extV; rw [if_pos hneg, if_pos hneg])
    have R2 := hid (show extV (ordF o (t.take k)) x = ext (ordF o (t.take k)) x by unfold extV; rw [if_pos hneg])
    have L := hid (ren1 B S sn sc _ x wr hr hs hx24 hneg hsn)
    go_wp2_with (first
     | (go_at_call 104; refine L.out.mono ?_; rintro e w1 ⟨A1, c1, S1, sn1, sc1, rfl, s1, hc1, r1, os1, hat1, sd⟩; have ho1 := Own.side hO sd hr hne; have hz1 := sd.size; have hne1 : blk O = none ∨ blk O ≠ blk S1 := (by rcases hat1 with h | ⟨q, h, hq⟩; (rw [h]; exact hne); (rw [h]; exact (by cases e : blk O with | none => exact .inl rfl | some z => exact .inr (fun e2 => by injection e2 with e2; have := (blk_lt hO z e).2; omega)))))
     | (at_builtin; refine appAllAt rfl _ _ rfl w.heap.size O on oc (renF o (t.take k)) rfl ho1 A1 1 c1 w1.heap.size _ rfl s1 (by omega) (by omega) (by omega) (by omega) ?_; intro O' oc' w2 ho2 hg hat))
    have SS : HeadRG w B m o t S0 (.slice O' (on + 1) oc') (.int .i64 ((k : Int) + 1)) w2 := by
     refine ⟨k + 1, O', on + 1, oc', S1, sn1, sc1, hlt, by simp, rfl, by rw [E.out, R.out]; exact ho2, Row.away r1 hg (own_ne ho1 r1), by rw [EO.out, R2.out]; exact Own.kept os1 hg (ne_flip hne1), ?_, ?_, ?_⟩
     ·rcases hat1 with h | ⟨q, h, hq⟩
      ·rw [h]; exact hat0
      ·exact .inr ⟨q, h, by omega⟩
     ·rcases hat with h | h
      ·rw [h]; exact hne1
      ·exact ne_new os1 _ (Nat.le_refl _) h
     ·exact (hsd.on hat0 sd).grow hg (fun q hq => (blk_lt ho1 q hq).1)
    have HSS := hid SS
    clear SS ho2 hg hat ho1 s1 r1 os1 hat1 sd hne1 hO hs hr hne hsd R R2 E EO L hat0
    go_wp2
    go_roundw
    case rel => exact HSS.out
    case measure => simp [intOf]; omega
  ·rw [List.take_of_length_le (by rw [HL.out]; omega)] at hO hs
   have F : AnsRG w B o t S0 (.returned (.slice O on oc)) wr := ⟨O, on, oc, S, sn, sc, rfl, hO, hr, hs, hne, hsd⟩
   have HF := hid F
   clear F hO hs hr hne hsd h
   go_wp2
   go_ret
   exact HF.out
theorem renaming_ (w : World) : Calls Try.prog 97 #[] w fun e w' => e = .returned (.func (.func 104) #[] #[.pointer (some ⟨w.heap.size, 0, none⟩)]) ∧ w' = w.alloc (.cells #[.slice none 0 0] 24) := by
 have hmf : ∀ (fn : Fn) (first cap : Array Value) (w : World), (Instr.makeFunc fn first cap).run Try.prog w = .ok (.func fn first cap) w := fun _ _ _ _ => rfl
 go_enter Try.func97, Try.ntmps97
 go_wp2
 go_ret
 exact ⟨rfl, rfl⟩
set_option maxHeartbeats 4000000 in
theorem implRenamed (A A' : Option Addr) (n c m c' : Nat) (sg t : List Int) (w : World) (h : Seg w w.heap.size A n sg) (h' : Seg w w.heap.size A' m t) (hn : n ≤ 1048576) (hm : m ≤ 1048576) :
  Calls Try.prog 73 #[.agg #[.slice A n c], .slice A' m c'] w (AnsList w (renI sg t)) := by
 obtain ⟨W, hW⟩ : ∃ W, W = w.alloc (.cells #[.slice A n c] 26) := ⟨_, rfl⟩
 have bel : Below w.heap.size w W := by rw [hW]; exact (Below.refl _ _).alloc (Nat.le_refl _) _
 have s := (h.below bel).more bel.size
 have s' := (h'.below bel).more bel.size
 have HW := hid hW
 have HL := hid h'.1
 have L := hid (implTermOk A A' n c m c' sg t W s s' hn hm)
 clear hW h h' s
 cases hok : termOkB sg t with
 | false =>
  have HS := hid hok
  clear hok s'
  go_enter Try.func73, Try.ntmps73
  go_wp2_with fail
  rw [← HW.out]
  refine L.out.mono ?_
  rintro e w1 ⟨he, bb⟩
  rw [HS.out] at he
  subst he
  have F : AnsList w (renI sg t) (.returned (.slice none 0 0)) w1 := ⟨_, _, _, rfl, by unfold renI; rw [if_neg (by rw [HS.out]; simp)]; exact Own.nil _ _, next_trans bel bb⟩
  have HF := hid F
  clear F bb bel
  go_wp2
  go_ret
  exact HF.out
 | true =>
  have HS := hid hok
  have HV := hid (fun x hx => (term_mem (x := x) hok hx).1)
  have H60 : m ≤ 60 := by rw [← HL.out]; exact (term_len hok).2
  clear hok
  go_enter Try.func73, Try.ntmps73
  go_wp2_with fail
  rw [← HW.out]
  refine L.out.mono ?_
  rintro e w1 ⟨he, bb⟩
  rw [HS.out] at he
  subst he
  replace bel := next_trans bel bb
  have s1 := (s'.next bb)
  have s2 := s1.alloc (Nat.le_refl _) (.cells #[.slice none 0 0] 24)
  have hz := bel.size
  have L2 := hid (fillRen w1.heap.size A' m c' [] t none 0 0 _ (Row.new w1 24 #[.slice none 0 0]) (by simpa using Own.nil _ _) s2 H60 (by simp) HV.out)
  have LR := hid (renaming_ w1)
  clear bb L s' s1 s2
  go_wp2_with fail
  refine LR.out.mono ?_
  rintro e w2 ⟨rfl, rfl⟩
  go_wp2_with fail
  refine L2.out.mono ?_
  rintro e w3 ⟨O, on, oc, S, sn, sc, rfl, ho, -, -, -, sd⟩
  have F : AnsList w (renI sg t) (.returned (.slice O on oc)) w3 := ⟨O, on, oc, rfl, by unfold renI; rw [if_pos HS.out]; exact Own.lower ho (by simp; omega), (bel.alloc hz _).trans ((sd.below (fun k hk => by cases hk) (by simp)).mono hz)⟩
  have HF := hid F
  clear F ho sd bel L2 LR
  go_wp2
  go_ret
  exact HF.out
end renImpl
end
section
open Go.Lib (hid)
open List (setIfInBounds_toArray set_cons_zero set_cons_succ getElem_toArray getElem_cons_zero getElem_cons_succ)
namespace variant
open Go.RowKit base ints sig same term termOk marks sym termFacts varsOf renMath rename renImpl
set_option maxRecDepth 100000
def variantB (sg a b : List Int) : Bool := termOkB sg a && (termOkB sg b && decide (renL a = renL b))
theorem variant_a {sg a b : List Int} (h : termOkB sg a = false) : variantB sg a b = false := by unfold variantB; rw [h, Bool.false_and]
theorem variant_b {sg a b : List Int} (h : termOkB sg b = false) : variantB sg a b = false := by unfold variantB; rw [h, Bool.false_and, Bool.and_false]
theorem variant_ab {sg a b : List Int} (h : termOkB sg a = true) (h' : termOkB sg b = true) : variantB sg a b = decide (renL a = renL b) := by unfold variantB; rw [h, h', Bool.true_and, Bool.true_and]
set_option maxHeartbeats 4000000 in
theorem specVariantIn (A A' B' : Option Addr) (n c m c' q cq : Nat) (sg a b : List Int) (w : World) (h : Seg w w.heap.size A n sg) (h' : Seg w w.heap.size A' m a) (h2 : Seg w w.heap.size B' q b) (hn : n ≤ 1048576) (hm : m ≤ 1048576) (hq : q ≤ 1048576) :
  Calls Try.prog 60 #[.agg #[.slice A n c], .slice A' m c', .slice B' q cq] w (AnsB w (variantB sg a b)) := by
 obtain ⟨W, hW⟩ : ∃ W, W = w.alloc (.cells #[.slice A n c] 26) := ⟨_, rfl⟩
 have rA : Row W w.heap.size 26 #[.slice A n c] := by rw [hW]; exact Row.new _ _ _
 have bel : Below w.heap.size w W := by rw [hW]; exact (Below.refl _ _).alloc (Nat.le_refl _) _
 have s := h.next bel
 have s1 := h'.next bel
 have s2 := h2.next bel
 have HW := hid hW
 have L := hid (specTermOk A A' n c m c' sg a W s s1 hn hm)
 have H1 := hid h'.1
 have H2 := hid h2.1
 clear hW h h' h2
 cases hok : termOkB sg a with
 | false =>
  have HS := hid hok
  clear hok s s1 s2
  go_enter Try.func60, Try.ntmps60
  go_wp2_with fail
  rw [← HW.out]
  refine L.out.mono ?_
  rintro e w1 ⟨he, bb⟩
  rw [HS.out] at he
  subst he
  have F := hid (ansB (b := variantB sg a b) (a := false) (by rw [variant_a HS.out]) (next_trans bel bb))
  clear bb bel rA
  go_wp2
  go_ret
  exact F.out
 | true =>
  have HS := hid hok
  clear hok
  go_enter Try.func60, Try.ntmps60
  go_wp2_with fail
  rw [← HW.out]
  refine L.out.mono ?_
  rintro e w1 ⟨he, bb⟩
  rw [HS.out] at he
  subst he
  replace s := s.next bb
  replace s1 := s1.next bb
  replace s2 := s2.next bb
  have cA : w1.cell? ⟨w.heap.size, 0, none⟩ = some (.slice A n c) := (rA.next bb).cell 0
  replace bel := next_trans bel bb
  have L2 := hid (specTermOk A B' n c q cq sg b w1 s s2 hn hq)
  clear bb L rA
  cases hok2 : termOkB sg b with
  | false =>
   have HS2 := hid hok2
   clear hok2 s s1 s2
   go_wp2_with fail
   refine L2.out.mono ?_
   rintro e w2 ⟨he, bb⟩
   rw [HS2.out] at he
   subst he
   have F := hid (ansB (b := variantB sg a b) (a := false) (by rw [variant_b HS2.out]) (next_trans bel bb))
   clear bb bel cA
   go_wp2
   go_ret
   exact F.out
  | true =>
   have HS2 := hid hok2
   clear hok2
   go_wp2_with fail
   refine L2.out.mono ?_
   rintro e w2 ⟨he, bb⟩
   rw [HS2.out] at he
   subst he
   replace s1 := s1.next bb
   replace s2 := s2.next bb
   replace bel := next_trans bel bb
   clear bb cA L2 s
   go_wp2_with fail
   refine (l2Renamed A' m c' a _ s1 hm).mono ?_
   rintro e w3 ⟨X, xn, xc, rfl, ox, bb⟩
   replace s2 := s2.next bb
   replace bel := next_trans bel bb
   clear bb s1
   go_wp2_with fail
   refine (l2Renamed B' q cq b _ s2 hq).mono ?_
   rintro e w4 ⟨Y, yn, yc, rfl, oy, bb⟩
   have hxn : xn ≤ 1048576 := by rw [Own.len ox, ren_len, H1.out]; exact hm
   have hyn : yn ≤ 1048576 := by rw [Own.len oy, ren_len, H2.out]; exact hq
   have L3 := hid (specSame X Y xn yn xc yc (renL a) (renL b) w4 (Own.seg (ox.next bb)) (Own.seg oy) hxn hyn)
   replace bel := next_trans bel bb
   clear bb s2 ox oy
   go_wp2_with fail
   refine L3.out.mono ?_
   rintro e w5 ⟨rfl, d, rfl⟩
   have F := hid (ansB (b := variantB sg a b) (variant_ab HS.out HS2.out).symm (below_drewN bel d))
   clear bel L3
   generalize decide (renL a = renL b) = z at *
   go_wp2
   go_ret
   exact F.out
set_option maxHeartbeats 2000000 in
theorem implVariantIn (A A' B' : Option Addr) (n c m c' q cq : Nat) (sg a b : List Int) (w : World) (h : Seg w w.heap.size A n sg) (h' : Seg w w.heap.size A' m a) (h2 : Seg w w.heap.size B' q b) (hn : n ≤ 1048576) (hm : m ≤ 1048576) (hq : q ≤ 1048576) :
  Calls Try.prog 56 #[.agg #[.slice A n c], .slice A' m c', .slice B' q cq] w (AnsB w (variantB sg a b)) := by
 obtain ⟨W, hW⟩ : ∃ W, W = w.alloc (.cells #[.slice A n c] 26) := ⟨_, rfl⟩
 have rA : Row W w.heap.size 26 #[.slice A n c] := by rw [hW]; exact Row.new _ _ _
 have bel : Below w.heap.size w W := by rw [hW]; exact (Below.refl _ _).alloc (Nat.le_refl _) _
 have s := (h.next bel).drew
 have s1 := (h'.next bel).drew
 have s2 := (h2.next bel).drew
 have HW := hid hW
 have H1 := hid h'.1
 have H2 := hid h2.1
 have cA : W.cell? ⟨w.heap.size, 0, none⟩ = some (.slice A n c) := rA.cell 0
 replace rA := rA.drew
 replace bel := bel.drew
 have L := hid (implTermOk A A' n c m c' sg a W.drew s s1 hn hm)
 clear hW h h' h2
 cases hok : termOkB sg a with
 | false =>
  have HS := hid hok
  clear hok s s1 s2
  go_enter Try.func56, Try.ntmps56
  go_wp2_with fail
  rw [← HW.out]
  refine wp_region_held_drew (S := (fun w' => w'.cell? ⟨w.heap.size, 0, none⟩ = some (.slice A n c))) (by kernel_rfl) cA (fun hHeld => ?_)
  refine wpAnyH_take (i := 0) (v := ?_) rfl (by kernel_rfl) (by kernel_rfl) (by kernel_rfl) (fun _ _ _ h => h) (Or.inl ⟨by rfl, ?_⟩) (by assumption) ?_
  rotate_left 1
  ·(intro w0 hSw; (try dsimp only at hSw); go_simp; try with_reducible rfl)
  try simp only [Act.put, setIfInBounds_toArray, set_cons_zero, set_cons_succ, getElem_toArray, getElem_cons_zero, getElem_cons_succ]
  refine wpAnyH_take (i := 1) (v := ?_) rfl (by kernel_rfl) (by kernel_rfl) (by kernel_rfl) (fun _ _ _ h => h) (Or.inl ⟨by rfl, ?_⟩) (by assumption) ?_
  rotate_left 1
  ·(intro w0 hSw; (try dsimp only at hSw); go_simp; try with_reducible rfl)
  try simp only [Act.put, setIfInBounds_toArray, set_cons_zero, set_cons_succ, getElem_toArray, getElem_cons_zero, getElem_cons_succ]
  refine wpAnyH_ready (rs := [2]) (by kernel_rfl) (by simp) (AllReadyH.cons rfl (fun K hK => ?_) AllReadyH.nil)
  go_simp
  refine L.out.mono ?_; rintro e w1 ⟨he, bb⟩; rw [HS.out] at he; subst he; have c1 : w1.cell? ⟨w.heap.size, 0, none⟩ = some (.slice A n c) := (rA.next bb).cell 0; go_wp2_with fail
  refine hK.out _ _ ?_ (fun hHeld => ?_)
  ·first | assumption | (dsimp only; assumption)
  clear hK K
  try simp only [Act.put, setIfInBounds_toArray, set_cons_zero, set_cons_succ, getElem_toArray, getElem_cons_zero, getElem_cons_succ]
  refine wpAnyH_take (i := 3) (v := ?_) rfl (by kernel_rfl) (by kernel_rfl) (by kernel_rfl) (fun _ _ _ h => h) (Or.inl ⟨by rfl, ?_⟩) (by assumption) ?_
  rotate_left 1
  ·(intro w0 hSw; (try dsimp only at hSw); go_simp; try with_reducible rfl)
  try simp only [Act.put, setIfInBounds_toArray, set_cons_zero, set_cons_succ, getElem_toArray, getElem_cons_zero, getElem_cons_succ]
  refine wpAnyH_take (i := 4) (v := undef) rfl (by kernel_rfl) (by kernel_rfl) (by kernel_rfl) (fun _ _ _ h => h) (Or.inr ⟨by rfl, rfl⟩) (by assumption) ?_
  try simp only [Act.put, setIfInBounds_toArray, set_cons_zero, set_cons_succ, getElem_toArray, getElem_cons_zero, getElem_cons_succ]
  refine wpAnyH_take (i := 5) (v := undef) rfl (by kernel_rfl) (by kernel_rfl) (by kernel_rfl) (fun _ _ _ h => h) (Or.inr ⟨by rfl, rfl⟩) (by assumption) ?_
  try simp only [Act.put, setIfInBounds_toArray, set_cons_zero, set_cons_succ, getElem_toArray, getElem_cons_zero, getElem_cons_succ]
  refine wpAnyH_take (i := 6) (v := undef) rfl (by kernel_rfl) (by kernel_rfl) (by kernel_rfl) (fun _ _ _ h => h) (Or.inr ⟨by rfl, rfl⟩) (by assumption) ?_
  try simp only [Act.put, setIfInBounds_toArray, set_cons_zero, set_cons_succ, getElem_toArray, getElem_cons_zero, getElem_cons_succ]
  refine wpAnyH_take (i := 7) (v := ?_) rfl (by kernel_rfl) (by kernel_rfl) (by kernel_rfl) (fun _ _ _ h => h) (Or.inl ⟨by rfl, ?_⟩) (by assumption) ?_
  rotate_left 1
  ·(intro w0 hSw; (try dsimp only at hSw); go_simp; try with_reducible rfl)
  try simp only [Act.put, setIfInBounds_toArray, set_cons_zero, set_cons_succ, getElem_toArray, getElem_cons_zero, getElem_cons_succ]
  refine wpAnyH_take (i := 8) (v := ?_) rfl (by kernel_rfl) (by kernel_rfl) (by kernel_rfl) (fun _ _ _ h => h) (Or.inl ⟨by rfl, ?_⟩) (by assumption) ?_
  rotate_left 1
  ·(intro w0 hSw; (try dsimp only at hSw); go_simp; try with_reducible rfl)
  try simp only [Act.put, setIfInBounds_toArray, set_cons_zero, set_cons_succ, getElem_toArray, getElem_cons_zero, getElem_cons_succ]
  refine wpAnyH_take (i := 9) (v := undef) rfl (by kernel_rfl) (by kernel_rfl) (by kernel_rfl) (fun _ _ _ h => h) (Or.inr ⟨by rfl, rfl⟩) (by assumption) ?_
  try simp only [Act.put, setIfInBounds_toArray, set_cons_zero, set_cons_succ, getElem_toArray, getElem_cons_zero, getElem_cons_succ]
  refine wpAnyH_take (i := 10) (v := undef) rfl (by kernel_rfl) (by kernel_rfl) (by kernel_rfl) (fun _ _ _ h => h) (Or.inr ⟨by rfl, rfl⟩) (by assumption) ?_
  try simp only [Act.put, setIfInBounds_toArray, set_cons_zero, set_cons_succ, getElem_toArray, getElem_cons_zero, getElem_cons_succ]
  refine wpAnyH_take (i := 11) (v := undef) rfl (by kernel_rfl) (by kernel_rfl) (by kernel_rfl) (fun _ _ _ h => h) (Or.inr ⟨by rfl, rfl⟩) (by assumption) ?_
  try simp only [Act.put, setIfInBounds_toArray, set_cons_zero, set_cons_succ, getElem_toArray, getElem_cons_zero, getElem_cons_succ]
  refine wpAnyH_take (i := 12) (v := undef) rfl (by kernel_rfl) (by kernel_rfl) (by kernel_rfl) (fun _ _ _ h => h) (Or.inr ⟨by rfl, rfl⟩) (by assumption) ?_
  try simp only [Act.put, setIfInBounds_toArray, set_cons_zero, set_cons_succ, getElem_toArray, getElem_cons_zero, getElem_cons_succ]
  refine wpAnyH_take (i := 13) (v := undef) rfl (by kernel_rfl) (by kernel_rfl) (by kernel_rfl) (fun _ _ _ h => h) (Or.inr ⟨by rfl, rfl⟩) (by assumption) ?_
  try simp only [Act.put, setIfInBounds_toArray, set_cons_zero, set_cons_succ, getElem_toArray, getElem_cons_zero, getElem_cons_succ]
  refine wpAnyH_take (i := 14) (v := undef) rfl (by kernel_rfl) (by kernel_rfl) (by kernel_rfl) (fun _ _ _ h => h) (Or.inr ⟨by rfl, rfl⟩) (by assumption) ?_
  try simp only [Act.put, setIfInBounds_toArray, set_cons_zero, set_cons_succ, getElem_toArray, getElem_cons_zero, getElem_cons_succ]
  refine wpAnyH_take (i := 15) (v := undef) rfl (by kernel_rfl) (by kernel_rfl) (by kernel_rfl) (fun _ _ _ h => h) (Or.inr ⟨by rfl, rfl⟩) (by assumption) ?_
  try simp only [Act.put, setIfInBounds_toArray, set_cons_zero, set_cons_succ, getElem_toArray, getElem_cons_zero, getElem_cons_succ]
  refine wpAnyH_take (i := 16) (v := ?_) rfl (by kernel_rfl) (by kernel_rfl) (by kernel_rfl) (fun _ _ _ h => h) (Or.inl ⟨by rfl, ?_⟩) (by assumption) ?_
  rotate_left 1
  ·(intro w0 hSw; (try dsimp only at hSw); go_simp; try with_reducible rfl)
  try simp only [Act.put, setIfInBounds_toArray, set_cons_zero, set_cons_succ, getElem_toArray, getElem_cons_zero, getElem_cons_succ]
  refine wpAnyH_take (i := 17) (v := ?_) rfl (by kernel_rfl) (by kernel_rfl) (by kernel_rfl) (fun _ _ _ h => h) (Or.inl ⟨by rfl, ?_⟩) (by assumption) ?_
  rotate_left 1
  ·(intro w0 hSw; (try dsimp only at hSw); go_simp; try with_reducible rfl)
  try simp only [Act.put, setIfInBounds_toArray, set_cons_zero, set_cons_succ, getElem_toArray, getElem_cons_zero, getElem_cons_succ]
  refine wpAnyH_done (by kernel_rfl) ?_ _
  have F := hid (ansB (b := variantB sg a b) (a := false) (by rw [variant_a HS.out]) (next_trans bel bb))
  go_wp2
  go_ret
  exact F.out
 | true =>
  have HS := hid hok
  clear hok
  cases hok2 : termOkB sg b with
  | false =>
   have HS2 := hid hok2
   clear hok2
   go_enter Try.func56, Try.ntmps56
   go_wp2_with fail
   rw [← HW.out]
   refine wp_region_held_drew (S := (fun w' => w'.cell? ⟨w.heap.size, 0, none⟩ = some (.slice A n c))) (by kernel_rfl) cA (fun hHeld => ?_)
   refine wpAnyH_take (i := 0) (v := ?_) rfl (by kernel_rfl) (by kernel_rfl) (by kernel_rfl) (fun _ _ _ h => h) (Or.inl ⟨by rfl, ?_⟩) (by assumption) ?_
   rotate_left 1
   ·(intro w0 hSw; (try dsimp only at hSw); go_simp; try with_reducible rfl)
   try simp only [Act.put, setIfInBounds_toArray, set_cons_zero, set_cons_succ, getElem_toArray, getElem_cons_zero, getElem_cons_succ]
   refine wpAnyH_take (i := 1) (v := ?_) rfl (by kernel_rfl) (by kernel_rfl) (by kernel_rfl) (fun _ _ _ h => h) (Or.inl ⟨by rfl, ?_⟩) (by assumption) ?_
   rotate_left 1
   ·(intro w0 hSw; (try dsimp only at hSw); go_simp; try with_reducible rfl)
   try simp only [Act.put, setIfInBounds_toArray, set_cons_zero, set_cons_succ, getElem_toArray, getElem_cons_zero, getElem_cons_succ]
   refine wpAnyH_ready (rs := [2]) (by kernel_rfl) (by simp) (AllReadyH.cons rfl (fun K hK => ?_) AllReadyH.nil)
   go_simp
   refine L.out.mono ?_; rintro e w1 ⟨he, bb⟩; rw [HS.out] at he; subst he; have t0 := s.next bb; have t1 := s1.next bb; have t2 := s2.next bb; have tr := rA.next bb; have tb := next_trans bel bb; have c1 : w1.cell? ⟨w.heap.size, 0, none⟩ = some (.slice A n c) := tr.cell 0; clear s s1 s2 rA bel bb L; go_wp2_with fail
   refine hK.out _ _ ?_ (fun hHeld => ?_)
   ·first | assumption | (dsimp only; assumption)
   clear hK K
   try simp only [Act.put, setIfInBounds_toArray, set_cons_zero, set_cons_succ, getElem_toArray, getElem_cons_zero, getElem_cons_succ]
   refine wpAnyH_take (i := 3) (v := ?_) rfl (by kernel_rfl) (by kernel_rfl) (by kernel_rfl) (fun _ _ _ h => h) (Or.inl ⟨by rfl, ?_⟩) (by assumption) ?_
   rotate_left 1
   ·(intro w0 hSw; (try dsimp only at hSw); go_simp; try with_reducible rfl)
   try simp only [Act.put, setIfInBounds_toArray, set_cons_zero, set_cons_succ, getElem_toArray, getElem_cons_zero, getElem_cons_succ]
   refine wpAnyH_take (i := 4) (v := ?_) rfl (by kernel_rfl) (by kernel_rfl) (by kernel_rfl) (fun _ _ _ h => h) (Or.inl ⟨by rfl, ?_⟩) (by assumption) ?_
   rotate_left 1
   ·(intro w0 hSw; (try dsimp only at hSw); go_simp; try with_reducible rfl)
   try simp only [Act.put, setIfInBounds_toArray, set_cons_zero, set_cons_succ, getElem_toArray, getElem_cons_zero, getElem_cons_succ]
   refine wpAnyH_take (i := 5) (v := ?_) rfl (by kernel_rfl) (by kernel_rfl) (by kernel_rfl) (fun _ _ _ h => h) (Or.inl ⟨by rfl, ?_⟩) (by assumption) ?_
   rotate_left 1
   ·(intro w0 hSw; (try dsimp only at hSw); go_simp; try with_reducible rfl)
   try simp only [Act.put, setIfInBounds_toArray, set_cons_zero, set_cons_succ, getElem_toArray, getElem_cons_zero, getElem_cons_succ]
   refine wpAnyH_ready (rs := [6]) (by kernel_rfl) (by simp) (AllReadyH.cons rfl (fun K hK => ?_) AllReadyH.nil)
   go_simp
   refine (implTermOk A B' n c q cq sg b w1 t0 t2 hn hq).mono ?_; rintro e w2 ⟨he, bb2⟩; rw [HS2.out] at he; subst he; have u0 := t0.next bb2; have u1 := t1.next bb2; have u2 := t2.next bb2; have ur := tr.next bb2; have ub := next_trans tb bb2; have c2 : w2.cell? ⟨w.heap.size, 0, none⟩ = some (.slice A n c) := ur.cell 0; clear t0 t1 t2 tr tb bb2; go_wp2_with fail
   refine hK.out _ _ ?_ (fun hHeld => ?_)
   ·first | assumption | (dsimp only; assumption)
   clear hK K
   try simp only [Act.put, setIfInBounds_toArray, set_cons_zero, set_cons_succ, getElem_toArray, getElem_cons_zero, getElem_cons_succ]
   refine wpAnyH_take (i := 7) (v := ?_) rfl (by kernel_rfl) (by kernel_rfl) (by kernel_rfl) (fun _ _ _ h => h) (Or.inl ⟨by rfl, ?_⟩) (by assumption) ?_
   rotate_left 1
   ·(intro w0 hSw; (try dsimp only at hSw); go_simp; try with_reducible rfl)
   try simp only [Act.put, setIfInBounds_toArray, set_cons_zero, set_cons_succ, getElem_toArray, getElem_cons_zero, getElem_cons_succ]
   refine wpAnyH_take (i := 8) (v := ?_) rfl (by kernel_rfl) (by kernel_rfl) (by kernel_rfl) (fun _ _ _ h => h) (Or.inl ⟨by rfl, ?_⟩) (by assumption) ?_
   rotate_left 1
   ·(intro w0 hSw; (try dsimp only at hSw); go_simp; try with_reducible rfl)
   try simp only [Act.put, setIfInBounds_toArray, set_cons_zero, set_cons_succ, getElem_toArray, getElem_cons_zero, getElem_cons_succ]
   refine wpAnyH_take (i := 9) (v := undef) rfl (by kernel_rfl) (by kernel_rfl) (by kernel_rfl) (fun _ _ _ h => h) (Or.inr ⟨by rfl, rfl⟩) (by assumption) ?_
   try simp only [Act.put, setIfInBounds_toArray, set_cons_zero, set_cons_succ, getElem_toArray, getElem_cons_zero, getElem_cons_succ]
   refine wpAnyH_take (i := 10) (v := undef) rfl (by kernel_rfl) (by kernel_rfl) (by kernel_rfl) (fun _ _ _ h => h) (Or.inr ⟨by rfl, rfl⟩) (by assumption) ?_
   try simp only [Act.put, setIfInBounds_toArray, set_cons_zero, set_cons_succ, getElem_toArray, getElem_cons_zero, getElem_cons_succ]
   refine wpAnyH_take (i := 11) (v := undef) rfl (by kernel_rfl) (by kernel_rfl) (by kernel_rfl) (fun _ _ _ h => h) (Or.inr ⟨by rfl, rfl⟩) (by assumption) ?_
   try simp only [Act.put, setIfInBounds_toArray, set_cons_zero, set_cons_succ, getElem_toArray, getElem_cons_zero, getElem_cons_succ]
   refine wpAnyH_take (i := 12) (v := undef) rfl (by kernel_rfl) (by kernel_rfl) (by kernel_rfl) (fun _ _ _ h => h) (Or.inr ⟨by rfl, rfl⟩) (by assumption) ?_
   try simp only [Act.put, setIfInBounds_toArray, set_cons_zero, set_cons_succ, getElem_toArray, getElem_cons_zero, getElem_cons_succ]
   refine wpAnyH_take (i := 13) (v := undef) rfl (by kernel_rfl) (by kernel_rfl) (by kernel_rfl) (fun _ _ _ h => h) (Or.inr ⟨by rfl, rfl⟩) (by assumption) ?_
   try simp only [Act.put, setIfInBounds_toArray, set_cons_zero, set_cons_succ, getElem_toArray, getElem_cons_zero, getElem_cons_succ]
   refine wpAnyH_take (i := 14) (v := undef) rfl (by kernel_rfl) (by kernel_rfl) (by kernel_rfl) (fun _ _ _ h => h) (Or.inr ⟨by rfl, rfl⟩) (by assumption) ?_
   try simp only [Act.put, setIfInBounds_toArray, set_cons_zero, set_cons_succ, getElem_toArray, getElem_cons_zero, getElem_cons_succ]
   refine wpAnyH_take (i := 15) (v := undef) rfl (by kernel_rfl) (by kernel_rfl) (by kernel_rfl) (fun _ _ _ h => h) (Or.inr ⟨by rfl, rfl⟩) (by assumption) ?_
   try simp only [Act.put, setIfInBounds_toArray, set_cons_zero, set_cons_succ, getElem_toArray, getElem_cons_zero, getElem_cons_succ]
   refine wpAnyH_take (i := 16) (v := ?_) rfl (by kernel_rfl) (by kernel_rfl) (by kernel_rfl) (fun _ _ _ h => h) (Or.inl ⟨by rfl, ?_⟩) (by assumption) ?_
   rotate_left 1
   ·(intro w0 hSw; (try dsimp only at hSw); go_simp; try with_reducible rfl)
   try simp only [Act.put, setIfInBounds_toArray, set_cons_zero, set_cons_succ, getElem_toArray, getElem_cons_zero, getElem_cons_succ]
   refine wpAnyH_take (i := 17) (v := ?_) rfl (by kernel_rfl) (by kernel_rfl) (by kernel_rfl) (fun _ _ _ h => h) (Or.inl ⟨by rfl, ?_⟩) (by assumption) ?_
   rotate_left 1
   ·(intro w0 hSw; (try dsimp only at hSw); go_simp; try with_reducible rfl)
   try simp only [Act.put, setIfInBounds_toArray, set_cons_zero, set_cons_succ, getElem_toArray, getElem_cons_zero, getElem_cons_succ]
   refine wpAnyH_done (by kernel_rfl) ?_ _
   have F := hid (ansB (b := variantB sg a b) (a := false) (by rw [variant_b HS2.out]) ub)
   go_wp2
   go_ret
   exact F.out
  | true =>
   have HS2 := hid hok2
   clear hok2
   obtain ⟨z, hz⟩ : ∃ z, variantB sg a b = z := ⟨_, rfl⟩
   rw [hz]
   have EQ := hid (show decide (renI sg a = renI sg b) = z by rw [← hz, variant_ab HS.out HS2.out]; unfold renI; rw [if_pos HS.out, if_pos HS2.out])
   clear hz
   go_enter Try.func56, Try.ntmps56
   go_wp2_with fail
   rw [← HW.out]
   refine wp_region_held_drew (S := (fun w' => w'.cell? ⟨w.heap.size, 0, none⟩ = some (.slice A n c))) (by kernel_rfl) cA (fun hHeld => ?_)
   refine wpAnyH_take (i := 0) (v := ?_) rfl (by kernel_rfl) (by kernel_rfl) (by kernel_rfl) (fun _ _ _ h => h) (Or.inl ⟨by rfl, ?_⟩) (by assumption) ?_
   rotate_left 1
   ·(intro w0 hSw; (try dsimp only at hSw); go_simp; try with_reducible rfl)
   try simp only [Act.put, setIfInBounds_toArray, set_cons_zero, set_cons_succ, getElem_toArray, getElem_cons_zero, getElem_cons_succ]
   refine wpAnyH_take (i := 1) (v := ?_) rfl (by kernel_rfl) (by kernel_rfl) (by kernel_rfl) (fun _ _ _ h => h) (Or.inl ⟨by rfl, ?_⟩) (by assumption) ?_
   rotate_left 1
   ·(intro w0 hSw; (try dsimp only at hSw); go_simp; try with_reducible rfl)
   try simp only [Act.put, setIfInBounds_toArray, set_cons_zero, set_cons_succ, getElem_toArray, getElem_cons_zero, getElem_cons_succ]
   refine wpAnyH_ready (rs := [2]) (by kernel_rfl) (by simp) (AllReadyH.cons rfl (fun K hK => ?_) AllReadyH.nil)
   go_simp
   refine L.out.mono ?_; rintro e w1 ⟨he, bb⟩; rw [HS.out] at he; subst he; have t0 := s.next bb; have t1 := s1.next bb; have t2 := s2.next bb; have tr := rA.next bb; have tb := next_trans bel bb; have c1 : w1.cell? ⟨w.heap.size, 0, none⟩ = some (.slice A n c) := tr.cell 0; clear s s1 s2 rA bel bb L; go_wp2_with fail
   refine hK.out _ _ ?_ (fun hHeld => ?_)
   ·first | assumption | (dsimp only; assumption)
   clear hK K
   try simp only [Act.put, setIfInBounds_toArray, set_cons_zero, set_cons_succ, getElem_toArray, getElem_cons_zero, getElem_cons_succ]
   refine wpAnyH_take (i := 3) (v := ?_) rfl (by kernel_rfl) (by kernel_rfl) (by kernel_rfl) (fun _ _ _ h => h) (Or.inl ⟨by rfl, ?_⟩) (by assumption) ?_
   rotate_left 1
   ·(intro w0 hSw; (try dsimp only at hSw); go_simp; try with_reducible rfl)
   try simp only [Act.put, setIfInBounds_toArray, set_cons_zero, set_cons_succ, getElem_toArray, getElem_cons_zero, getElem_cons_succ]
   refine wpAnyH_take (i := 4) (v := ?_) rfl (by kernel_rfl) (by kernel_rfl) (by kernel_rfl) (fun _ _ _ h => h) (Or.inl ⟨by rfl, ?_⟩) (by assumption) ?_
   rotate_left 1
   ·(intro w0 hSw; (try dsimp only at hSw); go_simp; try with_reducible rfl)
   try simp only [Act.put, setIfInBounds_toArray, set_cons_zero, set_cons_succ, getElem_toArray, getElem_cons_zero, getElem_cons_succ]
   refine wpAnyH_take (i := 5) (v := ?_) rfl (by kernel_rfl) (by kernel_rfl) (by kernel_rfl) (fun _ _ _ h => h) (Or.inl ⟨by rfl, ?_⟩) (by assumption) ?_
   rotate_left 1
   ·(intro w0 hSw; (try dsimp only at hSw); go_simp; try with_reducible rfl)
   try simp only [Act.put, setIfInBounds_toArray, set_cons_zero, set_cons_succ, getElem_toArray, getElem_cons_zero, getElem_cons_succ]
   refine wpAnyH_ready (rs := [6]) (by kernel_rfl) (by simp) (AllReadyH.cons rfl (fun K hK => ?_) AllReadyH.nil)
   go_simp
   refine (implTermOk A B' n c q cq sg b w1 t0 t2 hn hq).mono ?_; rintro e w2 ⟨he, bb2⟩; rw [HS2.out] at he; subst he; have u0 := t0.next bb2; have u1 := t1.next bb2; have u2 := t2.next bb2; have ur := tr.next bb2; have ub := next_trans tb bb2; have c2 : w2.cell? ⟨w.heap.size, 0, none⟩ = some (.slice A n c) := ur.cell 0; clear t0 t1 t2 tr tb bb2; go_wp2_with fail
   refine hK.out _ _ ?_ (fun hHeld => ?_)
   ·first | assumption | (dsimp only; assumption)
   clear hK K
   try simp only [Act.put, setIfInBounds_toArray, set_cons_zero, set_cons_succ, getElem_toArray, getElem_cons_zero, getElem_cons_succ]
   refine wpAnyH_take (i := 7) (v := ?_) rfl (by kernel_rfl) (by kernel_rfl) (by kernel_rfl) (fun _ _ _ h => h) (Or.inl ⟨by rfl, ?_⟩) (by assumption) ?_
   rotate_left 1
   ·(intro w0 hSw; (try dsimp only at hSw); go_simp; try with_reducible rfl)
   try simp only [Act.put, setIfInBounds_toArray, set_cons_zero, set_cons_succ, getElem_toArray, getElem_cons_zero, getElem_cons_succ]
   refine wpAnyH_take (i := 8) (v := ?_) rfl (by kernel_rfl) (by kernel_rfl) (by kernel_rfl) (fun _ _ _ h => h) (Or.inl ⟨by rfl, ?_⟩) (by assumption) ?_
   rotate_left 1
   ·(intro w0 hSw; (try dsimp only at hSw); go_simp; try with_reducible rfl)
   try simp only [Act.put, setIfInBounds_toArray, set_cons_zero, set_cons_succ, getElem_toArray, getElem_cons_zero, getElem_cons_succ]
   refine wpAnyH_take (i := 9) (v := ?_) rfl (by kernel_rfl) (by kernel_rfl) (by kernel_rfl) (fun _ _ _ h => h) (Or.inl ⟨by rfl, ?_⟩) (by assumption) ?_
   rotate_left 1
   ·(intro w0 hSw; (try dsimp only at hSw); go_simp; try with_reducible rfl)
   try simp only [Act.put, setIfInBounds_toArray, set_cons_zero, set_cons_succ, getElem_toArray, getElem_cons_zero, getElem_cons_succ]
   refine wpAnyH_take (i := 10) (v := ?_) rfl (by kernel_rfl) (by kernel_rfl) (by kernel_rfl) (fun _ _ _ h => h) (Or.inl ⟨by rfl, ?_⟩) (by assumption) ?_
   rotate_left 1
   ·(intro w0 hSw; (try dsimp only at hSw); go_simp; try with_reducible rfl)
   try simp only [Act.put, setIfInBounds_toArray, set_cons_zero, set_cons_succ, getElem_toArray, getElem_cons_zero, getElem_cons_succ]
   refine wpAnyH_take (i := 12) (v := ?_) rfl (by kernel_rfl) (by kernel_rfl) (by kernel_rfl) (fun _ _ _ h => h) (Or.inl ⟨by rfl, ?_⟩) (by assumption) ?_
   rotate_left 1
   ·(intro w0 hSw; (try dsimp only at hSw); go_simp; try with_reducible rfl)
   try simp only [Act.put, setIfInBounds_toArray, set_cons_zero, set_cons_succ, getElem_toArray, getElem_cons_zero, getElem_cons_succ]
   refine wpAnyH_take (i := 13) (v := ?_) rfl (by kernel_rfl) (by kernel_rfl) (by kernel_rfl) (fun _ _ _ h => h) (Or.inl ⟨by rfl, ?_⟩) (by assumption) ?_
   rotate_left 1
   ·(intro w0 hSw; (try dsimp only at hSw); go_simp; try with_reducible rfl)
   try simp only [Act.put, setIfInBounds_toArray, set_cons_zero, set_cons_succ, getElem_toArray, getElem_cons_zero, getElem_cons_succ]
   refine wpAnyH_ready (rs := [11]) (by kernel_rfl) (by simp) (AllReadyH.cons rfl (fun K hK => ?_) AllReadyH.nil)
   go_simp
   refine (implRenamed A A' n c m c' sg a w2 u0 u1 hn hm).mono ?_; rintro e w3 ⟨X, xn, xc, rfl, ox, bb3⟩; have v0 := u0.next bb3; have v2 := u2.next bb3; have vr := ur.next bb3; have vb := next_trans ub bb3; have c3 : w3.cell? ⟨w.heap.size, 0, none⟩ = some (.slice A n c) := vr.cell 0; clear u0 u1 u2 ur ub bb3; go_wp2_with fail
   refine hK.out _ _ ?_ (fun hHeld => ?_)
   ·first | assumption | (dsimp only; assumption)
   clear hK K
   try simp only [Act.put, setIfInBounds_toArray, set_cons_zero, set_cons_succ, getElem_toArray, getElem_cons_zero, getElem_cons_succ]
   refine wpAnyH_ready (rs := [14]) (by kernel_rfl) (by simp) (AllReadyH.cons rfl (fun K hK => ?_) AllReadyH.nil)
   go_simp
   refine (implRenamed A B' n c q cq sg b w3 v0 v2 hn hq).mono ?_; rintro e w4 ⟨Y, yn, yc, rfl, oy, bb4⟩; have ox4 := ox.next bb4; have zr := vr.next bb4; have zb := next_trans vb bb4; have c4 : w4.cell? ⟨w.heap.size, 0, none⟩ = some (.slice A n c) := zr.cell 0; have hxn : xn ≤ 1048576 := (by rw [Own.len ox]; exact renI_len H1.out hm); have hyn : yn ≤ 1048576 := (by rw [Own.len oy]; exact renI_len H2.out hq); clear v0 v2 vr vb bb4 ox; go_wp2_with fail
   refine hK.out _ _ ?_ (fun hHeld => ?_)
   ·first | assumption | (dsimp only; assumption)
   clear hK K
   try simp only [Act.put, setIfInBounds_toArray, set_cons_zero, set_cons_succ, getElem_toArray, getElem_cons_zero, getElem_cons_succ]
   refine wpAnyH_ready (rs := [15]) (by kernel_rfl) (by simp) (AllReadyH.cons rfl (fun K hK => ?_) AllReadyH.nil)
   go_simp
   refine (implSame X Y xn yn xc yc (renI sg a) (renI sg b) w4 (Own.seg ox4) (Own.seg oy) hxn hyn).mono ?_; rintro e w5 ⟨he, d, rfl⟩; rw [EQ.out] at he; subst he; have c5 : (w4.drewN d).cell? ⟨w.heap.size, 0, none⟩ = some (.slice A n c) := (zr.drewN d).cell 0; go_wp2_with fail
   refine hK.out _ _ ?_ (fun hHeld => ?_)
   ·first | assumption | (dsimp only; assumption)
   clear hK K
   try simp only [Act.put, setIfInBounds_toArray, set_cons_zero, set_cons_succ, getElem_toArray, getElem_cons_zero, getElem_cons_succ]
   refine wpAnyH_take (i := 16) (v := ?_) rfl (by kernel_rfl) (by kernel_rfl) (by kernel_rfl) (fun _ _ _ h => h) (Or.inl ⟨by rfl, ?_⟩) (by assumption) ?_
   rotate_left 1
   ·(intro w0 hSw; (try dsimp only at hSw); go_simp; try with_reducible rfl)
   try simp only [Act.put, setIfInBounds_toArray, set_cons_zero, set_cons_succ, getElem_toArray, getElem_cons_zero, getElem_cons_succ]
   refine wpAnyH_take (i := 17) (v := ?_) rfl (by kernel_rfl) (by kernel_rfl) (by kernel_rfl) (fun _ _ _ h => h) (Or.inl ⟨by rfl, ?_⟩) (by assumption) ?_
   rotate_left 1
   ·(intro w0 hSw; (try dsimp only at hSw); go_simp; try with_reducible rfl)
   try simp only [Act.put, setIfInBounds_toArray, set_cons_zero, set_cons_succ, getElem_toArray, getElem_cons_zero, getElem_cons_succ]
   refine wpAnyH_done (by kernel_rfl) ?_ _
   have F := hid (ansB (b := z) (a := z) rfl (below_drewN zb d))
   clear ox4 oy zb zr c4 c5
   go_wp2
   go_ret
   exact F.out
end variant
end
section
open Go.Lib (hid)
open List (setIfInBounds_toArray set_cons_zero set_cons_succ getElem_toArray getElem_cons_zero getElem_cons_succ)
namespace matchMost
open Go.RowKit base ints sig term termOk endAt inside marks app sym segs segsHelp termFacts renMath varsOf variant pathSpec matchMath matchSpec matchList
set_option maxRecDepth 100000
def hitB (sg : List Int) (ps : List (List Int)) (i k : Nat) : Bool := moreB sg (ps.getD k []) (ps.getD i []) || (decide (k < i) && variantB sg (ps.getD k []) (ps.getD i []))
def bestK (sg : List Int) (ps : List (List Int)) (i : Nat) : Nat → Bool
 | 0 => true
 | k + 1 => bestK sg ps i k && !hitB sg ps i k
theorem bestK_all {sg : List Int} {ps : List (List Int)} {i : Nat} : ∀ k, bestK sg ps i k = (List.range k).all fun j => !hitB sg ps i j
 | 0 => rfl
 | k + 1 => by
  rw [List.range_succ, List.all_append, ← bestK_all k]
  simp [bestK]
theorem bestK_best {sg : List Int} {ps : List (List Int)} {i : Nat} : bestK sg ps i ps.length = bestB sg ps i := by rw [bestK_all]; rfl
def mgN (sg : List Int) (ps : List (List Int)) : Nat → List Int
 | 0 => []
 | i + 1 => mgN sg ps i ++ (if bestB sg ps i = true then [(i : Int)] else [])
theorem mg_len {sg : List Int} {ps : List (List Int)} : ∀ k, (mgN sg ps k).length ≤ k
 | 0 => by simp [mgN]
 | k + 1 => by
  have := mg_len (sg := sg) (ps := ps) k
  simp only [mgN, List.length_append]
  split <;> simp <;> omega
def mgI (sg : List Int) (ps : List (List Int)) : List Int := if allB sg ps = true then mgN sg ps ps.length else []
def HeadMg (w : World) (A : Option Addr) (n c : Nat) (sg : List Int) (P : Option Addr) (pn : Nat) (ps : List (List Int)) (g : Nat) (out k : Value) (wr : World) : Prop :=
 ∃ (i : Nat) (O : Option Addr) (on oc : Nat), k = .int .i64 i ∧ i + g = pn ∧ out = .slice O on oc ∧ Own wr (w.heap.size + 1) (.slice O on oc) (mgN sg ps i) ∧ Fs w wr A n c sg P pn ps
def InMg (w : World) (A : Option Addr) (n c : Nat) (sg : List Int) (P : Option Addr) (pn : Nat) (ps : List (List Int)) (i : Nat) (O : Option Addr) (on oc : Nat) (g : Nat) (best k : Value) (wr : World) : Prop :=
 ∃ j : Nat, k = .int .i64 j ∧ j + g = pn ∧ best = .bool (bestK sg ps i j) ∧ Own wr (w.heap.size + 1) (.slice O on oc) (mgN sg ps i) ∧ Fs w wr A n c sg P pn ps
set_option maxHeartbeats 4000000 in
theorem specMostGeneral (A P : Option Addr) (n c pn pc : Nat) (sg : List Int) (ps : List (List Int)) (w : World) (h : Seg w w.heap.size A n sg) (hp : Segs w w.heap.size P pn ps) (hn : n ≤ 1048576) (htot : tot ps ≤ 1048576) :
  Calls Try.prog 20 #[.agg #[.slice A n c], .slice P pn pc] w (AnsList w (mgI sg ps)) := by
 obtain ⟨W, hW⟩ : ∃ W, W = (w.alloc (.cells #[.slice A n c] 26)).alloc (.cells #[] 2) := ⟨_, rfl⟩
 have f : Fs w W A n c sg P pn ps := by rw [hW]; exact (Fs.start h hp).alloc _
 have ow : Own W (w.heap.size + 1) (.slice (some ⟨w.heap.size + 1, 0, none⟩) 0 0) [] := by
  rw [hW]
  have := own_empty (w.alloc (.cells #[.slice A n c] 26)) (w.heap.size + 1) (by simp)
  simpa using this
 have HW := hid hW
 have HL := hid hp.1
 have HE := hid (tot_each htot)
 have cA := f.cell
 have cA0 : ((w.alloc (.cells #[.slice A n c] 26)).alloc (.cells #[] 2)).cell? ⟨w.heap.size, 0, none⟩ = some (.slice A n c) := by rw [← hW]; exact cA
 have LP := hid (l4All A P n c pn pc sg ps W f.s1 (f.s'.more (Nat.le_of_lt f.size)) hn htot)
 clear hW h hp htot
 cases hall : allB sg ps with
 | false =>
  have HS := hid hall
  have HF := hid (show mgI sg ps = [] by unfold mgI; rw [if_neg (by rw [hall]; simp)])
  clear hall
  go_enter Try.func20, Try.ntmps20
  go_wp2_with fail
  rw [← HW.out]
  refine LP.out.mono ?_
  rintro e w1 ⟨he, bb⟩
  rw [HS.out] at he
  subst he
  have F := hid (list_of (w := w) HF.out (Own.next ow bb) (Nat.le_succ _) (f.next bb).b)
  clear f ow bb LP cA cA0
  go_wp2
  go_ret
  exact F.out
 | true =>
  have HSP := hid hall
  have hp12 : pn ≤ 12 := by have h1 := (all_parts hall).2.1; rw [HL.out] at h1; exact h1
  have HF := hid (show mgI sg ps = mgN sg ps pn by unfold mgI; rw [if_pos hall, HL.out])
  clear hall
  go_enter Try.func20, Try.ntmps20
  go_wp2_with fail
  rw [← HW.out]
  refine LP.out.mono ?_
  rintro e w1 ⟨he, bb⟩
  rw [HSP.out] at he
  subst he
  have S0 : HeadMg w A n c sg P pn ps pn (.slice (some ⟨w.heap.size + 1, 0, none⟩) 0 0) (.int .i64 0) w1 := ⟨0, _, 0, 0, rfl, by omega, rfl, Own.next ow bb, f.next bb⟩
  have HS0 := hid S0
  clear S0 f ow bb cA cA0 LP
  go_wp2_with fail
  go_loopg [5, 6] pn (fun g out k wr => HeadMg w A n c sg P pn ps g out k wr)
  case atStart => exact HS0.out
  case round =>
   obtain ⟨i, O, on, oc, rfl, hi, rfl, ho, f⟩ := hrel
   obtain ⟨G, hG⟩ : ∃ G, G = gk := ⟨_, rfl⟩
   subst hG
   clear HS0
   have HI := hid hi
   clear hi
   have hon : on ≤ 12 := by have h1 := Own.len ho; have h2 := mg_len (sg := sg) (ps := ps) i; have := HI.out; omega
   by_cases hip : i < pn
   ·have hGk := hid (show G - 1 < G ∧ i + 1 + (G - 1) = pn by have := HI.out; omega)
    have HS1 := hid (show InMg w A n c sg P pn ps i O on oc pn (.bool true) (.int .i64 0) wr from ⟨0, rfl, by omega, rfl, ho, f⟩)
    clear ho f
    go_wp2_with fail
    go_loopg [7, 8] pn (fun g best k wr => InMg w A n c sg P pn ps i O on oc g best k wr)
    case atStart => exact HS1.out
    case round =>
     obtain ⟨k, rfl, hk, rfl, ho, f⟩ := hrel
     clear HS1
     have HK := hid hk
     clear hk
     by_cases hkp : k < pn
     ·have hgk := hid (show gk - 1 < gk ∧ k + 1 + (gk - 1) = pn by have := HK.out; omega)
      obtain ⟨b, off, D, dn, dc, rfl, hbb, hck, hsk, hcapk⟩ := f.s'.spot hkp
      obtain ⟨b', off', E, en, ec, e', -, hci, hsi, hcapi⟩ := f.s'.spot hip
      injection e' with e'
      injection e' with e1 e2
      subst e1 e2
      have hdn : dn ≤ 1048576 := by have := HE.out k; rw [hsk.1] at this; exact this
      have hen : en ≤ 1048576 := by have := HE.out i; rw [hsi.1] at this; exact this
      have sk : Seg wr.drew wr.drew.heap.size D dn (ps.getD k []) := (hsk.more (Nat.le_of_lt f.size)).drew
      have si : Seg wr.drew wr.drew.heap.size E en (ps.getD i []) := (hsi.more (Nat.le_of_lt f.size)).drew
      obtain ⟨yk, hyk⟩ : ∃ ys, ps.getD k [] = ys := ⟨_, rfl⟩
      obtain ⟨yi, hyi⟩ : ∃ ys, ps.getD i [] = ys := ⟨_, rfl⟩
      rw [hyk] at sk
      rw [hyi] at si
      obtain ⟨bm, hbm⟩ : ∃ b, moreB sg yk yi = b := ⟨_, rfl⟩
      obtain ⟨bv, hbv⟩ : ∃ b, variantB sg yk yi = b := ⟨_, rfl⟩
      have HM := hid hbm
      have HV := hid hbv
      have HH := hid (show bestK sg ps i (k + 1) = (bestK sg ps i k && !(bm || (decide (k < i) && bv))) by simp only [bestK, hitB]; rw [hyk, hyi, hbm, hbv])
      obtain ⟨bb, hbk⟩ : ∃ b, bestK sg ps i k = b := ⟨_, rfl⟩
      rw [hbk] at HH ⊢
      have z0 := f.size
      have HZ := hid (show b < wr.heap.size by omega)
      have k1 := hcapk.1
      have k2 := hcapk.2.1
      have l1 := hcapi.1
      have l2 := hcapi.2.1
      have cA := f.cell
      have fd := f.drew
      replace ho := Own.drew ho
      have hk60 : k ≤ 12 := by omega
      have i0 : (0 : Int) ≤ (k : Int) := by omega
      have i1 : (k : Int) < (pn : Int) := by omega
      have i2 : (0 : Int) ≤ (i : Int) := by omega
      have i3 : (i : Int) < (pn : Int) := by omega
      clear hsk hsi hcapk hcapi hyk hyi hbm hbv hbk f
      cases bm with
      | true =>
       go_wp2_with fail
       refine wp_region_held_drew (S := (fun w' => w'.cell? ⟨w.heap.size, 0, none⟩ = some (.slice A n c) ∧ w'.cell? ⟨b, off + k, none⟩ = some (.slice D dn dc) ∧ w'.cell? ⟨b, off + i, none⟩ = some (.slice E en ec))) (by kernel_rfl) ⟨cA, hck, hci⟩ (fun hHeld => ?_)
       refine wpAnyH_take (i := 0) (v := ?_) rfl (by kernel_rfl) (by kernel_rfl) (by kernel_rfl) (fun _ _ _ h => h) (Or.inl ⟨by rfl, ?_⟩) (by assumption) ?_
       rotate_left 1
       ·(intro w0 hSw; (try dsimp only at hSw); go_simp; try with_reducible rfl)
       try simp only [Act.put, setIfInBounds_toArray, set_cons_zero, set_cons_succ, getElem_toArray, getElem_cons_zero, getElem_cons_succ]
       refine wpAnyH_take (i := 1) (v := ?_) rfl (by kernel_rfl) (by kernel_rfl) (by kernel_rfl) (fun _ _ _ h => h) (Or.inl ⟨by rfl, ?_⟩) (by assumption) ?_
       rotate_left 1
       ·(intro w0 hSw; (try dsimp only at hSw); go_simp; try with_reducible rfl)
       try simp only [Act.put, setIfInBounds_toArray, set_cons_zero, set_cons_succ, getElem_toArray, getElem_cons_zero, getElem_cons_succ]
       refine wpAnyH_take (i := 2) (v := ?_) rfl (by kernel_rfl) (by kernel_rfl) (by kernel_rfl) (fun _ _ _ h => h) (Or.inl ⟨by rfl, ?_⟩) (by assumption) ?_
       rotate_left 1
       ·(intro w0 hSw; (try dsimp only at hSw); go_simp; try with_reducible rfl)
       try simp only [Act.put, setIfInBounds_toArray, set_cons_zero, set_cons_succ, getElem_toArray, getElem_cons_zero, getElem_cons_succ]
       refine wpAnyH_take (i := 3) (v := ?_) rfl (by kernel_rfl) (by kernel_rfl) (by kernel_rfl) (fun _ _ _ h => h) (Or.inl ⟨by rfl, ?_⟩) (by assumption) ?_
       rotate_left 1
       ·(intro w0 hSw; (try dsimp only at hSw); go_simp; try with_reducible rfl)
       try simp only [Act.put, setIfInBounds_toArray, set_cons_zero, set_cons_succ, getElem_toArray, getElem_cons_zero, getElem_cons_succ]
       refine wpAnyH_take (i := 4) (v := ?_) rfl (by kernel_rfl) (by kernel_rfl) (by kernel_rfl) (fun _ _ _ h => h) (Or.inl ⟨by rfl, ?_⟩) (by assumption) ?_
       rotate_left 1
       ·(intro w0 hSw; (try dsimp only at hSw); go_simp; try with_reducible rfl)
       try simp only [Act.put, setIfInBounds_toArray, set_cons_zero, set_cons_succ, getElem_toArray, getElem_cons_zero, getElem_cons_succ]
       refine wpAnyH_take (i := 5) (v := ?_) rfl (by kernel_rfl) (by kernel_rfl) (by kernel_rfl) (fun _ _ _ h => h) (Or.inl ⟨by rfl, ?_⟩) (by assumption) ?_
       rotate_left 1
       ·(intro w0 hSw; (try dsimp only at hSw); go_simp; try with_reducible rfl)
       try simp only [Act.put, setIfInBounds_toArray, set_cons_zero, set_cons_succ, getElem_toArray, getElem_cons_zero, getElem_cons_succ]
       refine wpAnyH_take (i := 6) (v := ?_) rfl (by kernel_rfl) (by kernel_rfl) (by kernel_rfl) (fun _ _ _ h => h) (Or.inl ⟨by rfl, ?_⟩) (by assumption) ?_
       rotate_left 1
       ·(intro w0 hSw; (try dsimp only at hSw); go_simp; try with_reducible rfl)
       try simp only [Act.put, setIfInBounds_toArray, set_cons_zero, set_cons_succ, getElem_toArray, getElem_cons_zero, getElem_cons_succ]
       refine wpAnyH_take (i := 7) (v := ?_) rfl (by kernel_rfl) (by kernel_rfl) (by kernel_rfl) (fun _ _ _ h => h) (Or.inl ⟨by rfl, ?_⟩) (by assumption) ?_
       rotate_left 1
       ·(intro w0 hSw; (try dsimp only at hSw); go_simp; try with_reducible rfl)
       try simp only [Act.put, setIfInBounds_toArray, set_cons_zero, set_cons_succ, getElem_toArray, getElem_cons_zero, getElem_cons_succ]
       refine wpAnyH_take (i := 8) (v := ?_) rfl (by kernel_rfl) (by kernel_rfl) (by kernel_rfl) (fun _ _ _ h => h) (Or.inl ⟨by rfl, ?_⟩) (by assumption) ?_
       rotate_left 1
       ·(intro w0 hSw; (try dsimp only at hSw); go_simp; try with_reducible rfl)
       try simp only [Act.put, setIfInBounds_toArray, set_cons_zero, set_cons_succ, getElem_toArray, getElem_cons_zero, getElem_cons_succ]
       refine wpAnyH_ready (rs := [9]) (by kernel_rfl) (by simp) (AllReadyH.cons rfl (fun K hK => ?_) AllReadyH.nil)
       try simp only [Act.put, setIfInBounds_toArray, set_cons_zero, set_cons_succ, getElem_toArray, getElem_cons_zero, getElem_cons_succ]
       rw [if_pos (by rfl)]
       go_simp
       refine (specMoreGeneral A D E n c dn dc en ec sg yk yi _ fd.s1 sk si hn hdn hen k1 k2 l1 l2).mono ?_; rintro e w3 ⟨he, b1⟩; rw [HM.out] at he; subst he; have f3 := fd.next b1; have x1 := f3.cell; have x2 : w3.cell? ⟨b, off + k, none⟩ = some (.slice D dn dc) := (b1.cell (p := ⟨b, off + k, none⟩) HZ.out).trans hck; have x3 : w3.cell? ⟨b, off + i, none⟩ = some (.slice E en ec) := (b1.cell (p := ⟨b, off + i, none⟩) HZ.out).trans hci; go_wp2_with fail
       refine hK.out _ _ ?_ (fun hHeld => ?_)
       ·first | assumption | (dsimp only; assumption) | exact ⟨by assumption, by assumption⟩ | exact ⟨by assumption, by assumption, by assumption⟩
       clear hK K
       try simp only [Act.put, setIfInBounds_toArray, set_cons_zero, set_cons_succ, getElem_toArray, getElem_cons_zero, getElem_cons_succ]
       refine wpAnyH_take (i := 10) (v := ?_) rfl (by kernel_rfl) (by kernel_rfl) (by kernel_rfl) (fun _ _ _ h => h) (Or.inl ⟨by rfl, ?_⟩) (by assumption) ?_
       rotate_left 1
       ·(intro w0 hSw; (try dsimp only at hSw); go_simp; try with_reducible rfl)
       try simp only [Act.put, setIfInBounds_toArray, set_cons_zero, set_cons_succ, getElem_toArray, getElem_cons_zero, getElem_cons_succ]
       refine wpAnyH_take (i := 11) (v := undef) rfl (by kernel_rfl) (by kernel_rfl) (by kernel_rfl) (fun _ _ _ h => h) (Or.inr ⟨by rfl, rfl⟩) (by assumption) ?_
       try simp only [Act.put, setIfInBounds_toArray, set_cons_zero, set_cons_succ, getElem_toArray, getElem_cons_zero, getElem_cons_succ]
       refine wpAnyH_take (i := 12) (v := undef) rfl (by kernel_rfl) (by kernel_rfl) (by kernel_rfl) (fun _ _ _ h => h) (Or.inr ⟨by rfl, rfl⟩) (by assumption) ?_
       try simp only [Act.put, setIfInBounds_toArray, set_cons_zero, set_cons_succ, getElem_toArray, getElem_cons_zero, getElem_cons_succ]
       refine wpAnyH_take (i := 13) (v := undef) rfl (by kernel_rfl) (by kernel_rfl) (by kernel_rfl) (fun _ _ _ h => h) (Or.inr ⟨by rfl, rfl⟩) (by assumption) ?_
       try simp only [Act.put, setIfInBounds_toArray, set_cons_zero, set_cons_succ, getElem_toArray, getElem_cons_zero, getElem_cons_succ]
       refine wpAnyH_take (i := 14) (v := undef) rfl (by kernel_rfl) (by kernel_rfl) (by kernel_rfl) (fun _ _ _ h => h) (Or.inr ⟨by rfl, rfl⟩) (by assumption) ?_
       try simp only [Act.put, setIfInBounds_toArray, set_cons_zero, set_cons_succ, getElem_toArray, getElem_cons_zero, getElem_cons_succ]
       refine wpAnyH_take (i := 15) (v := undef) rfl (by kernel_rfl) (by kernel_rfl) (by kernel_rfl) (fun _ _ _ h => h) (Or.inr ⟨by rfl, rfl⟩) (by assumption) ?_
       try simp only [Act.put, setIfInBounds_toArray, set_cons_zero, set_cons_succ, getElem_toArray, getElem_cons_zero, getElem_cons_succ]
       refine wpAnyH_take (i := 16) (v := undef) rfl (by kernel_rfl) (by kernel_rfl) (by kernel_rfl) (fun _ _ _ h => h) (Or.inr ⟨by rfl, rfl⟩) (by assumption) ?_
       try simp only [Act.put, setIfInBounds_toArray, set_cons_zero, set_cons_succ, getElem_toArray, getElem_cons_zero, getElem_cons_succ]
       refine wpAnyH_take (i := 17) (v := undef) rfl (by kernel_rfl) (by kernel_rfl) (by kernel_rfl) (fun _ _ _ h => h) (Or.inr ⟨by rfl, rfl⟩) (by assumption) ?_
       try simp only [Act.put, setIfInBounds_toArray, set_cons_zero, set_cons_succ, getElem_toArray, getElem_cons_zero, getElem_cons_succ]
       refine wpAnyH_take (i := 18) (v := undef) rfl (by kernel_rfl) (by kernel_rfl) (by kernel_rfl) (fun _ _ _ h => h) (Or.inr ⟨by rfl, rfl⟩) (by assumption) ?_
       try simp only [Act.put, setIfInBounds_toArray, set_cons_zero, set_cons_succ, getElem_toArray, getElem_cons_zero, getElem_cons_succ]
       refine wpAnyH_take (i := 19) (v := undef) rfl (by kernel_rfl) (by kernel_rfl) (by kernel_rfl) (fun _ _ _ h => h) (Or.inr ⟨by rfl, rfl⟩) (by assumption) ?_
       try simp only [Act.put, setIfInBounds_toArray, set_cons_zero, set_cons_succ, getElem_toArray, getElem_cons_zero, getElem_cons_succ]
       refine wpAnyH_take (i := 20) (v := undef) rfl (by kernel_rfl) (by kernel_rfl) (by kernel_rfl) (fun _ _ _ h => h) (Or.inr ⟨by rfl, rfl⟩) (by assumption) ?_
       try simp only [Act.put, setIfInBounds_toArray, set_cons_zero, set_cons_succ, getElem_toArray, getElem_cons_zero, getElem_cons_succ]
       refine wpAnyH_take (i := 21) (v := undef) rfl (by kernel_rfl) (by kernel_rfl) (by kernel_rfl) (fun _ _ _ h => h) (Or.inr ⟨by rfl, rfl⟩) (by assumption) ?_
       try simp only [Act.put, setIfInBounds_toArray, set_cons_zero, set_cons_succ, getElem_toArray, getElem_cons_zero, getElem_cons_succ]
       refine wpAnyH_take (i := 22) (v := undef) rfl (by kernel_rfl) (by kernel_rfl) (by kernel_rfl) (fun _ _ _ h => h) (Or.inr ⟨by rfl, rfl⟩) (by assumption) ?_
       try simp only [Act.put, setIfInBounds_toArray, set_cons_zero, set_cons_succ, getElem_toArray, getElem_cons_zero, getElem_cons_succ]
       refine wpAnyH_take (i := 23) (v := undef) rfl (by kernel_rfl) (by kernel_rfl) (by kernel_rfl) (fun _ _ _ h => h) (Or.inr ⟨by rfl, rfl⟩) (by assumption) ?_
       try simp only [Act.put, setIfInBounds_toArray, set_cons_zero, set_cons_succ, getElem_toArray, getElem_cons_zero, getElem_cons_succ]
       refine wpAnyH_take (i := 24) (v := undef) rfl (by kernel_rfl) (by kernel_rfl) (by kernel_rfl) (fun _ _ _ h => h) (Or.inr ⟨by rfl, rfl⟩) (by assumption) ?_
       try simp only [Act.put, setIfInBounds_toArray, set_cons_zero, set_cons_succ, getElem_toArray, getElem_cons_zero, getElem_cons_succ]
       refine wpAnyH_take (i := 25) (v := undef) rfl (by kernel_rfl) (by kernel_rfl) (by kernel_rfl) (fun _ _ _ h => h) (Or.inr ⟨by rfl, rfl⟩) (by assumption) ?_
       try simp only [Act.put, setIfInBounds_toArray, set_cons_zero, set_cons_succ, getElem_toArray, getElem_cons_zero, getElem_cons_succ]
       refine wpAnyH_take (i := 26) (v := ?_) rfl (by kernel_rfl) (by kernel_rfl) (by kernel_rfl) (fun _ _ _ h => h) (Or.inl ⟨by rfl, ?_⟩) (by assumption) ?_
       rotate_left 1
       ·(intro w0 hSw; (try dsimp only at hSw); go_simp; try with_reducible rfl)
       try simp only [Act.put, setIfInBounds_toArray, set_cons_zero, set_cons_succ, getElem_toArray, getElem_cons_zero, getElem_cons_succ]
       refine wpAnyH_done (by kernel_rfl) ?_ _
       have HS2 := hid (show InMg w A n c sg (some ⟨b, off, none⟩) pn ps i O on oc (gk - 1) (.bool false) (.int .i64 ((k : Int) + 1)) w3 from ⟨k + 1, by simp, hgk.out.2, by rw [HH.out]; simp, Own.next ho b1, f3⟩)
       clear ho fd f3 sk si cA hck hci
       go_wp2
       go_roundg (gk - 1)
       case measure => exact hgk.out.1
       case rel => exact HS2.out
      | false =>
       by_cases hki : k < i
       ·have hdk : decide ((k : Int) < (i : Int)) = true := decide_eq_true (by omega)
        have hdi : (k : Int) < (i : Int) := by omega
        have hdn2 : decide (k < i) = true := decide_eq_true hki
        rw [hdn2] at HH
        go_wp2_with fail
        go_region_held3 (fun w' => w'.cell? ⟨w.heap.size, 0, none⟩ = some (.slice A n c) ∧ w'.cell? ⟨b, off + k, none⟩ = some (.slice D dn dc) ∧ w'.cell? ⟨b, off + i, none⟩ = some (.slice E en ec))
         (first | exact ⟨by assumption, by assumption, by assumption⟩ | go_keep)
         (first
          | (go_at_call 59; refine (specMoreGeneral A D E n c dn dc en ec sg yk yi _ fd.s1 sk si hn hdn hen k1 k2 l1 l2).mono ?_; rintro e w3 ⟨he, b1⟩; rw [HM.out] at he; subst he; have f3 := fd.next b1; have x1 := f3.cell; have x2 : w3.cell? ⟨b, off + k, none⟩ = some (.slice D dn dc) := (b1.cell (p := ⟨b, off + k, none⟩) HZ.out).trans hck; have x3 : w3.cell? ⟨b, off + i, none⟩ = some (.slice E en ec) := (b1.cell (p := ⟨b, off + i, none⟩) HZ.out).trans hci)
          | (go_at_call 60; refine (specVariantIn A D E n c dn dc en ec sg yk yi _ f3.s1 (sk.next b1) (si.next b1) hn hdn hen).mono ?_; rintro e w4 ⟨he, b2⟩; rw [HV.out] at he; subst he; have y1 := (f3.next b2).cell; have y2 : w4.cell? ⟨b, off + k, none⟩ = some (.slice D dn dc) := (b2.cell (p := ⟨b, off + k, none⟩) (Nat.lt_of_lt_of_le HZ.out b1.size)).trans x2; have y3 : w4.cell? ⟨b, off + i, none⟩ = some (.slice E en ec) := (b2.cell (p := ⟨b, off + i, none⟩) (Nat.lt_of_lt_of_le HZ.out b1.size)).trans x3))
        have f4 := f3.next b2
        replace ho := Own.next (Own.next ho b1) b2
        clear x1 x2 x3 y1 y2 y3
        cases bv with
        | true =>
         have HS2 := hid (show InMg w A n c sg (some ⟨b, off, none⟩) pn ps i O on oc (gk - 1) (.bool false) (.int .i64 ((k : Int) + 1)) w4 from ⟨k + 1, by simp, hgk.out.2, by rw [HH.out]; simp, ho, f4⟩)
         clear ho fd f3 sk si cA hck hci
         go_wp2
         go_roundg (gk - 1)
         case measure => exact hgk.out.1
         case rel => exact HS2.out
        | false =>
         have HS2 := hid (show InMg w A n c sg (some ⟨b, off, none⟩) pn ps i O on oc (gk - 1) (.bool bb) (.int .i64 ((k : Int) + 1)) w4 from ⟨k + 1, by simp, hgk.out.2, by rw [HH.out]; simp, ho, f4⟩)
         clear ho fd f3 sk si cA hck hci
         go_wp2
         go_roundg (gk - 1)
         case measure => exact hgk.out.1
         case rel => exact HS2.out
       ·have hdk : decide ((k : Int) < (i : Int)) = false := decide_eq_false (by omega)
        have hdn2 : decide (k < i) = false := decide_eq_false hki
        rw [hdn2] at HH
        go_wp2_with fail
        refine wp_region_held_drew (S := (fun w' => w'.cell? ⟨w.heap.size, 0, none⟩ = some (.slice A n c) ∧ w'.cell? ⟨b, off + k, none⟩ = some (.slice D dn dc) ∧ w'.cell? ⟨b, off + i, none⟩ = some (.slice E en ec))) (by kernel_rfl) ⟨cA, hck, hci⟩ (fun hHeld => ?_)
        refine wpAnyH_take (i := 0) (v := ?_) rfl (by kernel_rfl) (by kernel_rfl) (by kernel_rfl) (fun _ _ _ h => h) (Or.inl ⟨by rfl, ?_⟩) (by assumption) ?_
        rotate_left 1
        ·(intro w0 hSw; (try dsimp only at hSw); go_simp; try with_reducible rfl)
        try simp only [Act.put, setIfInBounds_toArray, set_cons_zero, set_cons_succ, getElem_toArray, getElem_cons_zero, getElem_cons_succ]
        refine wpAnyH_take (i := 1) (v := ?_) rfl (by kernel_rfl) (by kernel_rfl) (by kernel_rfl) (fun _ _ _ h => h) (Or.inl ⟨by rfl, ?_⟩) (by assumption) ?_
        rotate_left 1
        ·(intro w0 hSw; (try dsimp only at hSw); go_simp; try with_reducible rfl)
        try simp only [Act.put, setIfInBounds_toArray, set_cons_zero, set_cons_succ, getElem_toArray, getElem_cons_zero, getElem_cons_succ]
        refine wpAnyH_take (i := 2) (v := ?_) rfl (by kernel_rfl) (by kernel_rfl) (by kernel_rfl) (fun _ _ _ h => h) (Or.inl ⟨by rfl, ?_⟩) (by assumption) ?_
        rotate_left 1
        ·(intro w0 hSw; (try dsimp only at hSw); go_simp; try with_reducible rfl)
        try simp only [Act.put, setIfInBounds_toArray, set_cons_zero, set_cons_succ, getElem_toArray, getElem_cons_zero, getElem_cons_succ]
        refine wpAnyH_take (i := 3) (v := ?_) rfl (by kernel_rfl) (by kernel_rfl) (by kernel_rfl) (fun _ _ _ h => h) (Or.inl ⟨by rfl, ?_⟩) (by assumption) ?_
        rotate_left 1
        ·(intro w0 hSw; (try dsimp only at hSw); go_simp; try with_reducible rfl)
        try simp only [Act.put, setIfInBounds_toArray, set_cons_zero, set_cons_succ, getElem_toArray, getElem_cons_zero, getElem_cons_succ]
        refine wpAnyH_take (i := 4) (v := ?_) rfl (by kernel_rfl) (by kernel_rfl) (by kernel_rfl) (fun _ _ _ h => h) (Or.inl ⟨by rfl, ?_⟩) (by assumption) ?_
        rotate_left 1
        ·(intro w0 hSw; (try dsimp only at hSw); go_simp; try with_reducible rfl)
        try simp only [Act.put, setIfInBounds_toArray, set_cons_zero, set_cons_succ, getElem_toArray, getElem_cons_zero, getElem_cons_succ]
        refine wpAnyH_take (i := 5) (v := ?_) rfl (by kernel_rfl) (by kernel_rfl) (by kernel_rfl) (fun _ _ _ h => h) (Or.inl ⟨by rfl, ?_⟩) (by assumption) ?_
        rotate_left 1
        ·(intro w0 hSw; (try dsimp only at hSw); go_simp; try with_reducible rfl)
        try simp only [Act.put, setIfInBounds_toArray, set_cons_zero, set_cons_succ, getElem_toArray, getElem_cons_zero, getElem_cons_succ]
        refine wpAnyH_take (i := 6) (v := ?_) rfl (by kernel_rfl) (by kernel_rfl) (by kernel_rfl) (fun _ _ _ h => h) (Or.inl ⟨by rfl, ?_⟩) (by assumption) ?_
        rotate_left 1
        ·(intro w0 hSw; (try dsimp only at hSw); go_simp; try with_reducible rfl)
        try simp only [Act.put, setIfInBounds_toArray, set_cons_zero, set_cons_succ, getElem_toArray, getElem_cons_zero, getElem_cons_succ]
        refine wpAnyH_take (i := 7) (v := ?_) rfl (by kernel_rfl) (by kernel_rfl) (by kernel_rfl) (fun _ _ _ h => h) (Or.inl ⟨by rfl, ?_⟩) (by assumption) ?_
        rotate_left 1
        ·(intro w0 hSw; (try dsimp only at hSw); go_simp; try with_reducible rfl)
        try simp only [Act.put, setIfInBounds_toArray, set_cons_zero, set_cons_succ, getElem_toArray, getElem_cons_zero, getElem_cons_succ]
        refine wpAnyH_take (i := 8) (v := ?_) rfl (by kernel_rfl) (by kernel_rfl) (by kernel_rfl) (fun _ _ _ h => h) (Or.inl ⟨by rfl, ?_⟩) (by assumption) ?_
        rotate_left 1
        ·(intro w0 hSw; (try dsimp only at hSw); go_simp; try with_reducible rfl)
        try simp only [Act.put, setIfInBounds_toArray, set_cons_zero, set_cons_succ, getElem_toArray, getElem_cons_zero, getElem_cons_succ]
        refine wpAnyH_ready (rs := [9]) (by kernel_rfl) (by simp) (AllReadyH.cons rfl (fun K hK => ?_) AllReadyH.nil)
        try simp only [Act.put, setIfInBounds_toArray, set_cons_zero, set_cons_succ, getElem_toArray, getElem_cons_zero, getElem_cons_succ]
        rw [if_pos (by rfl)]
        go_simp
        refine (specMoreGeneral A D E n c dn dc en ec sg yk yi _ fd.s1 sk si hn hdn hen k1 k2 l1 l2).mono ?_; rintro e w3 ⟨he, b1⟩; rw [HM.out] at he; subst he; have f3 := fd.next b1; have x1 := f3.cell; have x2 : w3.cell? ⟨b, off + k, none⟩ = some (.slice D dn dc) := (b1.cell (p := ⟨b, off + k, none⟩) HZ.out).trans hck; have x3 : w3.cell? ⟨b, off + i, none⟩ = some (.slice E en ec) := (b1.cell (p := ⟨b, off + i, none⟩) HZ.out).trans hci; go_wp2_with fail
        refine hK.out _ _ ?_ (fun hHeld => ?_)
        ·first | assumption | (dsimp only; assumption) | exact ⟨by assumption, by assumption⟩ | exact ⟨by assumption, by assumption, by assumption⟩
        clear hK K
        try simp only [Act.put, setIfInBounds_toArray, set_cons_zero, set_cons_succ, getElem_toArray, getElem_cons_zero, getElem_cons_succ]
        refine wpAnyH_take (i := 10) (v := ?_) rfl (by kernel_rfl) (by kernel_rfl) (by kernel_rfl) (fun _ _ _ h => h) (Or.inl ⟨by rfl, ?_⟩) (by assumption) ?_
        rotate_left 1
        ·(intro w0 hSw; (try dsimp only at hSw); go_simp; try with_reducible rfl)
        try simp only [Act.put, setIfInBounds_toArray, set_cons_zero, set_cons_succ, getElem_toArray, getElem_cons_zero, getElem_cons_succ]
        refine wpAnyH_take (i := 11) (v := ?_) rfl (by kernel_rfl) (by kernel_rfl) (by kernel_rfl) (fun _ _ _ h => h) (Or.inl ⟨by rfl, ?_⟩) (by assumption) ?_
        rotate_left 1
        ·(intro w0 hSw; (try dsimp only at hSw); go_simp; try with_reducible rfl)
        try simp only [Act.put, setIfInBounds_toArray, set_cons_zero, set_cons_succ, getElem_toArray, getElem_cons_zero, getElem_cons_succ]
        refine wpAnyH_take (i := 12) (v := ?_) rfl (by kernel_rfl) (by kernel_rfl) (by kernel_rfl) (fun _ _ _ h => h) (Or.inl ⟨by rfl, ?_⟩) (by assumption) ?_
        rotate_left 1
        ·(intro w0 hSw; (try dsimp only at hSw); go_simp; try with_reducible rfl)
        try simp only [Act.put, setIfInBounds_toArray, set_cons_zero, set_cons_succ, getElem_toArray, getElem_cons_zero, getElem_cons_succ]
        refine wpAnyH_take (i := 13) (v := ?_) rfl (by kernel_rfl) (by kernel_rfl) (by kernel_rfl) (fun _ _ _ h => h) (Or.inl ⟨by rfl, ?_⟩) (by assumption) ?_
        rotate_left 1
        ·(intro w0 hSw; (try dsimp only at hSw); go_simp; try with_reducible rfl)
        try simp only [Act.put, setIfInBounds_toArray, set_cons_zero, set_cons_succ, getElem_toArray, getElem_cons_zero, getElem_cons_succ]
        refine wpAnyH_take (i := 14) (v := ?_) rfl (by kernel_rfl) (by kernel_rfl) (by kernel_rfl) (fun _ _ _ h => h) (Or.inl ⟨by rfl, ?_⟩) (by assumption) ?_
        rotate_left 1
        ·(intro w0 hSw; (try dsimp only at hSw); go_simp; try with_reducible rfl)
        try simp only [Act.put, setIfInBounds_toArray, set_cons_zero, set_cons_succ, getElem_toArray, getElem_cons_zero, getElem_cons_succ]
        refine wpAnyH_take (i := 15) (v := undef) rfl (by kernel_rfl) (by kernel_rfl) (by kernel_rfl) (fun _ _ _ h => h) (Or.inr ⟨by rfl, rfl⟩) (by assumption) ?_
        try simp only [Act.put, setIfInBounds_toArray, set_cons_zero, set_cons_succ, getElem_toArray, getElem_cons_zero, getElem_cons_succ]
        refine wpAnyH_take (i := 16) (v := undef) rfl (by kernel_rfl) (by kernel_rfl) (by kernel_rfl) (fun _ _ _ h => h) (Or.inr ⟨by rfl, rfl⟩) (by assumption) ?_
        try simp only [Act.put, setIfInBounds_toArray, set_cons_zero, set_cons_succ, getElem_toArray, getElem_cons_zero, getElem_cons_succ]
        refine wpAnyH_take (i := 17) (v := undef) rfl (by kernel_rfl) (by kernel_rfl) (by kernel_rfl) (fun _ _ _ h => h) (Or.inr ⟨by rfl, rfl⟩) (by assumption) ?_
        try simp only [Act.put, setIfInBounds_toArray, set_cons_zero, set_cons_succ, getElem_toArray, getElem_cons_zero, getElem_cons_succ]
        refine wpAnyH_take (i := 18) (v := undef) rfl (by kernel_rfl) (by kernel_rfl) (by kernel_rfl) (fun _ _ _ h => h) (Or.inr ⟨by rfl, rfl⟩) (by assumption) ?_
        try simp only [Act.put, setIfInBounds_toArray, set_cons_zero, set_cons_succ, getElem_toArray, getElem_cons_zero, getElem_cons_succ]
        refine wpAnyH_take (i := 19) (v := undef) rfl (by kernel_rfl) (by kernel_rfl) (by kernel_rfl) (fun _ _ _ h => h) (Or.inr ⟨by rfl, rfl⟩) (by assumption) ?_
        try simp only [Act.put, setIfInBounds_toArray, set_cons_zero, set_cons_succ, getElem_toArray, getElem_cons_zero, getElem_cons_succ]
        refine wpAnyH_take (i := 20) (v := undef) rfl (by kernel_rfl) (by kernel_rfl) (by kernel_rfl) (fun _ _ _ h => h) (Or.inr ⟨by rfl, rfl⟩) (by assumption) ?_
        try simp only [Act.put, setIfInBounds_toArray, set_cons_zero, set_cons_succ, getElem_toArray, getElem_cons_zero, getElem_cons_succ]
        refine wpAnyH_take (i := 21) (v := undef) rfl (by kernel_rfl) (by kernel_rfl) (by kernel_rfl) (fun _ _ _ h => h) (Or.inr ⟨by rfl, rfl⟩) (by assumption) ?_
        try simp only [Act.put, setIfInBounds_toArray, set_cons_zero, set_cons_succ, getElem_toArray, getElem_cons_zero, getElem_cons_succ]
        refine wpAnyH_take (i := 22) (v := undef) rfl (by kernel_rfl) (by kernel_rfl) (by kernel_rfl) (fun _ _ _ h => h) (Or.inr ⟨by rfl, rfl⟩) (by assumption) ?_
        try simp only [Act.put, setIfInBounds_toArray, set_cons_zero, set_cons_succ, getElem_toArray, getElem_cons_zero, getElem_cons_succ]
        refine wpAnyH_take (i := 23) (v := undef) rfl (by kernel_rfl) (by kernel_rfl) (by kernel_rfl) (fun _ _ _ h => h) (Or.inr ⟨by rfl, rfl⟩) (by assumption) ?_
        try simp only [Act.put, setIfInBounds_toArray, set_cons_zero, set_cons_succ, getElem_toArray, getElem_cons_zero, getElem_cons_succ]
        refine wpAnyH_take (i := 24) (v := undef) rfl (by kernel_rfl) (by kernel_rfl) (by kernel_rfl) (fun _ _ _ h => h) (Or.inr ⟨by rfl, rfl⟩) (by assumption) ?_
        try simp only [Act.put, setIfInBounds_toArray, set_cons_zero, set_cons_succ, getElem_toArray, getElem_cons_zero, getElem_cons_succ]
        refine wpAnyH_take (i := 25) (v := ?_) rfl (by kernel_rfl) (by kernel_rfl) (by kernel_rfl) (fun _ _ _ h => h) (Or.inl ⟨by rfl, ?_⟩) (by assumption) ?_
        rotate_left 1
        ·(intro w0 hSw; (try dsimp only at hSw); go_simp; try with_reducible rfl)
        try simp only [Act.put, setIfInBounds_toArray, set_cons_zero, set_cons_succ, getElem_toArray, getElem_cons_zero, getElem_cons_succ]
        refine wpAnyH_take (i := 26) (v := ?_) rfl (by kernel_rfl) (by kernel_rfl) (by kernel_rfl) (fun _ _ _ h => h) (Or.inl ⟨by rfl, ?_⟩) (by assumption) ?_
        rotate_left 1
        ·(intro w0 hSw; (try dsimp only at hSw); go_simp; try with_reducible rfl)
        try simp only [Act.put, setIfInBounds_toArray, set_cons_zero, set_cons_succ, getElem_toArray, getElem_cons_zero, getElem_cons_succ]
        refine wpAnyH_done (by kernel_rfl) ?_ _
        have HS2 := hid (show InMg w A n c sg (some ⟨b, off, none⟩) pn ps i O on oc (gk - 1) (.bool bb) (.int .i64 ((k : Int) + 1)) w3 from ⟨k + 1, by simp, hgk.out.2, by rw [HH.out]; simp, Own.next ho b1, f3⟩)
        clear ho fd f3 sk si cA hck hci
        go_wp2
        go_roundg (gk - 1)
        case measure => exact hgk.out.1
        case rel => exact HS2.out
     ·have hkp2 : k = ps.length := by have := HK.out; have := HL.out; omega
      obtain ⟨z, hz⟩ : ∃ z, bestB sg ps i = z := ⟨_, rfl⟩
      have HZ := hid (show bestK sg ps i k = z by rw [hkp2, bestK_best, hz])
      have HE2 := hid (show mgN sg ps (i + 1) = mgN sg ps i ++ (if z = true then [(i : Int)] else []) by simp only [mgN]; rw [hz])
      clear hz hkp2
      rw [HZ.out]
      have z1 : w.heap.size + 1 ≤ wr.heap.size := f.size
      cases z with
      | false =>
       have S : HeadMg w A n c sg P pn ps (G - 1) (.slice O on oc) (.int .i64 ((i : Int) + 1)) wr := ⟨i + 1, O, on, oc, by simp, hGk.out.2, rfl, by rw [HE2.out]; simpa using ho, f⟩
       have HSS := hid S
       clear S ho f
       go_wp2
       go_roundg (G - 1)
       case measure => exact hGk.out.1
       case rel => exact HSS.out
      | true =>
       go_wp2_with (at_builtin; refine app1 rfl _ _ rfl (w.heap.size + 1) O on oc _ rfl (Own.alloc ho _) wr.heap.size 1 (i : Int) rfl ((Row.new _ _ _).cell 0) (by omega) (by simp; omega) ?_; intro O' oc' w7 ho7 b7)
       have S : HeadMg w A n c sg P pn ps (G - 1) (.slice O' (on + 1) oc') (.int .i64 ((i : Int) + 1)) w7 := ⟨i + 1, O', on + 1, oc', by simp, hGk.out.2, rfl, by rw [HE2.out]; exact ho7, (f.alloc _).over b7⟩
       have HSS := hid S
       clear S ho ho7 f b7
       go_wp2
       go_roundg (G - 1)
       case measure => exact hGk.out.1
       case rel => exact HSS.out
   ·have hip2 : i = pn := by have := HI.out; omega
    have F := hid (list_of (w := w) (show mgI sg ps = mgN sg ps i by rw [HF.out, hip2]) ho (Nat.le_succ _) f.b)
    clear ho f hip2
    go_wp2
    go_ret
    exact F.out
end matchMost
end
section
open Go.Lib (hid)
namespace matchImpl
open Go.RowKit base ints sig same term termOk endAt inside marks app sym sub segs segsHelp kinds termFacts termMath posMath plainMath plain plainOf gives cursor fillMath matchMath matchSpec matchList matchMost whole takeMath take extended
set_option maxRecDepth 100000
theorem plain_s0 : plainL (givesL s0) 24 = [] := by
 have h : ∀ i, 0 ≤ i → givesL s0 i = vt i := fun i _ => gives_var (by rw [s0_get]; rfl)
 rw [plain_24 (m := 0) (by omega) h]
 rfl
theorem res_get (R : Option (List (List Int))) : plainL (givesL (R.getD s0)) 24 = resL R := by
 cases R with
 | none => exact plain_s0
 | some s => rfl
set_option maxHeartbeats 1000000 in
theorem implMatched (A P Q : Option Addr) (n c pn pc m mc : Nat) (sg p t : List Int) (w : World) (h : Seg w w.heap.size A n sg) (hp : Seg w w.heap.size P pn p) (ht : Seg w w.heap.size Q m t) (hn : n ≤ 1048576) (hpn : pn ≤ 1048576) (hm : m ≤ 1048576) (hmc : m ≤ mc) (hmc2 : mc ≤ 9223372036854775807) :
  Calls Try.prog 9 #[.agg #[.slice A n c], .slice P pn pc, .slice Q m mc] w (AnsM w (resL (matchO sg p t)) (instB sg p t)) := by
 obtain ⟨W, hW⟩ : ∃ W, W = (w.alloc (.cells #[.slice A n c] 26)).alloc (.cells #[.slice none 0 0] 31) := ⟨_, rfl⟩
 have M : Mr w W A n c sg P pn p Q m t := by rw [hW]; exact Mr.start h hp ht
 have HW := hid hW
 have L := hid (implTermOk A P n c pn pc sg p W M.ss M.sp hn hpn)
 have c0 : W.cell? ⟨w.heap.size, 0, none⟩ = some (.slice A n c) := M.r0.cell 0
 have c00 : ((w.alloc (.cells #[.slice A n c] 26)).alloc (.cells #[.slice none 0 0] 31)).cell? ⟨w.heap.size, 0, none⟩ = some (.slice A n c) := by rw [← hW]; exact c0
 clear hW h hp ht
 cases hokp : termOkB sg p with
 | false =>
  have HS := hid hokp
  clear hokp
  go_enter Try.func9, Try.ntmps9
  go_wp2_with fail
  rw [← HW.out]
  refine L.out.mono ?_
  rintro e w1 ⟨he, bb⟩
  rw [HS.out] at he
  subst he
  replace M := M.next bb
  have cR : w1.cell? ⟨w.heap.size + 1, 0, none⟩ = some (.slice none 0 0) := M.r1.cell 0
  have fR : w1.frozen? ⟨w.heap.size + 1, 0, none⟩ = false := M.r1.free 0
  have F1 := hid (ansM_off (w := w) (t := t) (.inl HS.out) M.b)
  have F2 := hid (ansM_off (w := w) (t := t) (.inl HS.out) ((M.b).setCell (p := ⟨w.heap.size + 1, 0, none⟩) (show w.heap.size ≤ w.heap.size + 1 by omega) (.slice none 0 0)))
  clear M L bb c0 c00
  go_wp2
  first
   | exact bodyPost_ret (v := .tuple #[.agg #[.slice none 0 0], .bool false]) (by simp [results, Try.results9, go_sem, cR]) rfl F1.out
   | exact bodyPost_ret (v := .tuple #[.agg #[.slice none 0 0], .bool false]) (by simp [results, Try.results9, go_sem, cR]) rfl F2.out
 | true =>
  have HSP := hid hokp
  have hp60 : pn ≤ 60 := by have h1 := (termOk_parts hokp).2.1; rw [M.sp.1] at h1; exact h1
  clear hokp
  cases hokt : termOkB sg t with
  | false =>
   have HS := hid hokt
   clear hokt
   go_enter Try.func9, Try.ntmps9
   go_wp2_with fail
   rw [← HW.out]
   refine L.out.mono ?_
   rintro e w1 ⟨he, bb⟩
   rw [HSP.out] at he
   subst he
   replace M := M.next bb
   clear bb L c0 c00
   have c0 : w1.cell? ⟨w.heap.size, 0, none⟩ = some (.slice A n c) := M.r0.cell 0
   go_wp2_with fail
   refine (implTermOk A Q n c m mc sg t _ M.ss M.st hn hm).mono ?_
   rintro e w2 ⟨he, bb⟩
   rw [HS.out] at he
   subst he
   replace M := M.next bb
   have cR : w2.cell? ⟨w.heap.size + 1, 0, none⟩ = some (.slice none 0 0) := M.r1.cell 0
   have fR : w2.frozen? ⟨w.heap.size + 1, 0, none⟩ = false := M.r1.free 0
   have F1 := hid (ansM_off (w := w) (p := p) (.inr HS.out) M.b)
   have F2 := hid (ansM_off (w := w) (p := p) (.inr HS.out) ((M.b).setCell (p := ⟨w.heap.size + 1, 0, none⟩) (show w.heap.size ≤ w.heap.size + 1 by omega) (.slice none 0 0)))
   clear M bb c0
   go_wp2
   first
    | exact bodyPost_ret (v := .tuple #[.agg #[.slice none 0 0], .bool false]) (by simp [results, Try.results9, go_sem, cR]) rfl F1.out
    | exact bodyPost_ret (v := .tuple #[.agg #[.slice none 0 0], .bool false]) (by simp [results, Try.results9, go_sem, cR]) rfl F2.out
  | true =>
   have HST := hid hokt
   have hm60 : m ≤ 60 := by have h1 := (termOk_parts hokt).2.1; rw [M.st.1] at h1; exact h1
   have HMO := hid (match_yes HSP.out hokt)
   have HIO := hid (show instB sg p t = (mst sg t p 0 s0).isSome by unfold instB; rw [HMO.out])
   clear hokt
   go_enter Try.func9, Try.ntmps9
   go_wp2_with fail
   rw [← HW.out]
   refine L.out.mono ?_
   rintro e w1 ⟨he, bb⟩
   rw [HSP.out] at he
   subst he
   replace M := M.next bb
   clear bb L c0 c00
   have c0 : w1.cell? ⟨w.heap.size, 0, none⟩ = some (.slice A n c) := M.r0.cell 0
   go_wp2_with fail
   refine (implTermOk A Q n c m mc sg t _ M.ss M.st hn hm).mono ?_
   rintro e w2 ⟨he, bb⟩
   rw [HST.out] at he
   subst he
   replace M := M.next bb
   clear bb c0
   have c0 : w2.cell? ⟨w.heap.size, 0, none⟩ = some (.slice A n c) := M.r0.cell 0
   have LX : Calls Try.prog 36 #[.agg z24, .slice P pn pc, .agg #[.slice A n c, .slice Q m mc, .int .i64 0]] w2 (AnsExt w2 (mst sg t p 0 s0)) :=
    extended A P Q n c pn pc m mc sg p t 0 z24 s0 w2 M.ss M.sp M.st hn hp60 hm60 hmc hmc2 (by rw [← M.st.1]; exact (term_len HST.out).1) HSP.out HST.out (TabR.new _ _) (fun j => by rw [s0_get]; simp)
   obtain ⟨R, hR⟩ : ∃ R, mst sg t p 0 s0 = R := ⟨_, rfl⟩
   rw [hR] at LX
   have HR := hid hR
   have HLX := hid LX
   clear LX hR
   have zw := M.r1.lt
   go_wp2_with (first
    | (refine rowBuild rfl 52 rfl z24 built_b ?_)
    | (go_at_call 36; refine HLX.out.mono ?_; rintro e w3 ⟨cs, rfl, tab, hsz, bb⟩; have one := hid tab.one; have h24 := hid tab.1; have bb3 := bb)
    | (refine rowAlloc rfl 52 rfl z24 zero_b ?_)
    | (refine rowStore rfl 52 _ _ rfl w3.heap.size cs z24 52 rfl rfl (heap_alloc_new w3 _) (by rw [h24.out]; exact size_b) (by rw [h24.out]; rfl) one.out ?_; rw [World.setRow_alloc_new])
    | (refine wpList_load_row rfl 52 _ rfl w3.heap.size rfl 52 cs (0, 0) _ (heap_alloc_new w3 _) Try.underlying52 rfl (by rw [h24.out]; exact size_b) ?_))
   have M3 := M.next bb
   have B4 : Below w3.heap.size w3 (w3.alloc (.cells cs 52)) := (Below.refl _ _).alloc (Nat.le_refl _) _
   have tab4 : TabR (w3.alloc (.cells cs 52)) (w3.alloc (.cells cs 52)).heap.size cs (R.getD s0) := (tab.below (B4.mono bb.size)).more (by have := bb.size; simp; omega)
   have LP := hid (plainB cs (R.getD s0) _ tab4 hsz)
   have M4 := M3.next B4
   have HI2 := hid (show instB sg p t = R.isSome by rw [HIO.out, HR.out])
   have HM2 := hid (show resL (matchO sg p t) = resL R by rw [HMO.out, HR.out])
   rw [res_get] at LP
   clear M M3 tab4 tab hsz bb bb3 one h24 HLX B4 c0
   refine LP.out.mono ?_
   rintro e w5 ⟨D, dn, dc, rfl, od, bb⟩
   have M5 := M4.next bb
   have z4 := M4.b.size
   have z5 := M4.r1.lt
   have cR : w5.cell? ⟨w.heap.size + 1, 0, none⟩ = some (.slice none 0 0) := M5.r1.cell 0
   have fR : w5.frozen? ⟨w.heap.size + 1, 0, none⟩ = false := M5.r1.free 0
   obtain ⟨b, hb⟩ : ∃ b, R.isSome = b := ⟨_, rfl⟩
   rw [hb]
   have F : AnsM w (resL (matchO sg p t)) (instB sg p t) (.returned (.tuple #[.agg #[.slice D dn dc], .bool b])) (w5.setCell ⟨w.heap.size + 1, 0, none⟩ (.slice D dn dc)) := by
    rw [HI2.out, HM2.out, hb]
    have hbt : Btw (w.heap.size + 1) (w.heap.size + 2) w5 (w5.setCell ⟨w.heap.size + 1, 0, none⟩ (.slice D dn dc)) := Btw.of_grown (grown_put (World.grownBy.refl _ _) _ _) (fun k hk => by injection hk; omega)
    have o2 := od.btw hbt (.inr (by simp at z5 ⊢; omega))
    exact ⟨D, dn, dc, rfl, o2.wider (by simp at z4 ⊢; omega) (by simp), (M5.b).setCell (p := ⟨w.heap.size + 1, 0, none⟩) (show w.heap.size ≤ w.heap.size + 1 by omega) _⟩
   have HF := hid F
   clear F od bb M4 M5 HIO hb LP
   go_wp2
   exact bodyPost_ret (v := .tuple #[.agg #[.slice D dn dc], .bool b]) (by simp [results, Try.results9, go_sem, cR]) rfl HF.out
set_option maxHeartbeats 1000000 in
theorem implInstanceIn (A P Q : Option Addr) (n c pn pc m mc : Nat) (sg p t : List Int) (w : World) (h : Seg w w.heap.size A n sg) (hp : Seg w w.heap.size P pn p) (ht : Seg w w.heap.size Q m t) (hn : n ≤ 1048576) (hpn : pn ≤ 1048576) (hm : m ≤ 1048576) (hmc : m ≤ mc) (hmc2 : mc ≤ 9223372036854775807) :
  Calls Try.prog 14 #[.agg #[.slice A n c], .slice P pn pc, .slice Q m mc] w (Tells w (instB sg p t)) := by
 obtain ⟨W, hW⟩ : ∃ W, W = w.alloc (.cells #[.slice A n c] 26) := ⟨_, rfl⟩
 have bW : Below w.heap.size w W := by rw [hW]; exact (Below.refl _ _).alloc (Nat.le_refl _) _
 have HW := hid hW
 have L := hid (implMatched A P Q n c pn pc m mc sg p t W (h.next bW) (hp.next bW) (ht.next bW) hn hpn hm hmc hmc2)
 clear hW h hp ht
 generalize instB sg p t = b at *
 go_enter Try.func14, Try.ntmps14
 go_wp2_with fail
 rw [← HW.out]
 refine L.out.mono ?_
 rintro e w1 ⟨D, dn, dc, rfl, od, bb⟩
 have F := hid (fun o => (show Tells w b (.returned (.bool b)) (w1.alloc o) from ⟨rfl, (next_trans bW bb).alloc (next_trans bW bb).size _⟩))
 clear od bb L bW
 go_wp2
 go_ret
 exact F.out _
set_option maxHeartbeats 1000000 in
theorem implMoreGeneral (A P Q : Option Addr) (n c pn pc m mc : Nat) (sg p t : List Int) (w : World) (h : Seg w w.heap.size A n sg) (hp : Seg w w.heap.size P pn p) (ht : Seg w w.heap.size Q m t) (hn : n ≤ 1048576) (hpn : pn ≤ 1048576) (hm : m ≤ 1048576) (hpc : pn ≤ pc) (hpc2 : pc ≤ 9223372036854775807) (hmc : m ≤ mc) (hmc2 : mc ≤ 9223372036854775807) :
  Calls Try.prog 54 #[.agg #[.slice A n c], .slice P pn pc, .slice Q m mc] w (Tells w (moreB sg p t)) := by
 obtain ⟨W, hW⟩ : ∃ W, W = w.alloc (.cells #[.slice A n c] 26) := ⟨_, rfl⟩
 have f : Fr w W A n c sg Q m t := by rw [hW]; exact Fr.start h ht
 have sp : Seg W W.heap.size P pn p := (hp.below f.b).more (Nat.le_of_lt f.size)
 have HW := hid hW
 have L := hid (implInstanceIn A P Q n c pn pc m mc sg p t W f.s1 sp f.t1 hn hpn hm hmc hmc2)
 clear hW h hp ht
 obtain ⟨b1, e1⟩ : ∃ b, instB sg p t = b := ⟨_, rfl⟩
 obtain ⟨b2, e2⟩ : ∃ b, instB sg t p = b := ⟨_, rfl⟩
 have HF := hid (show moreB sg p t = (b1 && !b2) by unfold moreB; rw [e1, e2])
 rw [e1] at L
 have E2 := hid e2
 clear e1 e2
 go_enter Try.func54, Try.ntmps54
 go_wp2_with fail
 rw [← HW.out]
 refine L.out.mono ?_
 rintro e w1 ⟨rfl, bb⟩
 replace f := f.next bb
 replace sp := sp.next bb
 have cA := f.cell
 clear bb L
 cases b1 with
 | false =>
  have F := hid (show Tells w (moreB sg p t) (.returned (.bool false)) w1 from ⟨by rw [HF.out]; rfl, f.b⟩)
  clear f sp cA
  go_wp2
  go_ret
  exact F.out
 | true =>
  go_wp2_with fail
  refine (implInstanceIn A Q P n c m mc pn pc sg t p _ f.s1 f.t1 sp hn hm hpn hpc hpc2).mono ?_
  rintro e w2 ⟨he, bb⟩
  rw [E2.out] at he
  subst he
  have F := hid (show Tells w (moreB sg p t) (.returned (.bool (!b2))) w2 from ⟨by rw [HF.out]; rfl, (f.next bb).b⟩)
  clear f sp cA bb
  go_wp2
  go_ret
  exact F.out
def HeadTo (w : World) (A : Option Addr) (n c : Nat) (sg : List Int) (P : Option Addr) (pn : Nat) (ps : List (List Int)) (i : Value) (wr : World) : Prop :=
 ∃ k : Nat, i = .int .i64 k ∧ k ≤ pn ∧ (∀ j, j < k → termOkB sg (ps.getD j []) = true) ∧ Fs w wr A n c sg P pn ps
set_option maxHeartbeats 1000000 in
theorem implTermsOk (A P : Option Addr) (n c pn pc : Nat) (sg : List Int) (ps : List (List Int)) (w : World) (h : Seg w w.heap.size A n sg) (hp : Segs w w.heap.size P pn ps) (hn : n ≤ 1048576) (ht : tot ps ≤ 1048576) :
  Calls Try.prog 52 #[.agg #[.slice A n c], .slice P pn pc] w (Tells w (termsB sg ps)) := by
 obtain ⟨W, hW⟩ : ∃ W, W = w.alloc (.cells #[.slice A n c] 26) := ⟨_, rfl⟩
 have f : Fs w W A n c sg P pn ps := by rw [hW]; exact Fs.start h hp
 have HW := hid hW
 have HL := hid hp.1
 have HE := hid (tot_each ht)
 have hpn : pn ≤ 1048576 := tot_len hp.1 ht
 clear hW h hp ht
 by_cases hlong : 12 < pn
 ·have F := hid (show Tells w (termsB sg ps) (.returned (.bool false)) W from ⟨by rw [terms_long (by rw [HL.out]; exact hlong)], f.b⟩)
  clear f
  go_enter Try.func52, Try.ntmps52
  go_wp2_with fail
  rw [← HW.out]
  go_ret
  exact F.out
 ·have S0 : HeadTo w A n c sg P pn ps (.int .i64 0) W := ⟨0, rfl, Nat.zero_le _, fun j hj => absurd hj (Nat.not_lt_zero _), f⟩
  have HS0 := hid S0
  clear S0 f
  go_enter Try.func52, Try.ntmps52
  go_wp2_with fail
  rw [← HW.out]
  go_loopw [12] (fun i wr => HeadTo w A n c sg P pn ps i wr) (fun i _ => pn - (intOf i).toNat)
  case atStart => exact HS0.out
  case round =>
   obtain ⟨k, rfl, hk, hlow, f⟩ := hrel
   have HLOW := hid hlow
   clear hlow HS0
   by_cases hlt : k < pn
   ·obtain ⟨b, off, D, dn, dc, rfl, hbb, hc, hsg, hcap⟩ := f.s'.spot hlt
    have hdn : dn ≤ 1048576 := by have := HE.out k; rw [hsg.1] at this; exact this
    have cA := f.cell
    have LT := hid (implTermOk A D n c dn dc sg (ps.getD k []) wr f.s1 (hsg.more (Nat.le_of_lt f.size)) hn hdn)
    clear hsg hcap
    cases hok : termOkB sg (ps.getD k []) with
    | false =>
     have HS := hid hok
     clear hok
     go_wp2_with fail
     refine LT.out.mono ?_
     rintro e w1 ⟨he, bb⟩
     rw [HS.out] at he
     subst he
     have F := hid (show Tells w (termsB sg ps) (.returned (.bool false)) w1 from ⟨by rw [terms_bad (by rw [HL.out]; exact hlt) HS.out], (f.next bb).b⟩)
     clear f bb cA LT hc
     go_wp2
     go_ret
     exact F.out
    | true =>
     have HS := hid hok
     clear hok
     go_wp2_with fail
     refine LT.out.mono ?_
     rintro e w1 ⟨he, bb⟩
     rw [HS.out] at he
     subst he
     have S : HeadTo w A n c sg (some ⟨b, off, none⟩) pn ps (.int .i64 ((k : Int) + 1)) w1 := ⟨k + 1, by simp, hlt, fun j hj => by
      by_cases e : j = k
      ·rw [e]; exact HS.out
      ·exact HLOW.out j (by omega), f.next bb⟩
     have HSS := hid S
     clear S f bb cA LT hc
     go_wp2
     go_roundw
     case rel => exact HSS.out
     case measure => simp [intOf]; omega
   ·have F := hid (show Tells w (termsB sg ps) (.returned (.bool true)) wr from ⟨by rw [terms_good (by rw [HL.out]; omega) (fun i hi => HLOW.out i (by rw [HL.out] at hi; omega))], f.b⟩)
    clear f
    go_wp2
    go_ret
    exact F.out
end matchImpl
end
section
open Go.Lib (hid)
namespace matchImplB
open Go.RowKit base ints sig same term termOk endAt inside marks app sym sub segs segsHelp kinds termFacts termMath posMath plainMath plain plainOf gives cursor fillMath matchMath matchSpec matchList matchMost whole takeMath take extended pathSpec matchImpl
set_option maxRecDepth 100000
theorem all_terms {sg : List Int} {ps : List (List Int)} (h : sigOkB sg = true) : allB sg ps = termsB sg ps := by unfold allB termsB; rw [h]; rfl
set_option maxHeartbeats 1000000 in
theorem implMatchedAll (A P Q : Option Addr) (n c pn pc m mc : Nat) (sg : List Int) (ps : List (List Int)) (t : List Int) (w : World) (h : Seg w w.heap.size A n sg) (hp : Segs w w.heap.size P pn ps) (ht : Seg w w.heap.size Q m t) (hn : n ≤ 1048576) (htot : tot ps ≤ 1048576) (hm : m ≤ 1048576) (hmc : m ≤ mc) (hmc2 : mc ≤ 9223372036854775807) :
  Calls Try.prog 21 #[.agg #[.slice A n c], .slice P pn pc, .slice Q m mc] w (AnsList w (maI sg ps t)) := by
 obtain ⟨W, hW⟩ : ∃ W, W = w.alloc (.cells #[.slice A n c] 26) := ⟨_, rfl⟩
 have f : Fs w W A n c sg P pn ps := by rw [hW]; exact Fs.start h hp
 have st : Seg W w.heap.size Q m t := ht.below f.b
 have HW := hid hW
 have HL := hid hp.1
 have HE := hid (tot_each htot)
 have HTOT := hid htot
 have cA := f.cell
 have cA0 : (w.alloc (.cells #[.slice A n c] 26)).cell? ⟨w.heap.size, 0, none⟩ = some (.slice A n c) := by rw [← hW]; exact cA
 have LP := hid (implTermOk A Q n c m mc sg t W f.s1 (st.more (Nat.le_of_lt f.size)) hn hm)
 clear hW h hp ht htot
 cases hokt : termOkB sg t with
 | false =>
  have HS := hid hokt
  have HF := hid (ma_no (ps := ps) (.inr hokt))
  clear hokt
  go_enter Try.func21, Try.ntmps21
  go_wp2_with fail
  rw [← HW.out]
  refine LP.out.mono ?_
  rintro e w1 ⟨he, bb⟩
  rw [HS.out] at he
  subst he
  have F := hid (list_of (w := w) HF.out (Own.nil w1 w.heap.size) (Nat.le_refl _) (f.next bb).b)
  clear f st bb LP cA cA0
  go_wp2
  go_ret
  exact F.out
 | true =>
  have HST := hid hokt
  have HAT := hid (all_terms (ps := ps) (termOk_parts hokt).1)
  cases hall : termsB sg ps with
  | false =>
   have HS := hid hall
   have HF := hid (ma_no (t := t) (.inl (HAT.out.trans hall)))
   clear hall hokt
   go_enter Try.func21, Try.ntmps21
   go_wp2_with fail
   rw [← HW.out]
   refine LP.out.mono ?_
   rintro e w1 ⟨he, bb⟩
   rw [HST.out] at he
   subst he
   have bz : Below w.heap.size W w1 := bb.mono (Nat.le_of_lt f.size)
   replace f := f.next bb
   replace st := st.below bz
   clear bb bz LP cA cA0
   have cA := f.cell
   go_wp2_with fail
   refine (implTermsOk A P n c pn pc sg ps _ f.s1 (f.s'.more (Nat.le_of_lt f.size)) hn HTOT.out).mono ?_
   rintro e w2 ⟨he, bb⟩
   rw [HS.out] at he
   subst he
   have F := hid (list_of (w := w) HF.out (Own.nil w2 w.heap.size) (Nat.le_refl _) (f.next bb).b)
   clear f st bb cA
   go_wp2
   go_ret
   exact F.out
  | true =>
   have HS := hid hall
   have hp12 : pn ≤ 12 := by have h1 := (terms_parts hall).1; rw [HL.out] at h1; exact h1
   have HF := hid (show maI sg ps t = maN sg ps t pn by rw [ma_yes (HAT.out.trans hall) hokt, HL.out])
   clear hall hokt
   go_enter Try.func21, Try.ntmps21
   go_wp2_with fail
   rw [← HW.out]
   refine LP.out.mono ?_
   rintro e w1 ⟨he, bb⟩
   rw [HST.out] at he
   subst he
   have bz : Below w.heap.size W w1 := bb.mono (Nat.le_of_lt f.size)
   replace f := f.next bb
   replace st := st.below bz
   clear bb bz LP cA cA0
   have cA := f.cell
   go_wp2_with fail
   refine (implTermsOk A P n c pn pc sg ps _ f.s1 (f.s'.more (Nat.le_of_lt f.size)) hn HTOT.out).mono ?_
   rintro e w2 ⟨he, bb⟩
   rw [HS.out] at he
   subst he
   have bz : Below w.heap.size w1 w2 := bb.mono (Nat.le_of_lt f.size)
   have S0 : HeadMa w A n c sg P pn ps Q m t pn (.slice none 0 0) (.int .i64 0) w2 := ⟨0, none, 0, 0, rfl, by omega, rfl, Own.nil _ _, f.next bb, st.below bz⟩
   have HS0 := hid S0
   clear S0 f st bb bz cA
   go_wp2_with fail
   go_loopg [7, 22] pn (fun g out k wr => HeadMa w A n c sg P pn ps Q m t g out k wr)
   case atStart => exact HS0.out
   case round =>
    obtain ⟨i, O, on, oc, rfl, hi, rfl, ho, f, st⟩ := hrel
    clear HS0
    have HI := hid hi
    clear hi
    have hon : on ≤ 12 := by have h1 := Own.len ho; have h2 := ma_len (sg := sg) (ps := ps) (t := t) i; have := HI.out; omega
    by_cases hip : i < pn
    ·obtain ⟨b, off, D, dn, dc, rfl, hbb, hc, hsg, hcap⟩ := f.s'.spot hip
     have hdn : dn ≤ 1048576 := by have := HE.out i; rw [hsg.1] at this; exact this
     have hgk := hid (show gk - 1 < gk ∧ i + 1 + (gk - 1) = pn by have := HI.out; omega)
     have sd : Seg wr wr.heap.size D dn (ps.getD i []) := hsg.more (Nat.le_of_lt f.size)
     obtain ⟨ys, hys⟩ : ∃ ys, ps.getD i [] = ys := ⟨_, rfl⟩
     rw [hys] at sd
     obtain ⟨bi, hbi⟩ : ∃ b, instB sg ys t = b := ⟨_, rfl⟩
     have HB := hid hbi
     have HE2 := hid (show maN sg ps t (i + 1) = maN sg ps t i ++ (if bi = true then [(i : Int)] else []) by simp only [maN]; rw [hys, hbi])
     have z0 := f.size
     have LI := hid (implInstanceIn A D Q n c dn dc m mc sg ys t wr f.s1 sd (st.more (Nat.le_of_lt f.size)) hn hdn hm hmc hmc2)
     have cA := f.cell
     clear hsg hcap hbi hys sd
     cases bi with
     | false =>
      go_wp2_with fail
      refine LI.out.mono ?_
      rintro e w3 ⟨he, bb⟩
      rw [HB.out] at he
      subst he
      have f2 := f.next bb
      have S : HeadMa w A n c sg (some ⟨b, off, none⟩) pn ps Q m t (gk - 1) (.slice O on oc) (.int .i64 ((i : Int) + 1)) w3 := ⟨i + 1, O, on, oc, by simp, hgk.out.2, rfl, by rw [HE2.out]; simpa using Own.next ho bb, f2, st.below (bb.mono (Nat.le_of_lt f.size))⟩
      have HSS := hid S
      clear S ho f f2 st bb LI cA hc
      go_wp2
      go_roundg (gk - 1)
      case measure => exact hgk.out.1
      case rel => exact HSS.out
     | true =>
      go_wp2_with fail
      refine LI.out.mono ?_
      rintro e w3 ⟨he, bb⟩
      rw [HB.out] at he
      subst he
      have f2 := f.next bb
      replace ho := Own.next ho bb
      replace st := st.below (bb.mono (Nat.le_of_lt f.size))
      have z1 : w.heap.size + 1 ≤ w3.heap.size := f2.size
      clear bb LI cA hc f
      go_wp2_with (at_builtin; refine app1 rfl _ _ rfl (w.heap.size + 1) O on oc _ rfl (Own.alloc ho _) w3.heap.size 1 (i : Int) rfl ((Row.new _ _ _).cell 0) (by omega) (by simp; omega) ?_; intro O' oc' w7 ho7 b7)
      have S : HeadMa w A n c sg (some ⟨b, off, none⟩) pn ps Q m t (gk - 1) (.slice O' (on + 1) oc') (.int .i64 ((i : Int) + 1)) w7 := ⟨i + 1, O', on + 1, oc', by simp, hgk.out.2, rfl, by rw [HE2.out]; exact ho7, (f2.alloc _).over b7, (st.alloc (Nat.le_of_lt f2.size) _).below (b7.mono (Nat.le_succ _))⟩
      have HSS := hid S
      clear S ho ho7 f2 st b7
      go_wp2
      go_roundg (gk - 1)
      case measure => exact hgk.out.1
      case rel => exact HSS.out
    ·have hip2 : i = pn := by have := HI.out; omega
     have F := hid (list_of (w := w) (show maI sg ps t = maN sg ps t i by rw [HF.out, hip2]) ho (Nat.le_succ _) f.b)
     clear ho f st hip2
     go_wp2
     go_ret
     exact F.out
end matchImplB
end
section
open Go.Lib (hid)
namespace anyOf
open Go.RowKit base ints sig segs segsHelp inside
set_option maxRecDepth 100000
def Tests (g : Nat) (lb : Array Value) (w : World) (f : List Int → Bool) : Prop :=
 ∀ (W : World) (D : Option Addr) (dn dc : Nat) (ys : List Int), Below w.heap.size w W → Seg W W.heap.size D dn ys → dn ≤ 1048576 → Cap D dn dc → Calls Try.prog g (#[.slice D dn dc] ++ lb) W (Tells W (f ys))
theorem Tests.next {g : Nat} {lb : Array Value} {w w' : World} {f : List Int → Bool} (h : Tests g lb w f) (hb : Below w.heap.size w w') : Tests g lb w' f :=
 fun W D dn dc ys hW hs hn hc => h W D dn dc ys (next_trans hb hW) hs hn hc
def AnsIx (w : World) (f : List Int → Bool) (xss : List (List Int)) (e : Ending) (w' : World) : Prop := ∃ z : Int, e = .returned (.int .i64 z) ∧ -1 ≤ z ∧ z ≤ 1048576 ∧ decide (0 ≤ z) = xss.any f ∧ Below w.heap.size w w'
def HeadIx (w : World) (n : Nat) (f : List Int → Bool) (xss : List (List Int)) (i : Value) (wr : World) : Prop := ∃ k : Nat, k ≤ n ∧ i = .int .i64 k ∧ (∀ j, j < k → f (xss.getD j []) = false) ∧ Below w.heap.size w wr
theorem any_at {f : List Int → Bool} {xss : List (List Int)} {k : Nat} (hk : k < xss.length) (h : f (xss.getD k []) = true) : xss.any f = true := by
 rw [List.any_eq_true]
 exact ⟨xss[k], List.getElem_mem hk, by simpa [List.getD, hk] using h⟩
theorem any_none {f : List Int → Bool} {xss : List (List Int)} (h : ∀ j, j < xss.length → f (xss.getD j []) = false) : xss.any f = false := by
 rw [List.any_eq_false]
 intro x hx
 obtain ⟨i, hi, rfl⟩ := List.getElem_of_mem hx
 have := h i hi
 simpa [List.getD, hi] using this
set_option maxHeartbeats 2000000 in
theorem indexFunc (g : Nat) (lb : Array Value) (eg : ∀ args w, (callFunc g args).run Try.prog w = .ok (.enter g args) w) (f : List Int → Bool) (A : Option Addr) (n c : Nat) (xss : List (List Int)) (w : World) (hT : Tests g lb w f)
  (h : Segs w w.heap.size A n xss) (hn : n ≤ 1048576) (hE : ∀ j, (xss.getD j []).length ≤ 1048576) :
  Calls Try.prog 88 #[.slice A n c, .func (.func g) #[] lb] w (AnsIx w f xss) := by
 have HE := hid hE
 have HL := hid h.1
 have HK := hid hT
 have HH : Hid (HeadIx w n f xss (.int .i64 0) w) := hid ⟨0, Nat.zero_le _, rfl, fun j hj => absurd hj (Nat.not_lt_zero _), Below.refl _ _⟩
 clear hE hT
 go_enter Try.func88, Try.ntmps88
 go_wp2_with fail
 go_loopw [8] (fun i wr => HeadIx w n f xss i wr) (fun i _ => n - (intOf i).toNat)
 case atStart => exact HH.out
 case round =>
  obtain ⟨k, hk, rfl, hlow, hb⟩ := hrel
  have HLOW := hid hlow
  clear hlow HH
  by_cases hlt : k < n
  ·obtain ⟨b, off, A', n', cc, rfl, hbB, hx0, hseg, hcap⟩ := h.spot hlt
   have hx : wr.cell? ⟨b, off + k, none⟩ = some (.slice A' n' cc) := (hb.cell (p := ⟨b, off + k, none⟩) hbB).trans hx0
   have hn' : n' ≤ 1048576 := by rw [← hseg.1]; exact HE.out k
   obtain ⟨ys, hys⟩ : ∃ ys, xss.getD k [] = ys := ⟨_, rfl⟩
   rw [hys] at hseg
   have HY := hid hys
   have hcall := HK.out wr A' n' cc ys hb (hseg.below hb |>.more hb.size) hn' hcap
   obtain ⟨v, hv⟩ : ∃ v, f ys = v := ⟨_, rfl⟩
   rw [hv] at hcall
   have HV := hid hv
   have HC := hid hcall
   have i0 : (0 : Int) ≤ (k : Int) := by omega
   have i1 : (k : Int) < (n : Int) := by omega
   clear hseg hcap h hx0 hys hv hcall
   cases v with
   | true =>
    go_wp2_with (first
     | (go_at_fn g; refine HC.out.mono ?_; rintro e w1 ⟨rfl, bb⟩))
    have F : AnsIx w f xss (.returned (.int .i64 (k : Int))) w1 := ⟨k, rfl, by omega, by omega, by rw [decide_eq_true (by omega)]; exact (any_at (by rw [HL.out]; exact hlt) (by rw [HY.out]; exact HV.out)).symm, next_trans hb bb⟩
    have HF := hid F
    clear F hx bb hb HC
    go_wp2
    go_ret
    exact HF.out
   | false =>
    go_wp2_with (first
     | (go_at_fn g; refine HC.out.mono ?_; rintro e w1 ⟨rfl, bb⟩))
    have S1 : HeadIx w n f xss (.int .i64 ((k : Int) + 1)) w1 := ⟨k + 1, hlt, by simp, fun j hj => by
     by_cases e : j = k
     ·rw [e, HY.out]; exact HV.out
     ·exact HLOW.out j (by omega), next_trans hb bb⟩
    have HS1 := hid S1
    clear S1 hx bb hb HC
    go_wp2
    go_roundw
    case rel => exact HS1.out
    case measure => simp [intOf]; omega
  ·have F : AnsIx w f xss (.returned (.int .i64 (-1))) wr := ⟨-1, rfl, by omega, by omega, (any_none (fun j hj => HLOW.out j (by rw [HL.out] at hj; omega))).symm, hb⟩
   have HF := hid F
   clear F h hb
   go_wp2
   go_ret
   exact HF.out
theorem containsFunc (g : Nat) (lb : Array Value) (eg : ∀ args w, (callFunc g args).run Try.prog w = .ok (.enter g args) w) (f : List Int → Bool) (A : Option Addr) (n c : Nat) (xss : List (List Int)) (w : World) (hT : Tests g lb w f)
  (h : Segs w w.heap.size A n xss) (hn : n ≤ 1048576) (hE : ∀ j, (xss.getD j []).length ≤ 1048576) :
  Calls Try.prog 57 #[.slice A n c, .func (.func g) #[] lb] w (Tells w (xss.any f)) := by
 have L := hid (indexFunc g lb eg f A n c xss w hT h hn hE)
 clear h hE hT
 go_enter Try.func57, Try.ntmps57
 go_wp2_with fail
 refine L.out.mono ?_
 rintro e w' ⟨z, rfl, h1, h2, hz, bb⟩
 have HZ := hid hz
 have HB := hid bb
 clear hz L bb
 go_wp2
 go_ret
 exact ⟨by rw [← HZ.out]; rfl, HB.out⟩
end anyOf
end
end Go.Proofs.Ytgfgaeagbipobaa
