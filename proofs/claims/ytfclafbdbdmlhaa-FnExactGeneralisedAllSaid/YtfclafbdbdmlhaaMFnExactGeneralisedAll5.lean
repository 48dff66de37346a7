/-
  MERGED: my texts Rename, RenImpl, Variant, MatchMost, MatchImpl, GenAll, WGeneralisedAll, one behind the other, as they are. By an AI agent.
-/
import Derived.Test.YtfclafbdbdmlhaaMFnExactGeneralisedAll4
import Derived.Deep.QuietTactic
import Derived.BigQuiet
import Derived.Deep.RegionHeld3
import Derived.Deep.WholeRow
namespace Go.Proofs.Ytfclafbdbdmlhaa
section
open Go.Lib (hid)
namespace rename
open Go.RowKit base ints sig term termOk marks app sym segs termFacts varsMath varsOf renMath
set_option maxRecDepth 100000
theorem mem_of_get {t : List Int} {k : Nat} {x : Int} (hk : k < t.length) (hx : t.getD k 0 = x) : x ∈ t := by
 rw [← hx]
 simp [List.getD, hk]
theorem not_mem_of {t : List Int} {x : Int} (h : ∀ j, j < t.length → t.getD j 0 ≠ x) : x ∉ t := fun hx => by
 obtain ⟨j, hj, e⟩ := List.getElem_of_mem hx
 exact h j hj (by simp [List.getD, hj, e])
def HeadNo (n : Nat) (xs : List Int) (x : Int) (i : Value) : Prop := ∃ k : Nat, k ≤ n ∧ i = .int .i64 k ∧ ∀ j, j < k → xs.getD j 0 ≠ x
theorem headNo_step {n k : Nat} {xs : List Int} {x y : Int} (hk : k < n) (h : ∀ j, j < k → xs.getD j 0 ≠ x) (hy : Hid (xs.getD k 0 = y)) (hne : ¬ y = x) : HeadNo n xs x (.int .i64 ((k : Int) + 1)) :=
 ⟨k + 1, hk, by simp, fun j hj => by
  by_cases e : j = k
  ·subst e; rw [hy.out]; exact hne
  ·exact h j (by omega)⟩
set_option maxHeartbeats 1000000 in
theorem l1Has (A : Option Addr) (n c : Nat) (xs : List Int) (x : Int) (w : World) (h : Seg w w.heap.size A n xs) (hn : n ≤ 1048576) :
  Calls Try.prog 124 #[.slice A n c, .int .i64 x] w fun e w' => w = w' ∧ e = .returned (.bool (decide (x ∈ xs))) := by
 have HX := hid h.1
 go_enter Try.func124, Try.ntmps124
 go_wp2
 go_loop [5] (fun i => HeadNo n xs x i) (fun i => n - (intOf i).toNat)
 case atStart => exact ⟨0, Nat.zero_le _, rfl, fun j hj => absurd hj (Nat.not_lt_zero _)⟩
 case round =>
  obtain ⟨k, hk, rfl, hlow⟩ := hrel
  by_cases hlt : k < n
  ·obtain ⟨b, off, y, rfl, -, hy, ey⟩ := h.spot hlt
   by_cases he : y = x
   ·subst he
    have F := hid (show y ∈ xs from mem_of_get (by rw [HX.out]; exact hlt) ey.out)
    have e1 : (y == y) = true := by simp
    clear h ey hlow
    go_wp2
    go_ret
    exact ⟨rfl, by rw [decide_eq_true F.out]; rfl⟩
   ·have S := hid (headNo_step hlt hlow ey he)
    have e1 : (y == x) = false := by simp [he]
    clear h ey hlow
    go_wp2
    go_round
    case rel => exact S.out
    case measure => simp [intOf]; omega
  ·have F := hid (not_mem_of (t := xs) (x := x) (fun j hj => hlow j (by rw [HX.out] at hj; omega)))
   clear h hlow
   go_wp2
   go_ret
   exact ⟨rfl, by rw [decide_eq_false F.out]; rfl⟩
def indexI (xs : List Int) (x : Int) : Int := if x ∈ xs then (idx xs x : Int) else -1
set_option maxHeartbeats 1000000 in
theorem indexOf (A : Option Addr) (n c : Nat) (xs : List Int) (x : Int) (w : World) (h : Seg w w.heap.size A n xs) (hn : n ≤ 1048576) :
  Calls Try.prog 106 #[.slice A n c, .int .i64 x] w fun e w' => w = w' ∧ e = .returned (.int .i64 (indexI xs x)) := by
 have HX := hid h.1
 go_enter Try.func106, Try.ntmps106
 go_wp2
 go_loop [8] (fun i => HeadNo n xs x i) (fun i => n - (intOf i).toNat)
 case atStart => exact ⟨0, Nat.zero_le _, rfl, fun j hj => absurd hj (Nat.not_lt_zero _)⟩
 case round =>
  obtain ⟨k, hk, rfl, hlow⟩ := hrel
  by_cases hlt : k < n
  ·obtain ⟨b, off, y, rfl, -, hy, ey⟩ := h.spot hlt
   by_cases he : y = x
   ·subst he
    have F := hid (show indexI xs y = (k : Int) by
     have hkl : k < xs.length := by rw [HX.out]; exact hlt
     unfold indexI
     rw [if_pos (mem_of_get hkl ey.out), idx_first hkl hlow ey.out])
    have e1 : (y == y) = true := by simp
    clear h ey hlow
    go_wp2
    go_ret
    exact ⟨rfl, by rw [F.out]; rfl⟩
   ·have S := hid (headNo_step hlt hlow ey he)
    have e1 : (x == y) = false := by simp; exact fun e => he e.symm
    clear h ey hlow
    go_wp2
    go_round
    case rel => exact S.out
    case measure => simp [intOf]; omega
  ·have F := hid (show indexI xs x = -1 by unfold indexI; rw [if_neg (not_mem_of (fun j hj => hlow j (by rw [HX.out] at hj; omega)))])
   clear h hlow
   go_wp2
   go_ret
   exact ⟨rfl, by rw [F.out]; rfl⟩
def HeadOrd (w : World) (m : Nat) (t : List Int) (out i : Value) (wr : World) : Prop :=
 ∃ (k : Nat) (O : Option Addr) (on oc : Nat), k ≤ m ∧ i = .int .i64 k ∧ out = .slice O on oc ∧ Own wr w.heap.size (.slice O on oc) (orderL (t.take k)) ∧ Below w.heap.size w wr
set_option maxHeartbeats 2000000 in
theorem l2Order (A : Option Addr) (m c : Nat) (t : List Int) (w : World) (h : Seg w w.heap.size A m t) (hm : m ≤ 1048576) :
  Calls Try.prog 109 #[.slice A m c] w (AnsList w (orderL t)) := by
 have HL := hid h.1
 have S0 : HeadOrd w m t (.slice (some ⟨w.heap.size, 0, none⟩) 0 0) (.int .i64 0) (w.alloc (.cells #[] 2)) :=
  ⟨0, _, _, _, Nat.zero_le _, rfl, rfl, by simpa [orderL] using own_empty w w.heap.size (Nat.le_refl _), (Below.refl _ _).alloc (Nat.le_refl _) _⟩
 have HS0 := hid S0
 clear S0
 go_enter Try.func109, Try.ntmps109
 go_wp2_with fail
 go_loopw [3, 4] (fun out i wr => HeadOrd w m t out i wr) (fun _ i _ => m - (intOf i).toNat)
 case atStart => exact HS0.out
 case round =>
  obtain ⟨k, O, on, oc, hk, rfl, rfl, ho, hb⟩ := hrel
  clear HS0
  have hon : on ≤ m := by have h1 := Own.len ho; have h2 := order_len (t.take k); simp at h2; have h3 := HL.out; omega
  by_cases hlt : k < m
  ·obtain ⟨b, off, x, rfl, hbb, hx, ex⟩ := h.spot hlt
   have hx1 : wr.cell? ⟨b, off + k, none⟩ = some (.int .i64 x) := (hb.cell (p := ⟨b, off + k, none⟩) hbb).trans hx
   have E := hid (order_take (t := t) (k := k) (by rw [HL.out]; exact hlt) ex.out)
   have hsz := hb.size
   clear hx h ex
   by_cases hneg : x < 0
   ·have L := hid (l1Has O on oc _ x wr (Own.seg ho) (by omega))
    by_cases hin : x ∈ orderL (t.take k)
    ·have R := hid (show extV (orderL (t.take k)) x = orderL (t.take k) by unfold extV ext; rw [if_pos hneg, if_pos hin])
     rw [decide_eq_true hin] at L
     have S : HeadOrd w m t (.slice O on oc) (.int .i64 ((k : Int) + 1)) wr := ⟨k + 1, O, on, oc, hlt, by simp, rfl, by rw [E.out, R.out]; exact ho, hb⟩
     replace S := hid S
     clear ho hb hin R E
     go_wp2_with fail
     refine L.out.mono ?_
     rintro e w' ⟨rfl, rfl⟩
     clear L
     go_wp2
     go_roundw
     case rel => exact S.out
     case measure => simp [intOf]; omega
    ·have R := hid (show extV (orderL (t.take k)) x = orderL (t.take k) ++ [x] by unfold extV ext; rw [if_pos hneg, if_neg hin])
     rw [decide_eq_false hin] at L
     clear hin
     go_wp2_with fail
     refine L.out.mono ?_
     rintro e w' ⟨rfl, rfl⟩
     clear L
     go_wp2_with (at_builtin; refine app1 rfl _ _ rfl w.heap.size O on oc (orderL (t.take k)) rfl (Own.alloc ho _) wr.heap.size 1 x rfl ((Row.new _ _ _).cell 0) (by omega) (by simp; omega) ?_; intro O' oc' w2 ho2 b2)
     have S : HeadOrd w m t (.slice O' (on + 1) oc') (.int .i64 ((k : Int) + 1)) w2 := ⟨k + 1, O', on + 1, oc', hlt, by simp, rfl, by rw [E.out, R.out]; exact ho2, (hb.alloc hsz _).trans b2⟩
     replace S := hid S
     clear ho2 b2 ho hb R E
     go_wp2
     go_roundw
     case rel => exact S.out
     case measure => simp [intOf]; omega
   ·have R := hid (show extV (orderL (t.take k)) x = orderL (t.take k) by unfold extV; rw [if_neg hneg])
    have S : HeadOrd w m t (.slice O on oc) (.int .i64 ((k : Int) + 1)) wr := ⟨k + 1, O, on, oc, hlt, by simp, rfl, by rw [E.out, R.out]; exact ho, hb⟩
    replace S := hid S
    have d1 : decide (x < 0) = false := by simp; omega
    clear ho hb R E
    go_wp2
    go_roundw
    case rel => exact S.out
    case measure => simp [intOf]; omega
  ·have F : AnsList w (orderL t) (.returned (.slice O on oc)) wr := by
    rw [List.take_of_length_le (by rw [HL.out]; omega)] at ho
    exact ⟨O, on, oc, rfl, ho, hb⟩
   have HF := hid F
   clear F ho hb h
   go_wp2
   go_ret
   exact HF.out
def upTo (o : List Int) (x : Int) (q : Nat) : Int := if idx o x < q then -1 - (idx o x : Int) else x
def HeadIn (wr : World) (pn : Nat) (o : List Int) (x : Int) (n k : Value) (wi : World) : Prop := ∃ q d : Nat, q ≤ pn ∧ k = .int .i64 q ∧ n = .int .i64 (upTo o x q) ∧ wi = wr.drewN d
theorem upTo_yes {o : List Int} (hd : o.Nodup) {x : Int} {q : Nat} (hq : q < o.length) (h : o.getD q 0 = x) : upTo o x (q + 1) = -1 - (q : Int) := by
 unfold upTo
 rw [idx_nodup hd hq h, if_pos (by omega)]
theorem upTo_no {o : List Int} {x y : Int} {q : Nat} (hq : q < o.length) (h : o.getD q 0 = y) (hne : ¬ y = x) : upTo o x (q + 1) = upTo o x q := by
 unfold upTo
 have h1 : idx o x ≠ q := fun e => by
  by_cases hx : x ∈ o
  ·have := idx_get hx
   rw [e, h] at this
   exact hne this
  ·have := idx_not hx
   omega
 by_cases h2 : idx o x < q
 ·rw [if_pos h2, if_pos (by omega)]
 ·rw [if_neg h2, if_neg (by omega)]
def HeadBy (w : World) (m : Nat) (t o : List Int) (out i : Value) (wr : World) : Prop :=
 ∃ (k : Nat) (O : Option Addr) (on oc : Nat), k ≤ m ∧ i = .int .i64 k ∧ out = .slice O on oc ∧ Own wr w.heap.size (.slice O on oc) ((t.take k).map (ren o)) ∧ Below w.heap.size w wr
set_option maxHeartbeats 4000000 in
theorem l2By (P A : Option Addr) (pn pc m c : Nat) (o t : List Int) (w : World) (hp : Seg w w.heap.size P pn o) (h : Seg w w.heap.size A m t) (hpn : pn ≤ 1048576) (hm : m ≤ 1048576) (hd : o.Nodup) (ho : ∀ x ∈ t, x < 0 → x ∈ o) :
  Calls Try.prog 108 #[.slice P pn pc, .slice A m c] w (AnsList w (t.map (ren o))) := by
 have HL := hid h.1
 have HP := hid hp.1
 have HO := hid ho
 have HD := hid hd
 have S0 : HeadBy w m t o (.slice (some ⟨w.heap.size, 0, none⟩) 0 0) (.int .i64 0) (w.alloc (.cells #[] 2)) :=
  ⟨0, _, _, _, Nat.zero_le _, rfl, rfl, by simpa using own_empty w w.heap.size (Nat.le_refl _), (Below.refl _ _).alloc (Nat.le_refl _) _⟩
 have HS0 := hid S0
 clear S0 ho hd
 go_enter Try.func108, Try.ntmps108
 go_wp2_with fail
 go_loopw [5, 6] (fun out i wr => HeadBy w m t o out i wr) (fun _ i _ => m - (intOf i).toNat)
 case atStart => exact HS0.out
 case round =>
  obtain ⟨k, O, on, oc, hk, rfl, rfl, hown, hb⟩ := hrel
  clear HS0
  have hon : on ≤ m := by have h1 := Own.len hown; simp at h1; omega
  obtain ⟨wo, rfl⟩ : ∃ wo : World, wo = wr := ⟨_, rfl⟩
  by_cases hlt : k < m
  ·obtain ⟨b, off, x, rfl, hbb, hx, ex⟩ := h.spot hlt
   have hx1 : wo.cell? ⟨b, off + k, none⟩ = some (.int .i64 x) := (hb.cell (p := ⟨b, off + k, none⟩) hbb).trans hx
   have hmem := mem_of_get (by rw [HL.out]; exact hlt) ex.out
   have E := hid (show (t.take (k + 1)).map (ren o) = (t.take k).map (ren o) ++ [ren o x] by rw [take_snoc (by rw [HL.out]; exact hlt) ex.out, List.map_append]; rfl)
   have hsz := hb.size
   have hpo := hp.below hb
   clear hx h ex
   by_cases hneg : x < 0
   ·have hin := HO.out x hmem hneg
    have I0 : HeadIn wo pn o x (.int .i64 x) (.int .i64 0) wo := ⟨0, 0, Nat.zero_le _, rfl, by simp [upTo], rfl⟩
    have HI0 := hid I0
    have R := hid (show upTo o x pn = ren o x by unfold upTo ren; rw [if_pos hneg, if_pos (by rw [← HP.out]; exact idx_lt hin)])
    have REST := hid (fun (d : Nat) (O' : Option Addr) (oc' : Nat) (w2 : World) (ho2 : Own w2 w.heap.size (.slice O' (on + 1) oc') ((t.take k).map (ren o) ++ [ren o x])) (b2 : Below w.heap.size ((wo.drewN d).alloc (.cells #[.int .i64 (ren o x)] 2)) w2) =>
     (show HeadBy w m t o (.slice O' (on + 1) oc') (.int .i64 ((k : Int) + 1)) w2 from ⟨k + 1, O', on + 1, oc', hlt, by simp, rfl, by rw [E.out]; exact ho2, ((below_drewN hb d).alloc hsz _).trans b2⟩))
    clear I0 hin hmem hb
    go_wp2_with fail
    go_loopw [7, 8] (fun n q wi => HeadIn wo pn o x n q wi) (fun _ q _ => pn - (intOf q).toNat)
    case atStart => exact HI0.out
    case round =>
     obtain ⟨q, d, hq, rfl, rfl, hw⟩ := hrel
     clear HI0
     have hxr : wr.cell? ⟨b, off + k, none⟩ = some (.int .i64 x) := by rw [hw]; exact hx1
     have hpr : Seg wr w.heap.size P pn o := by rw [hw]; exact hpo
     have HW := hid hw
     clear hw
     by_cases hq2 : q < pn
     ·obtain ⟨b2, off2, y, rfl, -, hy, ey⟩ := hpr.spot hq2
      by_cases he : y = x
      ·have U := hid (upTo_yes HD.out (by rw [HP.out]; exact hq2) (ey.out.trans he))
       have S : ∀ nq : Nat, HeadIn wo pn o x (.int .i64 (-1 - (q : Int))) (.int .i64 ((q : Int) + 1)) (wr.drewN nq) := fun nq => ⟨q + 1, d + nq, hq2, by simp, by rw [U.out], by rw [HW.out, World.drewN_drewN]⟩
       replace S := hid S
       have e1 : (y == x) = true := by simp [he]
       clear hpr ey U hpo hp hx1 hown
       generalize upTo o x q = z at *
       go_wp2_with fail
       go_quiet (fail)
       go_wp2
       go_roundw
       case rel => exact S.out _
       case measure => simp [intOf]; omega
      ·have U := hid (upTo_no (x := x) (by rw [HP.out]; exact hq2) ey.out he)
       have S : ∀ nq : Nat, HeadIn wo pn o x (.int .i64 (upTo o x q)) (.int .i64 ((q : Int) + 1)) (wr.drewN nq) := fun nq => ⟨q + 1, d + nq, hq2, by simp, by rw [U.out], by rw [HW.out, World.drewN_drewN]⟩
       replace S := hid S
       have e1 : (y == x) = false := by simp [he]
       clear hpr ey U hpo hp hx1 hown
       generalize upTo o x q = z at *
       go_wp2_with fail
       go_quiet (fail)
       go_wp2
       go_roundw
       case rel => exact S.out _
       case measure => simp [intOf]; omega
     ·have hqp : q = pn := by omega
      subst hqp
      have hown2 : Own wr w.heap.size (.slice O on oc) ((t.take k).map (ren o)) := by rw [HW.out]; exact hown
      have hszr : w.heap.size ≤ wr.heap.size := by rw [HW.out]; exact hsz
      rw [R.out]
      clear hpr hpo hp hx1 hown
      generalize hz : ren o x = z at *
      go_wp2_with (at_builtin; refine app1 rfl _ _ rfl w.heap.size O on oc ((t.take k).map (ren o)) rfl (Own.alloc hown2 _) wr.heap.size 1 z rfl ((Row.new _ _ _).cell 0) (by omega) (by simp; omega) ?_; intro O' oc' w2 ho2 b2)
      have S := hid (REST.out d O' oc' w2 ho2 (by rw [← HW.out]; exact b2))
      clear ho2 b2 hown2 REST
      go_wp2
      go_roundw
      case rel => exact S.out
      case measure => simp [intOf]; omega
   ·have RH := hid (show ren o x = x by unfold ren; rw [if_neg hneg])
    have d1 : decide (x < 0) = false := by simp; omega
    have REST := hid (fun (O' : Option Addr) (oc' : Nat) (w2 : World) (ho2 : Own w2 w.heap.size (.slice O' (on + 1) oc') ((t.take k).map (ren o) ++ [x])) (b2 : Below w.heap.size (wo.alloc (.cells #[.int .i64 x] 2)) w2) =>
     (show HeadBy w m t o (.slice O' (on + 1) oc') (.int .i64 ((k : Int) + 1)) w2 from ⟨k + 1, O', on + 1, oc', hlt, by simp, rfl, by rw [E.out, RH.out]; exact ho2, (hb.alloc hsz _).trans b2⟩))
    clear hmem hpo hb
    by_cases hp0 : 0 < pn
    all_goals
     go_wp2_with fail
     go_loopw [7, 8] (fun n q wi => n = .int .i64 x ∧ q = .int .i64 0 ∧ wi = wo) (fun _ _ _ => 0)
     case atStart => exact ⟨rfl, rfl, rfl⟩
     case round =>
      obtain ⟨rfl, rfl, hw⟩ := hrel
      subst hw
      go_wp2_with (at_builtin; refine app1 rfl _ _ rfl w.heap.size O on oc ((t.take k).map (ren o)) rfl (Own.alloc hown _) wr.heap.size 1 x rfl ((Row.new _ _ _).cell 0) (by omega) (by simp; omega) ?_; intro O' oc' w2 ho2 b2)
      have S := hid (REST.out O' oc' w2 ho2 b2)
      clear ho2 b2 hown REST
      go_wp2
      go_roundw
      case rel => exact S.out
      case measure => simp [intOf]; omega
  ·have F : AnsList w (t.map (ren o)) (.returned (.slice O on oc)) wo := by
    rw [List.take_of_length_le (by rw [HL.out]; omega)] at hown
    exact ⟨O, on, oc, rfl, hown, hb⟩
   have HF := hid F
   clear F hown hb h hp
   go_wp2
   go_ret
   exact HF.out
set_option maxHeartbeats 1000000 in
theorem l2Renamed (A : Option Addr) (m c : Nat) (t : List Int) (w : World) (h : Seg w w.heap.size A m t) (hm : m ≤ 1048576) :
  Calls Try.prog 65 #[.slice A m c] w (AnsList w (renL t)) := by
 have L := hid (l2Order A m c t w h hm)
 have HL := hid h.1
 go_enter Try.func65, Try.ntmps65
 go_wp2_with fail
 refine L.out.mono ?_
 rintro e w1 ⟨P, pn, pc, rfl, o1, bb⟩
 have hpn : pn ≤ 1048576 := by rw [Own.len o1]; have := order_len t; have := HL.out; omega
 have L2 := hid (l2By P A pn pc m c (orderL t) t w1 (Own.seg o1) (h.next bb) hpn hm (order_nodup t) (fun x hx h0 => order_mem.2 ⟨hx, h0⟩))
 clear L o1 h
 go_wp2_with fail
 refine L2.out.mono ?_
 rintro e w2 ⟨Q, qn, qc, rfl, o2, b2⟩
 have F : AnsList w (renL t) (.returned (.slice Q qn qc)) w2 := ⟨Q, qn, qc, rfl, Own.lower o2 bb.size, next_trans bb b2⟩
 have HF := hid F
 clear F o2 b2 bb L2
 go_wp2
 go_ret
 exact HF.out
end rename
end
section
open Go.Lib (hid)
namespace renImpl
open Go.RowKit base ints sig cursor term termOk marks app appAt sym segs termFacts varsMath fillMath Go.Proofs.Ytfclafbdbdmlhaa.look renMath rename
set_option maxRecDepth 100000
def vn (n : Int) : Int := -1 - n
theorem vn_inj : ∀ a b : Int, vn a = vn b → a = b := fun a b h => by unfold vn at h; omega
structure Side (p : Nat) (r : Option Nat) (a b : World) : Prop where
 os : b.os = a.os
 tape : b.tape = a.tape
 output : b.output = a.output
 size : a.heap.size ≤ b.heap.size
 block : ∀ k, k < a.heap.size → k ≠ p → some k ≠ r → b.heap[k]? = a.heap[k]?
section
variable {p : Nat} {r : Option Nat} {a b c : World}
theorem Side.of_below (h : Below a.heap.size a b) : Side p r a b := ⟨h.os, h.tape, h.output, h.size, fun k hk _ _ => h.block k hk⟩
theorem Side.of_grown (h : a.grownBy b r) : Side p r a b := ⟨h.os, h.tape, h.output, h.size, fun k hk _ hr => h.block k hk hr⟩
theorem Side.of_var (h : a.grownBy b (some p)) : Side p r a b := ⟨h.os, h.tape, h.output, h.size, fun k hk hp _ => h.block k hk (fun e => by injection e with e; exact hp e)⟩
theorem Side.trans (h : Side p r a b) (k : Side p r b c) : Side p r a c :=
 ⟨k.os.trans h.os, k.tape.trans h.tape, k.output.trans h.output, Nat.le_trans h.size k.size, fun i hi hp hr => (k.block i (Nat.lt_of_lt_of_le hi h.size) hp hr).trans (h.block i hi hp hr)⟩
theorem Side.below (h : Side p r a b) (hr : ∀ k, r = some k → p ≤ k) (hp : p ≤ a.heap.size) : Below p a b :=
 ⟨h.os, h.tape, h.output, h.size, fun k hk => h.block k (by omega) (by omega) (fun e => by have := hr k e.symm; omega)⟩
theorem Own.side {base n cc : Nat} {O : Option Addr} {xs : List Int} {cs : Array Value} (h : Own a base (.slice O n cc) xs) (hs : Side p r a b) (hv : Row a p 24 cs) (hne : blk O = none ∨ blk O ≠ r) : Own b base (.slice O n cc) xs := by
 obtain ⟨q1, q2⟩ := h
 refine ⟨q1, ?_⟩
 rcases q2 with q2 | ⟨g, cap, cur, e, hg, hh, rest⟩
 ·exact .inl q2
 ·refine .inr ⟨g, cap, cur, e, hg, ?_, rest⟩
  have hlt : g < a.heap.size := (Array.getElem?_eq_some_iff.1 hh).1
  have hb : blk O = some g := by rw [← blk_own O n cc, e]; rfl
  have hgp : g ≠ p := Row.ne_ (t := 2) (t' := 24) hh hv (by decide)
  exact (hs.block g hlt hgp (by rw [hb] at hne; rcases hne with h | h; cases h; exact h)).trans hh
end
theorem own_ne {w : World} {base B n c : Nat} {S : Option Addr} {xs : List Int} {cs : Array Value} (h : Own w base (.slice S n c) xs) (hr : Row w B 24 cs) : blk S ≠ some B := by
 have hl := Own.len h
 rcases own_form (n := n) (vs := xs.map (Value.int .i64)) (by rw [hl]; rw [hl] at h; exact h) with ⟨rfl, _⟩ | ⟨g, cur, rfl, _, hrow, _⟩
 ·intro e; cases e
 ·intro e
  have e2 : g = B := Option.some.inj e
  exact Row.ne_ hr hrow (by decide) e2.symm
theorem one_seg (w : World) (y : Int) : Seg (w.alloc (.cells #[.int .i64 y] 2)) (w.alloc (.cells #[.int .i64 y] 2)).heap.size (some ⟨w.heap.size, 0, none⟩) 1 [y] :=
 (Row.new w 2 #[.int .i64 y]).seg rfl (by simp) (fun j hj => by
  have e : j = 0 := by omega
  subst e
  rfl)
def AnsRen (W : World) (B : Nat) (S : Option Addr) (o : List Int) (x : Int) (e : Ending) (w' : World) : Prop :=
 ∃ A c S' sn' sc', e = .returned (.slice A 1 c) ∧ Seg w' w'.heap.size A 1 [-1 - (idx (ext o x) x : Int)] ∧ (A = none → c = 0) ∧ Row w' B 24 #[.slice S' sn' sc'] ∧
  Own w' (B + 1) (.slice S' sn' sc') ((ext o x).map vn) ∧ (blk S' = blk S ∨ ∃ k, blk S' = some k ∧ W.heap.size ≤ k) ∧ Side B (blk S) W w'
set_option maxHeartbeats 4000000 in
theorem ren1 (B : Nat) (S : Option Addr) (sn sc : Nat) (o : List Int) (x : Int) (W : World) (hr : Row W B 24 #[.slice S sn sc]) (ho : Own W (B + 1) (.slice S sn sc) (o.map vn)) (hx0 : -24 ≤ x) (hx1 : x < 0) (hsn : sn ≤ 1000) :
  Calls Try.prog 105 #[.int .i64 (-1 - x), .pointer (some ⟨B, 0, none⟩)] W (AnsRen W B S o x) := by
 have hl := Own.len ho
 simp only [List.length_map] at hl
 have hlt := hr.lt
 have cB : W.cell? ⟨B, 0, none⟩ = some (.slice S sn sc) := hr.cell 0
 have fB : W.frozen? ⟨B, 0, none⟩ = false := hr.free 0
 have LI := hid (indexOf S sn sc (o.map vn) (-1 - x) W (Own.seg ho) (by omega))
 by_cases hin : x ∈ o
 ·have hi : idx o x < o.length := idx_lt hin
  obtain ⟨q, hq⟩ : ∃ q, idx o x = q := ⟨_, rfl⟩
  have EI := hid (show indexI (o.map vn) (-1 - x) = (q : Int) by
   unfold indexI
   rw [show (-1 - x : Int) = vn x from rfl, if_pos ((mem_map_inj vn_inj).2 hin), idx_map vn_inj, hq])
  have EX := hid (show ext o x = o by unfold ext; rw [if_pos hin])
  have LV := hid (varTerm (q : Int) W (by omega) (by omega))
  have HQ := hid hq
  have hq60 : q ≤ 1000 := by omega
  have HR := hid hr
  have HO := hid ho
  clear hin hi hq hl hr ho
  go_enter Try.func105, Try.ntmps105
  go_wp2_with fail
  refine LI.out.mono ?_
  rintro e w' ⟨rfl, he⟩
  rw [EI.out] at he
  subst he
  clear LI
  go_wp2_with fail
  refine LV.out.mono ?_
  rintro e w1 ⟨A, n, c, rfl, oq, bb⟩
  have hn1 := Own.len oq
  simp only [List.length_cons, List.length_nil] at hn1
  subst hn1
  have F : AnsRen W B S o x (.returned (.slice A 1 c)) w1 :=
   ⟨A, c, S, sn, sc, rfl, by rw [EX.out, HQ.out]; exact Own.seg oq, (own_cap oq).2.2, HR.out.next bb, by rw [EX.out]; exact HO.out.next bb, .inl rfl, Side.of_below bb⟩
  have HF := hid F
  clear F oq bb LV cB fB
  go_wp2
  go_ret
  exact HF.out
 ·have EI := hid (show indexI (o.map vn) (-1 - x) = -1 by
   unfold indexI
   rw [show (-1 - x : Int) = vn x from rfl, if_neg (fun h => hin ((mem_map_inj vn_inj).1 h))])
  have EX := hid (show (ext o x).map vn = o.map vn ++ [-1 - x] by unfold ext; rw [if_neg hin, List.map_append]; rfl)
  have EQ := hid (show idx (ext o x) x = sn by unfold ext; rw [if_neg hin, idx_app_new hin, hl])
  have hne := own_ne ho hr
  have hr1 := hr.alloc (.cells #[.int .i64 (-1 - x)] 2)
  have ho1 := Own.alloc ho (.cells #[.int .i64 (-1 - x)] 2)
  have HNE := hid hne
  have HN := hid hl
  clear hin hl hr ho hne
  go_enter Try.func105, Try.ntmps105
  go_wp2_with fail
  refine LI.out.mono ?_
  rintro e w' ⟨rfl, he⟩
  rw [EI.out] at he
  subst he
  clear LI
  go_wp2_with (first
   | (at_builtin; refine appAllAt rfl _ _ rfl (B + 1) S sn sc (o.map vn) rfl ho1 (some ⟨W.heap.size, 0, none⟩) 1 1 (W.heap.size + 1) [-1 - x] rfl (by simpa using one_seg W (-1 - x)) (by omega) (by omega) (by omega) (by simp; omega) ?_; intro S' sc' w2 ho2 hg hat; have r2 := Row.away hr1 hg HNE.out; have cB2 : w2.cell? ⟨B, 0, none⟩ = some (.slice S sn sc) := r2.cell 0; have fB2 : w2.frozen? ⟨B, 0, none⟩ = false := r2.free 0)
   | (go_at_call 107; refine (varTerm (sn : Int) _ (by omega) (by omega)).mono ?_; rintro e w3 ⟨A, n, c, rfl, oq, bb⟩))
  have hn1 := Own.len oq
  simp only [List.length_cons, List.length_nil] at hn1
  subst hn1
  have r3 := r2.put 0 (.slice S' (sn + 1) sc')
  have hg3 : w2.grownBy (w2.setCell ⟨B, 0, none⟩ (.slice S' (sn + 1) sc')) (some B) := grown_put (World.grownBy.refl _ _) _ _
  have o3 := Own.far ho2 hg3 (fun k hk => by injection hk; omega)
  have sd : Side B (blk S) W w3 := (((Side.of_below ((Below.refl _ _).alloc (Nat.le_refl _) _)).trans (Side.of_grown hg)).trans (Side.of_var hg3)).trans (Side.of_below bb)
  have F : AnsRen W B S o x (.returned (.slice A 1 c)) w3 := by
   refine ⟨A, c, S', sn + 1, sc', rfl, by rw [EQ.out]; exact Own.seg oq, (own_cap oq).2.2, r3.next bb, by rw [EX.out]; exact o3.next bb, ?_, sd⟩
   rcases hat with h | h
   ·exact .inl h
   ·exact .inr ⟨_, h, by simp⟩
  have HF := hid F
  clear F oq bb r3 hg3 o3 sd hat hg ho2 r2 cB2 fB2 cB fB hr1 ho1
  go_wp2
  go_ret
  exact HF.out
theorem ne_flip {a b : Option Nat} (h : a = none ∨ a ≠ b) : b = none ∨ b ≠ a := by
 cases b with
 | none => exact .inl rfl
 | some k =>
  right
  rintro rfl
  rcases h with h | h
  ·cases h
  ·exact h rfl
theorem blk_lt {w : World} {base : Nat} {A : Option Addr} {n c : Nat} {xs : List Int} (h : Own w base (.slice A n c) xs) : ∀ k, blk A = some k → base ≤ k ∧ k < w.heap.size := fun k hk => World.ownsRow.lt h k (by rw [blk_own]; exact hk)
theorem ne_new {w : World} {base : Nat} {S : Option Addr} {n c : Nat} {xs : List Int} {a : Option Nat} (h : Own w base (.slice S n c) xs) (q : Nat) (hq : w.heap.size ≤ q) (ha : a = some q) : a = none ∨ a ≠ blk S := by
 right
 rintro rfl
 have := (blk_lt h q ha).2
 omega
def ordF (o t : List Int) : List Int := t.foldl extV o
theorem ordF_take {o t : List Int} {k : Nat} {x : Int} (hk : k < t.length) (hx : t.getD k 0 = x) : ordF o (t.take (k + 1)) = extV (ordF o (t.take k)) x := by
 unfold ordF
 rw [take_snoc hk hx, List.foldl_append]
 rfl
theorem ordF_len (o t : List Int) : (ordF o t).length ≤ o.length + t.length := fold_ext_len t o
def renF (o t : List Int) : List Int := t.map (ren (ordF o t))
theorem renF_take {o t : List Int} {k : Nat} {x : Int} (hk : k < t.length) (hx : t.getD k 0 = x) : renF o (t.take (k + 1)) = renF o (t.take k) ++ [ren (extV (ordF o (t.take k)) x) x] := by
 unfold renF
 rw [ordF_take hk hx, take_snoc hk hx, List.map_append]
 congr 1
 refine List.map_congr_left fun n hn => ren_ext fun h0 => ?_
 exact fold_ext_mem.2 (.inl ⟨hn, h0⟩)
theorem Side.on {B : Nat} {r r' : Option Nat} {a b c : World} (h : Side B r a b) (hr : r' = r ∨ ∃ k, r' = some k ∧ a.heap.size ≤ k) (k : Side B r' b c) : Side B r a c :=
 ⟨k.os.trans h.os, k.tape.trans h.tape, k.output.trans h.output, Nat.le_trans h.size k.size, fun i hi hp hne => (k.block i (Nat.lt_of_lt_of_le hi h.size) hp (fun e => by
  rcases hr with e2 | ⟨q, e2, hq⟩
  ·exact hne (by rw [e, e2])
  ·rw [e2] at e; injection e with e; omega)).trans (h.block i hi hp hne)⟩
theorem Side.grow {B : Nat} {r q : Option Nat} {a b c : World} (h : Side B r a b) (hg : b.grownBy c q) (hq : ∀ k, q = some k → a.heap.size ≤ k) : Side B r a c :=
 ⟨hg.os.trans h.os, hg.tape.trans h.tape, hg.output.trans h.output, Nat.le_trans h.size hg.size, fun i hi hp hne => (hg.block i (Nat.lt_of_lt_of_le hi h.size) (fun e => by have := hq i e.symm; omega)).trans (h.block i hi hp hne)⟩
theorem Side.allocs {B : Nat} {r : Option Nat} {a b : World} (h : Side B r a b) (o : Obj) : Side B r a (b.alloc o) :=
 ⟨h.os, h.tape, h.output, by have := h.size; simp; omega, fun i hi hp hne => (Below.heap_alloc b o i (Nat.lt_of_lt_of_le hi h.size)).trans (h.block i hi hp hne)⟩
def HeadRG (w : World) (B m : Nat) (o t : List Int) (S0 : Option Addr) (out i : Value) (wr : World) : Prop :=
 ∃ (k : Nat) (O : Option Addr) (on oc : Nat) (S : Option Addr) (sn sc : Nat), k ≤ m ∧ i = .int .i64 k ∧ out = .slice O on oc ∧ Own wr w.heap.size (.slice O on oc) (renF o (t.take k)) ∧ Row wr B 24 #[.slice S sn sc] ∧
  Own wr (B + 1) (.slice S sn sc) ((ordF o (t.take k)).map vn) ∧ (blk S = blk S0 ∨ ∃ q, blk S = some q ∧ w.heap.size ≤ q) ∧ (blk O = none ∨ blk O ≠ blk S) ∧ Side B (blk S0) w wr
def AnsRG (w : World) (B : Nat) (o t : List Int) (S0 : Option Addr) (e : Ending) (w' : World) : Prop :=
 ∃ O on oc S sn sc, e = .returned (.slice O on oc) ∧ Own w' w.heap.size (.slice O on oc) (renF o t) ∧ Row w' B 24 #[.slice S sn sc] ∧ Own w' (B + 1) (.slice S sn sc) ((ordF o t).map vn) ∧ (blk O = none ∨ blk O ≠ blk S) ∧ Side B (blk S0) w w'
set_option maxHeartbeats 4000000 in
theorem fillRen (B : Nat) (A : Option Addr) (m c : Nat) (o t : List Int) (S0 : Option Addr) (n0 c0 : Nat) (w : World) (hr : Row w B 24 #[.slice S0 n0 c0]) (hS : Own w (B + 1) (.slice S0 n0 c0) (o.map vn)) (h : Seg w B A m t) (hm : m ≤ 60) (ho : o.length ≤ 60) (hv : ∀ x ∈ t, -24 ≤ x) :
  Calls Try.prog 63 #[.func (.func 105) #[] #[.pointer (some ⟨B, 0, none⟩)], .slice A m c] w (AnsRG w B o t S0) := by
 have HL := hid h.1
 have HV := hid hv
 have hBw := hr.lt
 have HG := hid (fun k hk => (blk_lt hS k hk).1)
 have S1 : HeadRG w B m o t S0 (.slice none 0 0) (.int .i64 0) w := ⟨0, none, 0, 0, S0, n0, c0, Nat.zero_le _, rfl, rfl, by simpa [renF] using Own.nil w w.heap.size, hr, by simpa [ordF] using hS, .inl rfl, .inl rfl, Side.of_below (Below.refl _ _)⟩
 have HS0 := hid S1
 clear S1 hv hr hS
 go_enter Try.func63, Try.ntmps63
 go_wp2
 go_loopw [5, 10] (fun out i wr => HeadRG w B m o t S0 out i wr) (fun _ i _ => m - (intOf i).toNat)
 case atStart => exact HS0.out
 case round =>
  obtain ⟨k, O, on, oc, S, sn, sc, hk, rfl, rfl, hO, hr, hs, hat0, hne, hsd⟩ := hrel
  clear HS0
  have hon : on ≤ 60 := by rw [Own.len hO]; unfold renF; simp; omega
  have hsn : sn ≤ 1000 := by have h1 := Own.len hs; have h2 := ordF_len o (t.take k); simp at h1 h2; omega
  have hBlt := hr.lt
  have hwz := hsd.size
  by_cases hlt : k < m
  ·obtain ⟨b, off, x, rfl, hbb, hx, ex⟩ := h.spot hlt
   have hx1 : wr.cell? ⟨b, off + k, none⟩ = some (.int .i64 x) := by
    have hneS : some b ≠ blk S0 := fun e => by have := HG.out b e.symm; omega
    exact (World.cell?_of_block (hsd.block b (by omega) (by omega) hneS)).trans hx
   have hmem := mem_of_get (by rw [HL.out]; exact hlt) ex.out
   have hx24 : -24 ≤ x := HV.out x hmem
   have E := hid (renF_take (o := o) (t := t) (k := k) (by rw [HL.out]; exact hlt) ex.out)
   have EO := hid (ordF_take (o := o) (t := t) (k := k) (by rw [HL.out]; exact hlt) ex.out)
   clear hmem hx h ex
   by_cases hpos : 0 ≤ x
   ·have R := hid (show ren (extV (ordF o (t.take k)) x) x = x by unfold ren; rw [if_neg (by omega)])
    have R2 := hid (show extV (ordF o (t.take k)) x = ordF o (t.take k) by unfold extV; rw [if_neg (by omega)])
    have ho1 := Own.alloc hO (.cells #[.int .i64 x] 2)
    have hs1 := Own.alloc hs (.cells #[.int .i64 x] 2)
    have hr1 := hr.alloc (.cells #[.int .i64 x] 2)
    go_wp2_with (at_builtin; refine appAllAt rfl _ _ rfl w.heap.size O on oc (renF o (t.take k)) rfl ho1 (some ⟨wr.heap.size, 0, none⟩) 1 1 (wr.heap.size + 1) [x] rfl (by simpa using one_seg wr x) (by omega) (by omega) (by omega) (by simp; omega) ?_; intro O' oc' w2 ho2 hg hat)
    have S1 : HeadRG w B m o t S0 (.slice O' (on + 1) oc') (.int .i64 ((k : Int) + 1)) w2 := by
     refine ⟨k + 1, O', on + 1, oc', S, sn, sc, hlt, by simp, rfl, by rw [E.out, R.out]; exact ho2, Row.away hr1 hg (own_ne ho1 hr1), by rw [EO.out, R2.out]; exact Own.kept hs1 hg (ne_flip hne), hat0, ?_, ?_⟩
     ·rcases hat with h | h
      ·rw [h]; exact hne
      ·exact ne_new hs1 _ (Nat.le_refl _) h
     ·exact (hsd.allocs _).grow hg (fun q hq => (blk_lt hO q hq).1)
    have S := hid S1
    clear S1 ho2 hg hat ho1 hs1 hr1 hO hs hr hne hsd R R2 E EO hat0
    go_wp2
    go_roundw
    case rel => exact S.out
    case measure => simp [intOf]; omega
   ·have hneg : x < 0 := by omega
    have R := hid (show ren (extV (ordF o (t.take k)) x) x = -1 - (idx (ext (ordF o (t.take k)) x) x : Int) by unfold ren extV; rw [if_pos hneg, if_pos hneg])
    have R2 := hid (show extV (ordF o (t.take k)) x = ext (ordF o (t.take k)) x by unfold extV; rw [if_pos hneg])
    have L := hid (ren1 B S sn sc _ x wr hr hs hx24 hneg hsn)
    go_wp2_with (first
     | (go_at_call 105; refine L.out.mono ?_; rintro e w1 ⟨A1, c1, S1, sn1, sc1, rfl, s1, hc1, r1, os1, hat1, sd⟩; have ho1 := Own.side hO sd hr hne; have hz1 := sd.size; have hne1 : blk O = none ∨ blk O ≠ blk S1 := (by rcases hat1 with h | ⟨q, h, hq⟩; (rw [h]; exact hne); (rw [h]; exact (by cases e : blk O with | none => exact .inl rfl | some z => exact .inr (fun e2 => by injection e2 with e2; have := (blk_lt hO z e).2; omega)))))
     | (at_builtin; refine appAllAt rfl _ _ rfl w.heap.size O on oc (renF o (t.take k)) rfl ho1 A1 1 c1 w1.heap.size _ rfl s1 (by omega) (by omega) (by omega) (by omega) ?_; intro O' oc' w2 ho2 hg hat))
    have SS : HeadRG w B m o t S0 (.slice O' (on + 1) oc') (.int .i64 ((k : Int) + 1)) w2 := by
     refine ⟨k + 1, O', on + 1, oc', S1, sn1, sc1, hlt, by simp, rfl, by rw [E.out, R.out]; exact ho2, Row.away r1 hg (own_ne ho1 r1), by rw [EO.out, R2.out]; exact Own.kept os1 hg (ne_flip hne1), ?_, ?_, ?_⟩
     ·rcases hat1 with h | ⟨q, h, hq⟩
      ·rw [h]; exact hat0
      ·exact .inr ⟨q, h, by omega⟩
     ·rcases hat with h | h
      ·rw [h]; exact hne1
      ·exact ne_new os1 _ (Nat.le_refl _) h
     ·exact (hsd.on hat0 sd).grow hg (fun q hq => (blk_lt ho1 q hq).1)
    have HSS := hid SS
    clear SS ho2 hg hat ho1 s1 r1 os1 hat1 sd hne1 hO hs hr hne hsd R R2 E EO L hat0
    go_wp2
    go_roundw
    case rel => exact HSS.out
    case measure => simp [intOf]; omega
  ·rw [List.take_of_length_le (by rw [HL.out]; omega)] at hO hs
   have F : AnsRG w B o t S0 (.returned (.slice O on oc)) wr := ⟨O, on, oc, S, sn, sc, rfl, hO, hr, hs, hne, hsd⟩
   have HF := hid F
   clear F hO hs hr hne hsd h
   go_wp2
   go_ret
   exact HF.out
theorem renaming_ (w : World) : Calls Try.prog 62 #[] w fun e w' => e = .returned (.func (.func 105) #[] #[.pointer (some ⟨w.heap.size, 0, none⟩)]) ∧ w' = w.alloc (.cells #[.slice none 0 0] 24) := by
 have hmf : ∀ (fn : Fn) (first cap : Array Value) (w : World), (Instr.makeFunc fn first cap).run Try.prog w = .ok (.func fn first cap) w := fun _ _ _ _ => rfl
 go_enter Try.func62, Try.ntmps62
 go_wp2
 go_ret
 exact ⟨rfl, rfl⟩
set_option maxHeartbeats 4000000 in
theorem implRenamed (A A' : Option Addr) (n c m c' : Nat) (sg t : List Int) (w : World) (h : Seg w w.heap.size A n sg) (h' : Seg w w.heap.size A' m t) (hn : n ≤ 1048576) (hm : m ≤ 1048576) :
  Calls Try.prog 13 #[.agg #[.slice A n c], .slice A' m c'] w (AnsList w (renI sg t)) := by
 obtain ⟨W, hW⟩ : ∃ W, W = w.alloc (.cells #[.slice A n c] 26) := ⟨_, rfl⟩
 have bel : Below w.heap.size w W := by rw [hW]; exact (Below.refl _ _).alloc (Nat.le_refl _) _
 have s := (h.below bel).more bel.size
 have s' := (h'.below bel).more bel.size
 have HW := hid hW
 have HL := hid h'.1
 have L := hid (implTermOk A A' n c m c' sg t W s s' hn hm)
 clear hW h h' s
 cases hok : termOkB sg t with
 | false =>
  have HS := hid hok
  clear hok s'
  go_enter Try.func13, Try.ntmps13
  go_wp2_with fail
  rw [← HW.out]
  refine L.out.mono ?_
  rintro e w1 ⟨he, bb⟩
  rw [HS.out] at he
  subst he
  have F : AnsList w (renI sg t) (.returned (.slice none 0 0)) w1 := ⟨_, _, _, rfl, by unfold renI; rw [if_neg (by rw [HS.out]; simp)]; exact Own.nil _ _, next_trans bel bb⟩
  have HF := hid F
  clear F bb bel
  go_wp2
  go_ret
  exact HF.out
 | true =>
  have HS := hid hok
  have HV := hid (fun x hx => (term_mem (x := x) hok hx).1)
  have H60 : m ≤ 60 := by rw [← HL.out]; exact (term_len hok).2
  clear hok
  go_enter Try.func13, Try.ntmps13
  go_wp2_with fail
  rw [← HW.out]
  refine L.out.mono ?_
  rintro e w1 ⟨he, bb⟩
  rw [HS.out] at he
  subst he
  replace bel := next_trans bel bb
  have s1 := (s'.next bb)
  have s2 := s1.alloc (Nat.le_refl _) (.cells #[.slice none 0 0] 24)
  have hz := bel.size
  have L2 := hid (fillRen w1.heap.size A' m c' [] t none 0 0 _ (Row.new w1 24 #[.slice none 0 0]) (by simpa using Own.nil _ _) s2 H60 (by simp) HV.out)
  have LR := hid (renaming_ w1)
  clear bb L s' s1 s2
  go_wp2_with fail
  refine LR.out.mono ?_
  rintro e w2 ⟨rfl, rfl⟩
  go_wp2_with fail
  refine L2.out.mono ?_
  rintro e w3 ⟨O, on, oc, S, sn, sc, rfl, ho, -, -, -, sd⟩
  have F : AnsList w (renI sg t) (.returned (.slice O on oc)) w3 := ⟨O, on, oc, rfl, by unfold renI; rw [if_pos HS.out]; exact Own.lower ho (by simp; omega), (bel.alloc hz _).trans ((sd.below (fun k hk => by cases hk) (by simp)).mono hz)⟩
  have HF := hid F
  clear F ho sd bel L2 LR
  go_wp2
  go_ret
  exact HF.out
end renImpl
end
section
namespace variant
open Go.RowKit base ints sig same term termOk marks sym termFacts varsOf renMath rename renImpl
set_option maxRecDepth 100000
end variant
end
section
namespace matchMost
open Go.RowKit base ints sig term termOk endAt inside marks app sym segs segsHelp termFacts renMath varsOf variant pathSpec matchMath matchSpec matchList
set_option maxRecDepth 100000
end matchMost
end
section
open Go.Lib (hid)
namespace matchImpl
open Go.RowKit base ints sig same term termOk endAt inside marks app sym sub segs segsHelp kinds termFacts termMath posMath plainMath plain plainOf gives cursor fillMath matchMath matchSpec matchList matchMost whole takeMath take extended
set_option maxRecDepth 100000
def HeadTo (w : World) (A : Option Addr) (n c : Nat) (sg : List Int) (P : Option Addr) (pn : Nat) (ps : List (List Int)) (i : Value) (wr : World) : Prop :=
 ∃ k : Nat, i = .int .i64 k ∧ k ≤ pn ∧ (∀ j, j < k → termOkB sg (ps.getD j []) = true) ∧ Fs w wr A n c sg P pn ps
set_option maxHeartbeats 1000000 in
theorem implTermsOk (A P : Option Addr) (n c pn pc : Nat) (sg : List Int) (ps : List (List Int)) (w : World) (h : Seg w w.heap.size A n sg) (hp : Segs w w.heap.size P pn ps) (hn : n ≤ 1048576) (ht : tot ps ≤ 1048576) :
  Calls Try.prog 98 #[.agg #[.slice A n c], .slice P pn pc] w (Tells w (termsB sg ps)) := by
 obtain ⟨W, hW⟩ : ∃ W, W = w.alloc (.cells #[.slice A n c] 26) := ⟨_, rfl⟩
 have f : Fs w W A n c sg P pn ps := by rw [hW]; exact Fs.start h hp
 have HW := hid hW
 have HL := hid hp.1
 have HE := hid (tot_each ht)
 have hpn : pn ≤ 1048576 := tot_len hp.1 ht
 clear hW h hp ht
 by_cases hlong : 12 < pn
 ·have F := hid (show Tells w (termsB sg ps) (.returned (.bool false)) W from ⟨by rw [terms_long (by rw [HL.out]; exact hlong)], f.b⟩)
  clear f
  go_enter Try.func98, Try.ntmps98
  go_wp2_with fail
  rw [← HW.out]
  go_ret
  exact F.out
 ·have S0 : HeadTo w A n c sg P pn ps (.int .i64 0) W := ⟨0, rfl, Nat.zero_le _, fun j hj => absurd hj (Nat.not_lt_zero _), f⟩
  have HS0 := hid S0
  clear S0 f
  go_enter Try.func98, Try.ntmps98
  go_wp2_with fail
  rw [← HW.out]
  go_loopw [12] (fun i wr => HeadTo w A n c sg P pn ps i wr) (fun i _ => pn - (intOf i).toNat)
  case atStart => exact HS0.out
  case round =>
   obtain ⟨k, rfl, hk, hlow, f⟩ := hrel
   have HLOW := hid hlow
   clear hlow HS0
   by_cases hlt : k < pn
   ·obtain ⟨b, off, D, dn, dc, rfl, hbb, hc, hsg, hcap⟩ := f.s'.spot hlt
    have hdn : dn ≤ 1048576 := by have := HE.out k; rw [hsg.1] at this; exact this
    have cA := f.cell
    have LT := hid (implTermOk A D n c dn dc sg (ps.getD k []) wr f.s1 (hsg.more (Nat.le_of_lt f.size)) hn hdn)
    clear hsg hcap
    cases hok : termOkB sg (ps.getD k []) with
    | false =>
     have HS := hid hok
     clear hok
     go_wp2_with fail
     refine LT.out.mono ?_
     rintro e w1 ⟨he, bb⟩
     rw [HS.out] at he
     subst he
     have F := hid (show Tells w (termsB sg ps) (.returned (.bool false)) w1 from ⟨by rw [terms_bad (by rw [HL.out]; exact hlt) HS.out], (f.next bb).b⟩)
     clear f bb cA LT hc
     go_wp2
     go_ret
     exact F.out
    | true =>
     have HS := hid hok
     clear hok
     go_wp2_with fail
     refine LT.out.mono ?_
     rintro e w1 ⟨he, bb⟩
     rw [HS.out] at he
     subst he
     have S : HeadTo w A n c sg (some ⟨b, off, none⟩) pn ps (.int .i64 ((k : Int) + 1)) w1 := ⟨k + 1, by simp, hlt, fun j hj => by
      by_cases e : j = k
      ·rw [e]; exact HS.out
      ·exact HLOW.out j (by omega), f.next bb⟩
     have HSS := hid S
     clear S f bb cA LT hc
     go_wp2
     go_roundw
     case rel => exact HSS.out
     case measure => simp [intOf]; omega
   ·have F := hid (show Tells w (termsB sg ps) (.returned (.bool true)) wr from ⟨by rw [terms_good (by rw [HL.out]; omega) (fun i hi => HLOW.out i (by rw [HL.out] at hi; omega))], f.b⟩)
    clear f
    go_wp2
    go_ret
    exact F.out
end matchImpl
end
section
open Go.Lib (hid)
namespace genAll
open Go.RowKit base ints sig cursor marks app sym segs segsHelp kinds term termOk termFacts termMath endAt inside Go.Proofs.Ytfclafbdbdmlhaa.look renMath renPure rename renImpl matchMath takeMath matchSpec matchList matchImpl unifMath genMath unifLaw general genImpl
set_option maxRecDepth 100000
def GA (sg : List Int) : List Int → List (List Int) → List Int → Prop
 | o, [], g => g = o
 | o, t :: r, g => ∃ o', IsG sg o t o' ∧ GA sg o' r g
def IsGA (sg : List Int) (ts : List (List Int)) (g : List Int) : Prop :=
 (allB sg ts = true ∧ ∃ t r, ts = t :: r ∧ GA sg (renL t) r g) ∨ ((allB sg ts = false ∨ ts = []) ∧ g = [])
theorem ga_ex (sg : List Int) : ∀ (r : List (List Int)) (o : List Int), ∃ g, GA sg o r g
 | [], o => ⟨o, rfl⟩
 | t :: r, o => by
  obtain ⟨o', h⟩ := isG_ex sg o t
  obtain ⟨g, hg⟩ := ga_ex sg r o'
  exact ⟨g, o', h, hg⟩
theorem isGA_ex (sg : List Int) (ts : List (List Int)) : ∃ g, IsGA sg ts g := by
 cases h : allB sg ts with
 | false => exact ⟨[], .inr ⟨.inl h, rfl⟩⟩
 | true =>
  cases ts with
  | nil => exact ⟨[], .inr ⟨.inr rfl, rfl⟩⟩
  | cons t r =>
   obtain ⟨g, hg⟩ := ga_ex sg r (renL t)
   exact ⟨g, .inl ⟨h, t, r, rfl, hg⟩⟩
theorem isG_nil {sg t g : List Int} (h : IsG sg [] t g) : g = [] := isG_off h (.inl (by
 cases e : termOkB sg [] with
 | false => rfl
 | true => have := (term_len e).1; simp at this))
theorem ga_nil {sg g : List Int} : ∀ {r : List (List Int)}, GA sg [] r g → g = []
 | [], h => h
 | t :: r, h => by
  obtain ⟨o', h1, h2⟩ := h
  rw [isG_nil h1] at h2
  exact ga_nil h2
theorem isG_ok {sg a b g : List Int} (h : IsG sg a b g) : g = [] ∨ termOkB sg g = true := by
 by_cases e : g = []
 ·exact .inl e
 ·exact .inr (isG_facts h e).1
theorem isGA_off {sg : List Int} {ts : List (List Int)} {g : List Int} (h : IsGA sg ts g) (ho : allB sg ts = false ∨ ts.length = 0) : g = [] := by
 rcases h with ⟨h1, t, r, e, _⟩ | ⟨_, e⟩
 ·rcases ho with ho | ho
  ·rw [h1] at ho; cases ho
  ·rw [e] at ho; simp at ho
 ·exact e
theorem isGA_on {sg : List Int} {ts : List (List Int)} {g : List Int} (h : IsGA sg ts g) (h1 : allB sg ts = true) (h2 : 0 < ts.length) : GA sg (renL (ts.getD 0 [])) (ts.drop 1) g ∧ termOkB sg (ts.getD 0 []) = true := by
 rcases h with ⟨_, t, r, e, hg⟩ | ⟨ho, _⟩
 ·subst e
  refine ⟨by simpa using hg, ?_⟩
  unfold allB at h1
  simp at h1
  simpa using h1.2.2.1
 ·rcases ho with ho | ho
  ·rw [h1] at ho; cases ho
  ·rw [ho] at h2; simp at h2
theorem drop_more {ts : List (List Int)} {i : Nat} {t : List Int} (hi : i < ts.length) (ht : ts.getD i [] = t) : ts.drop i = t :: ts.drop (i + 1) := by
 rw [List.drop_eq_getElem_cons hi]
 rw [← ht]
 simp [List.getD, hi]
theorem ga_step {sg o g t : List Int} {ts : List (List Int)} {i : Nat} (h : GA sg o (ts.drop i) g) (hi : i < ts.length) (ht : ts.getD i [] = t) : ∃ o', IsG sg o t o' ∧ GA sg o' (ts.drop (i + 1)) g := by
 rw [drop_more hi ht] at h
 exact h
theorem ga_end {sg o g : List Int} {ts : List (List Int)} {i : Nat} (h : GA sg o (ts.drop i) g) (hi : ts.length ≤ i) : g = o := by
 rw [List.drop_eq_nil_of_le hi] at h
 exact h
theorem all_get {sg : List Int} {ts : List (List Int)} (h : allB sg ts = true) {i : Nat} (hi : i < ts.length) : termOkB sg (ts.getD i []) = true := by
 unfold allB at h
 rw [Bool.and_eq_true, Bool.and_eq_true] at h
 have := List.all_eq_true.1 h.2.2 ts[i] (List.getElem_mem hi)
 simpa [List.getD, hi] using this
theorem ga_len {sg g : List Int} : ∀ {r : List (List Int)} {o : List Int}, GA sg o r g → o.length ≤ 60 → g.length ≤ 60
 | [], o, h, hl => by rw [show g = o from h]; exact hl
 | t :: r, o, h, _ => by
  obtain ⟨o', h1, h2⟩ := h
  exact ga_len h2 (isG_len h1)
theorem isGA_len {sg : List Int} {ts : List (List Int)} {g : List Int} (h : IsGA sg ts g) : g.length ≤ 60 := by
 rcases h with ⟨h1, t, r, e, hg⟩ | ⟨_, e⟩
 ·subst e
  have h0 := all_get h1 (i := 0) (by simp)
  have h0 : termOkB sg t = true := by simpa using h0
  exact ga_len hg (term_len (ren_ok h0)).2
 ·rw [e]; simp
def HeadA (w : World) (A : Option Addr) (n c : Nat) (sg : List Int) (P : Option Addr) (pn : Nat) (ts : List (List Int)) (ys : List Int) (g : Nat) (r : Value) (wr : World) (i : Nat) : Prop :=
 ∃ (O : Option Addr) (on oc : Nat) (o : List Int), r = .slice O on oc ∧ i ≤ pn ∧ i + g = pn ∧ 1 ≤ i ∧ Own wr w.heap.size (.slice O on oc) o ∧ (o = [] ∨ termOkB sg o = true) ∧ GA sg o (ts.drop i) ys ∧ Fs w wr A n c sg P pn ts
set_option maxHeartbeats 4000000 in
theorem implGeneralisedAll (A P : Option Addr) (n c pn pc : Nat) (sg : List Int) (ts : List (List Int)) (w : World) (h : Seg w w.heap.size A n sg) (hp : Segs w w.heap.size P pn ts) (hn : n ≤ 1048576) (htot : tot ts ≤ 1048576) (hcp : pn ≤ pc) (hcp2 : pc ≤ 9223372036854775807) {ys : List Int} (hG : IsGA sg ts ys) :
  Calls Try.prog 53 #[.agg #[.slice A n c], .slice P pn pc] w (AnsList w ys) := by
 obtain ⟨W, hW⟩ : ∃ W, W = w.alloc (.cells #[.slice A n c] 26) := ⟨_, rfl⟩
 have f : Fs w W A n c sg P pn ts := by rw [hW]; exact Fs.start h hp
 have HW := hid hW
 have HL := hid hp.1
 have HE := hid (tot_each htot)
 have HTOT := hid htot
 have HG := hid hG
 have cA := f.cell
 have cA0 : (w.alloc (.cells #[.slice A n c] 26)).cell? ⟨w.heap.size, 0, none⟩ = some (.slice A n c) := by rw [← hW]; exact cA
 clear hW h hp htot hG
 by_cases h0 : pn = 0
 ·subst h0
  obtain rfl := isGA_off HG.out (.inr HL.out)
  have F := hid (show AnsList w [] (.returned (.slice none 0 0)) W from ⟨none, 0, 0, rfl, Own.nil _ _, f.b⟩)
  clear f cA cA0 HG
  go_enter Try.func53, Try.ntmps53
  go_wp2_with fail
  rw [← HW.out]
  go_ret
  exact F.out
 ·have hp0 : 0 < pn := by omega
  have d0 : ((pn : Int) == 0) = false := by simp; omega
  have LT := hid (implTermsOk A P n c pn pc sg ts W f.s1 (f.s'.more (Nat.le_of_lt f.size)) hn HTOT.out)
  cases hall : termsB sg ts with
  | false =>
   have HS := hid hall
   obtain rfl := isGA_off HG.out (.inl (by
    unfold allB
    rw [show (decide (ts.length ≤ 12) && ts.all (termOkB sg)) = false from hall, Bool.and_false]))
   clear hall
   go_enter Try.func53, Try.ntmps53
   go_wp2_with fail
   rw [← HW.out]
   refine LT.out.mono ?_
   rintro e w1 ⟨he, bb⟩
   rw [HS.out] at he
   subst he
   have F := hid (show AnsList w [] (.returned (.slice none 0 0)) w1 from ⟨none, 0, 0, rfl, Own.nil _ _, (f.next bb).b⟩)
   clear f bb LT cA cA0 HG
   go_wp2
   go_ret
   exact F.out
  | true =>
   have HS := hid hall
   have hp12 : pn ≤ 12 := by have h1 := (terms_parts hall).1; rw [HL.out] at h1; exact h1
   have h1st := (terms_parts hall).2 0 (by rw [HL.out]; exact hp0)
   have hAB : allB sg ts = true := by
    unfold allB
    rw [(termOk_parts h1st).1, show (decide (ts.length ≤ 12) && ts.all (termOkB sg)) = true from hall]
    rfl
   have HON := hid (isGA_on HG.out hAB (by rw [HL.out]; exact hp0))
   have HAB := hid hAB
   clear hall h1st hAB
   go_enter Try.func53, Try.ntmps53
   go_wp2_with fail
   rw [← HW.out]
   refine LT.out.mono ?_
   rintro e w1 ⟨he, bb⟩
   rw [HS.out] at he
   subst he
   replace f := f.next bb
   clear bb LT cA cA0
   obtain ⟨b, off, D, dn, dc, rfl, hbb, hc, hsg, hcap⟩ := f.s'.spot hp0
   have hdn : dn ≤ 1048576 := by have := HE.out 0; rw [hsg.1] at this; exact this
   have cA := f.cell
   have z0 := f.size
   have LR := hid (implRenamed A D n c dn dc sg (ts.getD 0 []) w1.drew f.drew.s1 (hsg.more (Nat.le_of_lt f.size)) hn hdn)
   have ER := hid (show renI sg (ts.getD 0 []) = renL (ts.getD 0 []) by unfold renI; rw [if_pos HON.out.2])
   rw [ER.out] at LR
   have HFD := hid f.drew
   clear hsg hcap f
   have hc0 : w1.cell? ⟨b, off, none⟩ = some (.slice D dn dc) := by simpa using hc
   clear hc
   have i0 : (0 : Int) < (pn : Int) := by omega
   go_wp2_with fail
   go_region_held3 (fun w' => w'.cell? ⟨w.heap.size, 0, none⟩ = some (.slice A n c) ∧ w'.cell? ⟨b, off, none⟩ = some (.slice D dn dc))
    (first | exact ⟨cA, hc0⟩ | exact ⟨y1, y2⟩)
    (first
     | (go_at_call 13; refine LR.out.mono ?_; rintro e w2 ⟨O, on, oc, rfl, ho, bb⟩; have f2 := HFD.out.next bb; have y1 := f2.cell; have y2 : w2.cell? ⟨b, off, none⟩ = some (.slice D dn dc) := (bb.cell (p := ⟨b, off, none⟩) (by show b < w1.heap.size; omega)).trans hc0))
   have HH := hid (show HeadA w A n c sg (some ⟨b, off, none⟩) pn ts ys (pn - 1) (.slice O on oc) w2 1 from ⟨O, on, oc, _, rfl, by omega, by omega, Nat.le_refl _, Own.lower ho HFD.out.b.size, .inr (ren_ok HON.out.2), HON.out.1, f2⟩)
   have HH2 := hid (show HeadA w A n c sg (some ⟨b, off, none⟩) pn ts ys (pn - 1) (.slice O on oc) w2 (0 + 1) from HH.out)
   by_cases hpc : pc = 1
   ·have hp1 : pn = 1 := by omega
    clear f2 ho bb y1 y2 LR HON HG cA hc0 HFD
    go_wp2_with fail
    go_loopg [5, 25] (pn - 1) (fun g_ r k_ wr => ∃ i : Nat, k_ = .int .i64 (i : Int) ∧ HeadA w A n c sg (some ⟨b, off, none⟩) pn ts ys g_ r wr (i + 1))
    case atStart => exact ⟨0, rfl, HH2.out⟩
    case round =>
     obtain ⟨i, rfl, O, on, oc, o, rfl, hle, hgk, _, ho, hok, hga, f⟩ := hrel
     clear HH HH2
     have hys := ga_end hga (by rw [HL.out]; omega)
     have F := hid (show AnsList w ys (.returned (.slice O on oc)) wr from ⟨O, on, oc, rfl, by rw [hys]; exact ho, f.b⟩)
     have i2 : ¬ (i : Int) < ((pn - 1 : Nat) : Int) := by omega
     clear ho hok hga f hys hgk
     go_wp2
     go_ret
     exact F.out
   ·clear f2 ho bb y1 y2 LR HON HG cA hc0 HFD
    go_wp2_with fail
    go_loopg [5, 25] (pn - 1) (fun g_ r k_ wr => ∃ i : Nat, k_ = .int .i64 (i : Int) ∧ HeadA w A n c sg (some ⟨b, off, none⟩) pn ts ys g_ r wr (i + 1))
    case atStart => exact ⟨0, rfl, HH2.out⟩
    case round =>
     obtain ⟨i, rfl, O, on, oc, o, rfl, hle, hgk, _, ho, hok, hga, f⟩ := hrel
     clear HH HH2
     by_cases hip : i < pn - 1
     ·obtain ⟨b2, off2, D2, dn2, dc2, e, hbb2, hc2, hsg, hcap⟩ := f.s'.spot (show i + 1 < pn by omega)
      injection e with e
      injection e with e1 e2
      subst e1
      subst e2
      have hc1 : wr.cell? ⟨b, off + 1 + i, none⟩ = some (.slice D2 dn2 dc2) := by rw [show off + 1 + i = off + (i + 1) by omega]; exact hc2
      have hdn2 : dn2 ≤ 1048576 := by have := HE.out (i + 1); rw [hsg.1] at this; exact this
      have hon : on ≤ 1048576 := by
       rw [Own.len ho]
       rcases hok with hok | hok
       ·rw [hok]; simp
       ·have := (term_len hok).2; omega
      obtain ⟨o', hG', hga'⟩ := ga_step hga (show i + 1 < ts.length by rw [HL.out]; omega) rfl
      have ko := look.own_cap ho
      have LG := hid (implGeneralised A O D2 n c on oc dn2 dc2 sg o (ts.getD (i + 1) []) wr o' hG' f.s1 (Own.seg ho) (hsg.more (Nat.le_of_lt f.size)) hn hon hdn2 ⟨ko.1, ko.2.1⟩ ⟨hcap.1, hcap.2.1⟩)
      have cA := f.cell
      have i1 : (i : Int) < ((pn - 1 : Nat) : Int) := by omega
      have i0 : (0 : Int) ≤ (i : Int) := by omega
      have HF := hid f
      have HGA := hid hga'
      have HOK := hid (isG_ok hG')
      have hgk2 := hid (show gk - 1 < gk ∧ i + 1 + 1 + (gk - 1) = pn ∧ i + 1 + 1 ≤ pn by omega)
      clear hsg hcap hc2 ko hG' hga' hga hok ho f hgk
      go_wp2_with fail
      refine LG.out.mono ?_
      rintro e w3 ⟨O', on', oc', rfl, ho', bb⟩
      have f3 := HF.out.next bb
      have S : HeadA w A n c sg (some ⟨b, off, none⟩) pn ts ys (gk - 1) (.slice O' on' oc') w3 (i + 1 + 1) := ⟨O', on', oc', o', rfl, hgk2.out.2.2, hgk2.out.2.1, by omega, Own.lower ho' HF.out.b.size, HOK.out, HGA.out, f3⟩
      have HSS := hid S
      clear S ho' bb f3 LG cA hc1 HF HGA HOK
      go_wp2
      go_roundg (gk - 1)
      case measure => exact hgk2.out.1
      case rel => exact ⟨i + 1, by simp, HSS.out⟩
     ·have hys := ga_end hga (by rw [HL.out]; omega)
      have F := hid (show AnsList w ys (.returned (.slice O on oc)) wr from ⟨O, on, oc, rfl, by rw [hys]; exact ho, f.b⟩)
      have i2 : ¬ (i : Int) < ((pn - 1 : Nat) : Int) := by omega
      clear ho hok hga f hys hgk
      go_wp2
      go_ret
      exact F.out
theorem isG_gs {sg a b o' : List Int} (h : IsG sg a b o') (ha : termOkB sg a = true) (hb : termOkB sg b = true) : ∃ G T', Gs sg [] 1 a b G T' ∧ o' = if T'.length ≤ 24 then G else [] := by
 rcases h with ⟨_, _, G, T', h, e⟩ | ⟨h, _⟩
 ·exact ⟨G, T', h, e⟩
 ·rcases h with h | h
  ·rw [ha] at h; cases h
  ·rw [hb] at h; cases h
set_option maxHeartbeats 4000000 in
theorem specGeneralisedAll (A P : Option Addr) (n c pn pc : Nat) (sg : List Int) (ts : List (List Int)) (w : World) (h : Seg w w.heap.size A n sg) (hp : Segs w w.heap.size P pn ts) (hn : n ≤ 1048576) (htot : tot ts ≤ 1048576) {ys : List Int} (hG : IsGA sg ts ys) :
  Calls Try.prog 51 #[.agg #[.slice A n c], .slice P pn pc] w (AnsList w ys) := by
 obtain ⟨W, hW⟩ : ∃ W, W = w.alloc (.cells #[.slice A n c] 26) := ⟨_, rfl⟩
 have f : Fs w W A n c sg P pn ts := by rw [hW]; exact Fs.start h hp
 have HW := hid hW
 have HL := hid hp.1
 have HE := hid (tot_each htot)
 have HTOT := hid htot
 have HG := hid hG
 have LT := hid (l4All A P n c pn pc sg ts W f.s1 (f.s'.more (Nat.le_of_lt f.size)) hn HTOT.out)
 clear hW h hp htot hG
 cases hall : allB sg ts with
 | false =>
  have HS := hid hall
  obtain rfl := isGA_off HG.out (.inl hall)
  clear hall
  go_enter Try.func51, Try.ntmps51
  go_wp2_with fail
  rw [← HW.out]
  refine LT.out.mono ?_
  rintro e w1 ⟨he, bb⟩
  rw [HS.out] at he
  subst he
  have B := (f.next bb).b
  have F := hid (show AnsList w [] (.returned (.slice (some ⟨w1.heap.size, 0, none⟩) 0 0)) (w1.alloc (.cells #[] 2)) from ⟨_, 0, 0, rfl, own_empty w1 _ B.size, B.alloc B.size _⟩)
  clear f bb LT HG B
  go_wp2
  go_ret
  exact F.out
 | true =>
  have HS := hid hall
  have HAB := hid hall
  have hp12 : pn ≤ 12 := by
   have h := hall
   unfold allB at h
   rw [Bool.and_eq_true, Bool.and_eq_true] at h
   have := of_decide_eq_true h.2.1
   rw [HL.out] at this
   exact this
  by_cases h0 : pn = 0
  ·subst h0
   obtain rfl := isGA_off HG.out (.inr HL.out)
   clear hall
   go_enter Try.func51, Try.ntmps51
   go_wp2_with fail
   rw [← HW.out]
   refine LT.out.mono ?_
   rintro e w1 ⟨he, bb⟩
   rw [HS.out] at he
   subst he
   have B := (f.next bb).b
   have F := hid (show AnsList w [] (.returned (.slice (some ⟨w1.heap.size, 0, none⟩) 0 0)) (w1.alloc (.cells #[] 2)) from ⟨_, 0, 0, rfl, own_empty w1 _ B.size, B.alloc B.size _⟩)
   clear f bb LT HG B
   go_wp2
   go_ret
   exact F.out
  ·have hp0 : 0 < pn := by omega
   have d0 : ((pn : Int) == 0) = false := by simp; omega
   have HON := hid (isGA_on HG.out hall (by rw [HL.out]; exact hp0))
   clear hall
   go_enter Try.func51, Try.ntmps51
   go_wp2_with fail
   rw [← HW.out]
   refine LT.out.mono ?_
   rintro e w1 ⟨he, bb⟩
   rw [HS.out] at he
   subst he
   replace f := f.next bb
   clear bb LT
   obtain ⟨b, off, D, dn, dc, rfl, hbb, hc, hsg, hcap⟩ := f.s'.spot hp0
   have hdn : dn ≤ 1048576 := by have := HE.out 0; rw [hsg.1] at this; exact this
   have LR := hid (l2Renamed D dn dc (ts.getD 0 []) w1 (hsg.more (Nat.le_of_lt f.size)) hdn)
   have HFD := hid f
   clear hsg hcap f
   have hc0 : w1.cell? ⟨b, off, none⟩ = some (.slice D dn dc) := by simpa using hc
   clear hc
   have i0 : (0 : Int) < (pn : Int) := by omega
   go_wp2_with fail
   refine LR.out.mono ?_
   rintro e w2 ⟨O, on, oc, rfl, ho, bb⟩
   have f2 := HFD.out.next bb
   have HH := hid (show HeadA w A n c sg (some ⟨b, off, none⟩) pn ts ys (pn - 1) (.slice O on oc) w2 1 from ⟨O, on, oc, _, rfl, by omega, by omega, Nat.le_refl _, Own.lower ho HFD.out.b.size, .inr (ren_ok HON.out.2), HON.out.1, f2⟩)
   clear f2 ho bb LR HON HG hc0 HFD
   go_wp2_with fail
   go_loopg [5, 6] (pn - 1) (fun g_ r k_ wr => ∃ i : Nat, k_ = .int .i64 (i : Int) ∧ HeadA w A n c sg (some ⟨b, off, none⟩) pn ts ys g_ r wr i)
   case atStart => exact ⟨1, rfl, HH.out⟩
   case round =>
    obtain ⟨i, rfl, O, on, oc, o, rfl, hle, hgk, hi1, ho, hok, hga, f⟩ := hrel
    clear HH
    have hon : on ≤ 1048576 := by
     rw [Own.len ho]
     rcases hok with hok | hok
     ·rw [hok]; simp
     ·have := (term_len hok).2; omega
    have i0' : (0 : Int) ≤ (i : Int) := by omega
    by_cases hip : i < pn
    ·have i1 : (i : Int) < (pn : Int) := by omega
     by_cases hon0 : on = 0
     ·subst hon0
      have ho0 : o = [] := List.eq_nil_of_length_eq_zero (Own.len ho).symm
      subst ho0
      have hys := ga_nil hga
      have F := hid (show AnsList w ys (.returned (.slice O 0 oc)) wr from ⟨O, 0, oc, rfl, by rw [hys]; exact ho, f.b⟩)
      clear ho hok hga f hys hgk
      go_wp2
      go_ret
      exact F.out
     ·have hon1 : (0 : Int) < (on : Int) := by omega
      have hoke : termOkB sg o = true := by
       rcases hok with hok | hok
       ·exact absurd (by rw [Own.len ho, hok]; rfl) hon0
       ·exact hok
      obtain ⟨b2, off2, D2, dn2, dc2, e, hbb2, hc2, hsg, hcap⟩ := f.s'.spot hip
      injection e with e
      injection e with e1 e2
      subst e1
      subst e2
      have hdn2 : dn2 ≤ 1048576 := by have := HE.out i; rw [hsg.1] at this; exact this
      have hokt := all_get HAB.out (i := i) (by rw [HL.out]; exact hip)
      obtain ⟨o', hG', hga'⟩ := ga_step hga (show i < ts.length by rw [HL.out]; exact hip) rfl
      obtain ⟨GG, TT, hGs, ho'⟩ := isG_gs hG' hoke hokt
      have ko := look.own_cap ho
      have fd := f.drew
      have LG := hid (l5Least A O D2 n c on oc dn2 dc2 sg o (ts.getD i []) wr.drew fd.s1 (Own.seg ho) (hsg.more (Nat.le_of_lt f.size)) hn hon hdn2 ⟨ko.1, ko.2.1⟩ ⟨hcap.1, hcap.2.1⟩ (sig_arities (termOk_parts hoke).1).1 (term_parts hoke).2.2 (term_parts hokt).2.2 GG TT hGs)
      rw [← ho'] at LG
      have cA := f.cell
      have HF := hid fd
      have HGA := hid hga'
      have HOK := hid (isG_ok hG')
      have hgk2 := hid (show gk - 1 < gk ∧ i + 1 + (gk - 1) = pn ∧ i + 1 ≤ pn by omega)
      have zf := f.size
      clear hsg hcap ko hG' hga' hga hok ho f fd hgk hGs ho' hoke hokt
      go_wp2_with fail
      go_region_held3 (fun w' => w'.cell? ⟨w.heap.size, 0, none⟩ = some (.slice A n c) ∧ w'.cell? ⟨b, off + i, none⟩ = some (.slice D2 dn2 dc2))
       (first | exact ⟨cA, hc2⟩ | exact ⟨y1, y2⟩)
       (first
        | (go_at_call 97; refine LG.out.mono ?_; rintro e w3 ⟨O', on', oc', rfl, ho', bb⟩; have f3 := HF.out.next bb; have y1 := f3.cell; have y2 : w3.cell? ⟨b, off + i, none⟩ = some (.slice D2 dn2 dc2) := (bb.cell (p := ⟨b, off + i, none⟩) (by show b < wr.heap.size; omega)).trans hc2))
      have S : HeadA w A n c sg (some ⟨b, off, none⟩) pn ts ys (gk - 1) (.slice O' on' oc') w3 (i + 1) := ⟨O', on', oc', o', rfl, hgk2.out.2.2, hgk2.out.2.1, by omega, Own.lower ho' HF.out.b.size, HOK.out, HGA.out, f3⟩
      have HSS := hid S
      clear S ho' bb f3 LG cA hc2 HF HGA HOK y1 y2
      go_wp2
      go_roundg (gk - 1)
      case measure => exact hgk2.out.1
      case rel => exact ⟨i + 1, by simp, HSS.out⟩
    ·have hys := ga_end hga (by rw [HL.out]; omega)
     have F := hid (show AnsList w ys (.returned (.slice O on oc)) wr from ⟨O, on, oc, rfl, by rw [hys]; exact ho, f.b⟩)
     have i2 : ¬ (i : Int) < (pn : Int) := by omega
     clear ho hok hga f hys hgk
     go_wp2
     go_ret
     exact F.out
theorem specGeneralisedAllX (A P : Option Addr) (n c pn pc : Nat) (sg : List Int) (ts : List (List Int)) (w : World) (h : Seg w w.heap.size A n sg) (hp : Segs w w.heap.size P pn ts) (hn : n ≤ 1048576) (htot : tot ts ≤ 1048576) (_ : pn ≤ pc) (_ : pc ≤ 9223372036854775807) {ys : List Int} (hG : IsGA sg ts ys) :
  Calls Try.prog 51 #[.agg #[.slice A n c], .slice P pn pc] w (AnsList w ys) := specGeneralisedAll A P n c pn pc sg ts w h hp hn htot hG
end genAll
end
section
open Go.Lib (hid)
namespace wGeneralisedAll
open Go.RowKit base ints sig cursor marks app sym appAt segs segsHelp segsMark kinds kindsSS unifLaw general genImpl genAll
set_option maxRecDepth 100000
set_option maxHeartbeats 8000000 in
theorem law (a0 : Option Addr) (n0 c0 : Nat) (xs0 : List Int) (a1 : Option Addr) (n1 c1 : Nat) (xs1 : List (List Int)) (w : World) (s0 : Seg w w.heap.size a0 n0 xs0) (hN0 : n0 ≤ 9223372036854775807) (s1 : Segs w w.heap.size a1 n1 xs1) (hN1 : n1 ≤ 9223372036854775807) :
  Calls Try.prog 10 #[.agg #[.slice a0 n0 c0], .slice a1 n1 c1] w (Fine w) := by
 obtain ⟨gg, hG⟩ := isGA_ex xs0 xs1
 obtain ⟨W, hW⟩ : ∃ W, W = w.alloc (.cells #[.slice a0 n0 c0] 33) := ⟨_, rfl⟩
 have rA0 : Row W (w.heap.size) 33 #[.slice a0 n0 c0] := by rw [hW]; have := Row.new (w) 33 #[.slice a0 n0 c0]; simpa using this
 have bW : Below w.heap.size w W := by rw [hW]; exact (Below.refl w.heap.size w).alloc (by simp) (.cells #[.slice a0 n0 c0] 33)
 have zA0 := rA0.lt
 replace s0 := s0.next bW
 have Hl0 := hid s0.1
 replace s1 := s1.next bW
 have Hl1 := hid s1.1
 have HW := hid hW
 clear hW
 obtain ⟨t1, ht1⟩ : ∃ z, tot xs1 = z := ⟨_, rfl⟩
 have HT1 := hid ht1
 clear ht1
 go_enter Try.func10, Try.ntmps10
 go_wp2_with fail
 rw [← HW.out]
 clear HW
 have bel := Below.refl W.heap.size W
 have cA0 : W.cell? ⟨w.heap.size, 0, none⟩ = some (.slice a0 n0 c0) := (rA0.next bel).cell 0
 refine (szSig _ _ _ (1048576) _ hN0 (by omega) (by omega)).mono ?_
 rintro e w1 ⟨he, bb⟩
 replace bel := next_trans bel bb
 have zw1 := bb.size
 clear bb
 by_cases q0 : n0 ≤ 1048576
 case neg =>
  rw [if_pos (by omega)] at he
  subst he
  have F := hid (bW.trans (bel.mono bW.size))
  clear bel bW cA0
  go_wp2
  go_ret
  exact ⟨rfl, F.out⟩
 rw [if_neg (by omega)] at he
 subst he
 have h0 : n0 ≤ 1048576 := by omega
 clear cA0
 have cA0 : w1.cell? ⟨w.heap.size, 0, none⟩ = some (.slice a0 n0 c0) := (rA0.next bel).cell 0
 go_wp2_with fail
 refine (listsSz _ _ _ xs1 (1048576 - (n0 : Int)) _ (s1.next bel) hN1 (by omega) (by omega)).mono ?_
 rintro e w2 ⟨he, bb⟩
 rw [HT1.out] at he
 replace bel := next_trans bel bb
 have zw2 := bb.size
 clear bb
 by_cases q1 : n0 + t1 ≤ 1048576
 case neg =>
  rw [if_pos (by omega)] at he
  subst he
  have F := hid (bW.trans (bel.mono bW.size))
  clear bel bW cA0
  go_wp2
  go_ret
  exact ⟨rfl, F.out⟩
 rw [if_neg (by omega)] at he
 subst he
 have h1 : tot xs1 ≤ 1048576 := by rw [HT1.out]; omega
 replace h1 := hid h1
 have hn1 : n1 ≤ 1048576 := tot_len Hl1.out h1.out
 have hm1 : sumL xs1 n1 ≤ 1048576 := by have q := h1.out; unfold tot at q; rw [Hl1.out] at q; omega
 obtain ⟨z1, hz1⟩ : ∃ z, sumL xs1 n1 = z := ⟨_, rfl⟩
 rw [hz1] at hm1
 have HZ1 := hid hz1
 clear hz1
 clear cA0
 have cA0 : w2.cell? ⟨w.heap.size, 0, none⟩ = some (.slice a0 n0 c0) := (rA0.next bel).cell 0
 have hlen : (gg).length ≤ 1048576 := Nat.le_trans (isGA_len hG) (by omega)
 obtain ⟨ys, hys⟩ : ∃ ys, gg = ys := ⟨_, rfl⟩
 rw [hys] at hlen
 have HY := hid hys
 clear hys
 replace hlen := hid hlen
 go_wp2_with fail
 refine (sigTo _ _ _ xs0 _ (s0.next bel) h0).mono ?_
 rintro e w3 ⟨gp0, rfl, op0, yp0, bb⟩
 replace bel := next_trans bel bb
 have zw3 := bb.size
 clear bb
 clear cA0
 have cA0 : w3.cell? ⟨w.heap.size, 0, none⟩ = some (.slice a0 n0 c0) := (rA0.next bel).cell 0
 go_wp2_with fail
 refine (listsTo _ _ _ xs1 _ (s1.next bel) h1.out).mono ?_
 rintro e w4 ⟨gp1, rfl, op1, yp1, bb⟩
 replace op0 := op0.next bb
 replace bel := next_trans bel bb
 have zw4 := bb.size
 clear bb
 clear cA0
 have cA0 : w4.cell? ⟨w.heap.size, 0, none⟩ = some (.slice a0 n0 c0) := (rA0.next bel).cell 0
 go_wp2_with fail
 refine (specGeneralisedAllX _ _ _ _ _ _ xs0 xs1 _ op0.rd op1.rd h0 h1.out (Nat.le_refl _) (by omega) hG).mono ?_
 rintro e w5 ⟨A0, m0, d0, he, o0, bb⟩
 subst he
 replace op0 := op0.next bb
 replace op1 := op1.next bb
 replace bel := next_trans bel bb
 have zw5 := bb.size
 clear bb
 rw [HY.out] at o0
 have sw := Own.seg o0
 clear o0
 clear op0 op1
 clear cA0
 have cA0 : w5.cell? ⟨w.heap.size, 0, none⟩ = some (.slice a0 n0 c0) := (rA0.next bel).cell 0
 obtain ⟨Aw, mw, dw, eA, em, ed⟩ : ∃ A m d, A = A0 ∧ m = m0 ∧ d = d0 := ⟨_, _, _, rfl, rfl, rfl⟩
 subst eA em ed
 have belw := Below.refl w5.heap.size w5
 clear cA0
 have cA0 : w5.cell? ⟨w.heap.size, 0, none⟩ = some (.slice a0 n0 c0) := (rA0.next bel).cell 0
 go_wp2_with fail
 refine (sigTo _ _ _ xs0 _ (s0.next bel) h0).mono ?_
 rintro e w6 ⟨gx0, rfl, ox0, yx0, bb⟩
 replace bel := next_trans bel bb
 replace belw := next_trans belw bb
 have zw6 := bb.size
 clear bb
 clear cA0
 have cA0 : w6.cell? ⟨w.heap.size, 0, none⟩ = some (.slice a0 n0 c0) := (rA0.next bel).cell 0
 have dA0 : (w6.alloc (.cells #[.slice (some ⟨gx0, 0, none⟩) n0 n0] 26)).cell? ⟨w.heap.size, 0, none⟩ = some (.slice a0 n0 c0) := ((rA0.next bel).alloc _).cell 0
 go_wp2_with fail
 obtain ⟨w7, hw⟩ : ∃ W, W = w6.alloc (.cells #[.slice (some ⟨gx0, 0, none⟩) n0 n0] 26) := ⟨_, rfl⟩
 rw [← hw]
 have rx0 : Row w7 w6.heap.size 26 #[.slice (some ⟨gx0, 0, none⟩) n0 n0] := by rw [hw]; exact Row.new _ _ _
 have bb : Below w6.heap.size w6 w7 := by rw [hw]; exact (Below.refl _ _).alloc (Nat.le_refl _) _
 have yrx0 : w6.heap.size < w7.heap.size := by rw [hw]; simp
 clear hw
 replace ox0 := ox0.next bb
 replace bel := next_trans bel bb
 replace belw := next_trans belw bb
 have zw7 := bb.size
 clear bb
 clear dA0
 clear cA0
 have cA0 : w7.cell? ⟨w.heap.size, 0, none⟩ = some (.slice a0 n0 c0) := (rA0.next bel).cell 0
 have cx0 : w7.cell? ⟨w6.heap.size, 0, none⟩ = some (.slice (some ⟨gx0, 0, none⟩) n0 n0) := (rx0).cell 0
 refine (listsTo _ _ _ xs1 _ (s1.next bel) h1.out).mono ?_
 rintro e w8 ⟨gx1, rfl, ox1, yx1, bb⟩
 replace ox0 := ox0.next bb
 replace rx0 := rx0.next bb
 replace bel := next_trans bel bb
 replace belw := next_trans belw bb
 have zw8 := bb.size
 clear bb
 clear cA0 cx0
 have cA0 : w8.cell? ⟨w.heap.size, 0, none⟩ = some (.slice a0 n0 c0) := (rA0.next bel).cell 0
 have cx0 : w8.cell? ⟨w6.heap.size, 0, none⟩ = some (.slice (some ⟨gx0, 0, none⟩) n0 n0) := (rx0).cell 0
 go_wp2_with fail
 refine (implGeneralisedAll _ _ _ _ _ _ xs0 xs1 _ ox0.rd ox1.rd h0 h1.out (Nat.le_refl _) (by omega) hG).mono ?_
 rintro e w9 ⟨A0, m0, d0, he, o0, bb⟩
 subst he
 replace ox0 := ox0.next bb
 replace rx0 := rx0.next bb
 replace ox1 := ox1.next bb
 replace bel := next_trans bel bb
 replace belw := next_trans belw bb
 have zw9 := bb.size
 clear bb
 rw [HY.out] at o0
 have og := Ownd.of_own o0
 clear o0
 obtain ⟨Ag, mg, dg, eA, em, ed⟩ : ∃ A m d, A = A0 ∧ m = m0 ∧ d = d0 := ⟨_, _, _, rfl, rfl, rfl⟩
 subst eA em ed
 clear cA0 cx0
 have cA0 : w9.cell? ⟨w.heap.size, 0, none⟩ = some (.slice a0 n0 c0) := (rA0.next bel).cell 0
 have cx0 : w9.cell? ⟨w6.heap.size, 0, none⟩ = some (.slice (some ⟨gx0, 0, none⟩) n0 n0) := (rx0).cell 0
 have hlenn : mg ≤ 1048576 := by rw [← og.rd.1]; exact hlen.out
 go_wp2_with fail
 refine (intsEq _ _ _ _ _ _ ys _ og.rd (sw.next belw) hlenn).mono ?_
 rintro e w10 ⟨rfl, bb⟩
 replace ox0 := ox0.next bb
 replace rx0 := rx0.next bb
 replace ox1 := ox1.next bb
 replace og := og.next bb
 replace bel := next_trans bel bb
 replace belw := next_trans belw bb
 have zw10 := bb.size
 clear bb
 clear cA0 cx0
 have cA0 : w10.cell? ⟨w.heap.size, 0, none⟩ = some (.slice a0 n0 c0) := (rA0.next bel).cell 0
 have cx0 : w10.cell? ⟨w6.heap.size, 0, none⟩ = some (.slice (some ⟨gx0, 0, none⟩) n0 n0) := (rx0).cell 0
 go_wp2_with fail
 replace ox0 := ox0.drew
 replace rx0 := rx0.drew
 replace ox1 := ox1.drew
 replace og := og.drew
 replace bel := bel.drew
 replace belw := belw.drew
 have zdw10 := (drew_below w10).size
 go_region_held3 (fun w' => w'.cell? ⟨w6.heap.size, 0, none⟩ = some (.slice (some ⟨gx0, 0, none⟩) n0 n0) ∧ w'.cell? ⟨w.heap.size, 0, none⟩ = some (.slice a0 n0 c0))
  (go_keep)
  (first
   | (go_at_call 24; refine (sigTo _ _ _ xs0 _ (s0.next bel) h0).mono ?_; rintro e w11 ⟨gt0, rfl, ot, yt0, bb⟩; replace ox0 := ox0.next bb; replace rx0 := rx0.next bb; replace ox1 := ox1.next bb; replace og := og.next bb; replace bel := next_trans bel bb; replace belw := next_trans belw bb; have k0w11 : w11.cell? ⟨w.heap.size, 0, none⟩ = some (.slice a0 n0 c0) := (rA0.next bel).cell 0; have l0w11 : w11.cell? ⟨w6.heap.size, 0, none⟩ = some (.slice (some ⟨gx0, 0, none⟩) n0 n0) := rx0.cell 0; have zqw11 := bb.size; clear bb)
   | (go_at_call 27; refine (sigEq _ _ _ _ _ _ xs0 _ ox0.rd ot.rd h0).mono ?_; rintro e w12 ⟨rfl, bb⟩; replace ox0 := ox0.next bb; replace rx0 := rx0.next bb; replace ox1 := ox1.next bb; replace og := og.next bb; replace bel := next_trans bel bb; replace belw := next_trans belw bb; have k0w12 : w12.cell? ⟨w.heap.size, 0, none⟩ = some (.slice a0 n0 c0) := (rA0.next bel).cell 0; have l0w12 : w12.cell? ⟨w6.heap.size, 0, none⟩ = some (.slice (some ⟨gx0, 0, none⟩) n0 n0) := rx0.cell 0; have zqw12 := bb.size; clear bb ot))
 clear k0w11 l0w11 k0w12 l0w12
 clear cA0 cx0
 have cA0 : w12.cell? ⟨w.heap.size, 0, none⟩ = some (.slice a0 n0 c0) := (rA0.next bel).cell 0
 have cx0 : w12.cell? ⟨w6.heap.size, 0, none⟩ = some (.slice (some ⟨gx0, 0, none⟩) n0 n0) := (rx0).cell 0
 go_wp2_with fail
 refine (listsTo _ _ _ xs1 _ (s1.next bel) h1.out).mono ?_
 rintro e w13 ⟨gt1, rfl, ot1, yt1, bb⟩
 replace ox0 := ox0.next bb
 replace rx0 := rx0.next bb
 replace ox1 := ox1.next bb
 replace og := og.next bb
 replace bel := next_trans bel bb
 replace belw := next_trans belw bb
 have zw13 := bb.size
 clear bb
 clear cA0 cx0
 have cA0 : w13.cell? ⟨w.heap.size, 0, none⟩ = some (.slice a0 n0 c0) := (rA0.next bel).cell 0
 have cx0 : w13.cell? ⟨w6.heap.size, 0, none⟩ = some (.slice (some ⟨gx0, 0, none⟩) n0 n0) := (rx0).cell 0
 go_wp2_with fail
 refine (listsEq _ _ _ _ _ _ xs1 _ ox1.rd ot1.rd h1.out).mono ?_
 rintro e w14 ⟨rfl, bb⟩
 replace ox0 := ox0.next bb
 replace rx0 := rx0.next bb
 replace ox1 := ox1.next bb
 replace og := og.next bb
 replace ot1 := ot1.next bb
 replace bel := next_trans bel bb
 replace belw := next_trans belw bb
 have zw14 := bb.size
 clear bb
 clear ot1
 clear cA0 cx0
 have cA0 : w14.cell? ⟨w.heap.size, 0, none⟩ = some (.slice a0 n0 c0) := (rA0.next bel).cell 0
 have cx0 : w14.cell? ⟨w6.heap.size, 0, none⟩ = some (.slice (some ⟨gx0, 0, none⟩) n0 n0) := (rx0).cell 0
 go_wp2_with fail
 refine (sigMark (w5.heap.size) (w6.heap.size) _ _ _ xs0 (1) _ ox0 h0 (by omega) (by omega)).mono ?_
 rintro e w15 ⟨he, -, bt⟩
 subst he
 clear ox0
 replace rx0 := Row.btw rx0 bt (by omega)
 replace ox1 := ox1.btw bt (by omega)
 replace og := og.btw bt (by omega)
 replace bel := Below.btw bel bt (by omega) bel.size
 replace belw := Below.btw belw bt (by omega) belw.size
 have zw15 := bt.size
 clear bt
 clear cA0 cx0
 have cA0 : w15.cell? ⟨w.heap.size, 0, none⟩ = some (.slice a0 n0 c0) := (rA0.next bel).cell 0
 have cx0 : w15.cell? ⟨w6.heap.size, 0, none⟩ = some (.slice (some ⟨gx0, 0, none⟩) n0 n0) := (rx0).cell 0
 go_wp2_with fail
 refine (listsMark (w7.heap.size) (w8.heap.size) _ _ _ xs1 (1 + (n0 : Int)) _ ox1 (by omega) h1.out (by omega) (by omega)).mono ?_
 rintro e w16 ⟨he, -, bt⟩
 rw [HZ1.out] at he
 subst he
 clear ox1
 replace rx0 := Row.btw rx0 bt (by omega)
 replace og := og.btw bt (by omega)
 replace bel := Below.btw bel bt (by omega) bel.size
 replace belw := Below.btw belw bt (by omega) belw.size
 have zw16 := bt.size
 clear bt
 clear cA0 cx0
 have cA0 : w16.cell? ⟨w.heap.size, 0, none⟩ = some (.slice a0 n0 c0) := (rA0.next bel).cell 0
 have cx0 : w16.cell? ⟨w6.heap.size, 0, none⟩ = some (.slice (some ⟨gx0, 0, none⟩) n0 n0) := (rx0).cell 0
 clear rx0
 clear cA0 cx0
 have cA0 : w16.cell? ⟨w.heap.size, 0, none⟩ = some (.slice a0 n0 c0) := (rA0.next bel).cell 0
 go_wp2_with fail
 refine (intsEq _ _ _ _ _ _ ys _ og.rd (sw.next belw) hlenn).mono ?_
 rintro e w17 ⟨rfl, bb⟩
 replace og := og.next bb
 replace bel := next_trans bel bb
 replace belw := next_trans belw bb
 have zw17 := bb.size
 clear bb
 clear cA0
 have cA0 : w17.cell? ⟨w.heap.size, 0, none⟩ = some (.slice a0 n0 c0) := (rA0.next bel).cell 0
 go_wp2_with fail
 refine (intsMark (w8.heap.size) (w9.heap.size) _ _ _ ys 1 _ og hlenn (by omega) (by omega)).mono ?_
 rintro e w18 ⟨he, om, bt⟩
 subst he
 clear og
 replace bel := Below.btw bel bt (by omega) bel.size
 replace belw := Below.btw belw bt (by omega) belw.size
 have zw18 := bt.size
 clear bt
 clear cA0
 have cA0 : w18.cell? ⟨w.heap.size, 0, none⟩ = some (.slice a0 n0 c0) := (rA0.next bel).cell 0
 go_wp2_with fail
 refine (intsHeld _ _ _ 1 _ om.rd hlenn (by omega) (by omega)).mono ?_
 rintro e w19 ⟨rfl, bb⟩
 replace om := om.next bb
 replace bel := next_trans bel bb
 replace belw := next_trans belw bb
 have zw19 := bb.size
 clear bb
 clear cA0
 have cA0 : w19.cell? ⟨w.heap.size, 0, none⟩ = some (.slice a0 n0 c0) := (rA0.next bel).cell 0
 go_wp2_with fail
 refine (sigTo _ _ _ xs0 _ (s0.next bel) h0).mono ?_
 rintro e w20 ⟨gp0, rfl, op0, yp0, bb⟩
 replace om := om.next bb
 replace bel := next_trans bel bb
 replace belw := next_trans belw bb
 have zw20 := bb.size
 clear bb
 clear cA0
 have cA0 : w20.cell? ⟨w.heap.size, 0, none⟩ = some (.slice a0 n0 c0) := (rA0.next bel).cell 0
 go_wp2_with fail
 refine (listsTo _ _ _ xs1 _ (s1.next bel) h1.out).mono ?_
 rintro e w21 ⟨gp1, rfl, op1, yp1, bb⟩
 replace om := om.next bb
 replace op0 := op0.next bb
 replace bel := next_trans bel bb
 replace belw := next_trans belw bb
 have zw21 := bb.size
 clear bb
 clear cA0
 have cA0 : w21.cell? ⟨w.heap.size, 0, none⟩ = some (.slice a0 n0 c0) := (rA0.next bel).cell 0
 go_wp2_with fail
 refine (implGeneralisedAll _ _ _ _ _ _ xs0 xs1 _ op0.rd op1.rd h0 h1.out (Nat.le_refl _) (by omega) hG).mono ?_
 rintro e w22 ⟨A0, m0, d0, he, o0, bb⟩
 subst he
 replace om := om.next bb
 replace op0 := op0.next bb
 replace op1 := op1.next bb
 replace bel := next_trans bel bb
 replace belw := next_trans belw bb
 have zw22 := bb.size
 clear bb
 rw [HY.out] at o0
 have sh := Own.seg o0
 clear o0
 clear op0 op1
 clear cA0
 have cA0 : w22.cell? ⟨w.heap.size, 0, none⟩ = some (.slice a0 n0 c0) := (rA0.next bel).cell 0
 obtain ⟨Ah, mh, dh, eA, em, ed⟩ : ∃ A m d, A = A0 ∧ m = m0 ∧ d = d0 := ⟨_, _, _, rfl, rfl, rfl⟩
 subst eA em ed
 have belh := Below.refl w22.heap.size w22
 clear cA0
 have cA0 : w22.cell? ⟨w.heap.size, 0, none⟩ = some (.slice a0 n0 c0) := (rA0.next bel).cell 0
 go_wp2_with fail
 refine (intsEq _ _ _ _ _ _ ys _ (sh.next belh) (sw.next belw) (by rw [← sh.1]; exact hlen.out)).mono ?_
 rintro e w23 ⟨rfl, bb⟩
 replace om := om.next bb
 replace bel := next_trans bel bb
 replace belw := next_trans belw bb
 replace belh := next_trans belh bb
 have zw23 := bb.size
 clear bb
 clear cA0
 have cA0 : w23.cell? ⟨w.heap.size, 0, none⟩ = some (.slice a0 n0 c0) := (rA0.next bel).cell 0
 go_wp2_with fail
 refine (intsHeld _ _ _ 1 _ om.rd hlenn (by omega) (by omega)).mono ?_
 rintro e w24 ⟨rfl, bb⟩
 replace om := om.next bb
 replace bel := next_trans bel bb
 replace belw := next_trans belw bb
 replace belh := next_trans belh bb
 have zw24 := bb.size
 clear bb
 clear cA0
 have cA0 : w24.cell? ⟨w.heap.size, 0, none⟩ = some (.slice a0 n0 c0) := (rA0.next bel).cell 0
 have F := hid (bW.trans (bel.mono bW.size))
 clear bel belw belh om bW cA0
 go_wp2
 go_ret
 exact ⟨rfl, F.out⟩
end wGeneralisedAll
end
end Go.Proofs.Ytfclafbdbdmlhaa
