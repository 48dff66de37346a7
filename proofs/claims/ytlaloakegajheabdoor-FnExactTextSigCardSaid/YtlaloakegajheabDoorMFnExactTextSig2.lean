/-
  MERGED: my texts TextSigSpec, SplitB, ShelfV, Parsed, ShelfU, TextSigImpl, TextSigX, WTextSig, VarsOpen, OpenX, one behind the other, as they are. By an AI agent.
-/
import Derived.Test.YtlaloakegajheabDoorMFnExactTextSig1
import Derived.Lib.SplitLaws
import Derived.Lib.ParseIntB
import Derived.Shelf.Strconv.ParseIntPublic10
import Derived.Test.YtlaloakegajheabDoorProg
import Derived.BigQuiet
import Derived.Shelf.Strings.Split
import Derived.Deep.RegionHeld3
import Derived.Shelf.Vars
import Derived.Handed
import Derived.Stop.LaidErr
import Derived.Test.YtlaloakegajheabDoorRows
import Derived.ProofKit
import Derived.OpenShut
import Derived.Lib.SmallJoins
import Derived.Deep.Slices
import Derived.Deep.Fields
namespace Go.Proofs.YtlaloakegajheabDoor
section
open Go.Lib (hid)
namespace textSigSpec
open Go.RowKit cursor sym base ints sig term termOk marks app text textL sigText splitMath splitSpec
set_option maxRecDepth 100000
def tsB (l : List UInt8) : Bool := decide (l.length ≤ 400) && goodS l
def tsL (l : List UInt8) : List Int := if tsB l = true then sigOut (splitS 32 l) else []
def AnsTS (w : World) (l : List UInt8) (e : Ending) (w' : World) : Prop := ∃ A n c, e = .returned (.tuple #[.agg #[.slice A n c], .bool (tsB l)]) ∧ Own w' w.heap.size (.slice A n c) (tsL l) ∧ Below w.heap.size w w'
theorem ansTS_no {l : List UInt8} (h : tsB l = false) {w w' : World} (hb : Below w.heap.size w w') : AnsTS w l (.returned (.tuple #[.agg #[.slice none 0 0], .bool false])) w' :=
 ⟨none, 0, 0, by rw [h], by unfold tsL; rw [if_neg (by rw [h]; simp)]; exact Own.nil _ _, hb⟩
theorem sigOut_take {W : List (List UInt8)} {k : Nat} {y : List UInt8} (hk : k < W.length) (e : W.getD k [] = y) : sigOut (W.take (k + 1)) = sigOut (W.take k) ++ [(rdV y : Int)] := by
 have e2 : W[k] = y := by rw [← e]; simp [List.getD, hk]
 unfold sigOut
 rw [List.take_succ_eq_append_getElem hk, List.map_append, e2]
 rfl
theorem two_box (w : World) (t t' : TypeId) (cs cs' : Array Value) : ∃ W, W = (w.alloc (.cells cs t)).alloc (.cells cs' t') ∧ Row W w.heap.size t cs ∧ Row W (w.heap.size + 1) t' cs' ∧ W.heap.size = w.heap.size + 1 + 1 ∧ Below w.heap.size w W := by
 refine ⟨_, rfl, ?_, ?_, by simp, ((Below.refl _ _).alloc (Nat.le_refl _) _).alloc (by simp) _⟩
 ·exact (Row.new w t cs).next ((Below.refl _ _).alloc (Nat.le_refl _) _)
 ·have := Row.new (w.alloc (.cells cs t)) t' cs'
  simpa using this
def HeadTs (w : World) (B1 g n : Nat) (cs : Array Value) (ws : List (List UInt8)) (i : Value) (wr : World) : Prop :=
 ∃ (k : Nat) (O : Option Addr) (oc : Nat), k ≤ n ∧ i = .int .i64 k ∧ (∀ j, j < k → rdOk (ws.getD j []) = true) ∧ Row wr w.heap.size 28 #[.slice none 0 0] ∧ Row wr (w.heap.size + 1) 28 #[.slice O k oc] ∧ Row wr g 9 cs ∧
  Own wr B1 (.slice O k oc) (sigOut (ws.take k)) ∧ B1 ≤ wr.heap.size ∧ Below w.heap.size w wr
theorem split_len (c : UInt8) (l : List UInt8) : (splitS c l).length ≤ l.length + 1 := by
 have h := sp_len c l (l.length + 1)
 unfold spW at h
 rw [if_neg (by omega)] at h
 exact h
theorem all_no {ws : List (List UInt8)} {k : Nat} (hk : k < ws.length) (h : rdOk (ws.getD k []) = false) : ws.all rdOk = false := by
 rw [List.all_eq_false]
 refine ⟨ws.getD k [], by simp [List.getD, hk], by rw [h]; simp⟩
theorem all_yes {ws : List (List UInt8)} {k : Nat} (hk : ws.length = k) (h : ∀ j, j < k → rdOk (ws.getD j []) = true) : ws.all rdOk = true := by
 rw [List.all_eq_true]
 intro x hx
 obtain ⟨j, hj, rfl⟩ := List.getElem_of_mem hx
 have := h j (by omega)
 simpa [List.getD, hj] using this
set_option maxHeartbeats 1000000 in
theorem specTextSig0 (l : List UInt8) (w : World) :
  Calls Tryd.prog 24 #[.string (bs l)] w (AnsTS w l) := by
 obtain ⟨T, hT⟩ : ∃ T, bs l = T := ⟨_, rfl⟩
 obtain ⟨N, hN⟩ : ∃ N, l.length = N := ⟨_, rfl⟩
 have hlen : ∀ v : World, (Builtin.len_ #[9] 3 #[.string T]).run Tryd.prog v = .ok (.int .i64 (N : Int)) v := by
  intro v
  rw [run_len_string (P := Tryd.prog) v 9 3 T Tryd.underlying9, ← hT, bs_size, hN]
  rfl
 rw [hT]
 have HT := hid hT
 have HN := hid hN
 clear hT
 by_cases hL : N ≤ 400
 ·obtain ⟨W, hW, r0, r1, hz, bel⟩ := two_box w 28 28 #[.slice none 0 0] #[.slice none 0 0]
  have a1 : ¬ (400 : Int) < (N : Int) := by omega
  have LS := hid (l1Split 32 l W (by rw [hN]; omega))
  rw [HT.out] at LS
  have HW := hid hW
  have HZ := hid hz
  clear hN hW hz
  go_enter Tryd.func24, Tryd.ntmps24
  go_wp2_with fail
  rw [← HW.out]
  refine LS.out.mono ?_
  rintro e w1 ⟨P, pc, rfl, oP, bb⟩
  obtain ⟨ws, hws⟩ : ∃ z, splitS 32 l = z := ⟨_, rfl⟩
  have hn401 := split_len 32 l
  have hne := split_ne 32 l
  rw [hws] at oP hn401 hne ⊢
  rw [HN.out] at hn401
  have HTS := hid (show tsB l = (ws.all rdOk && sigOkB (sigOut ws)) by
   unfold tsB goodS
   rw [HN.out, decide_eq_true hL, Bool.true_and, hws])
  have HTL := hid (show tsB l = true → tsL l = sigOut ws from fun h => by unfold tsL; rw [if_pos h, hws])
  obtain ⟨n, hn⟩ : ∃ z, ws.length = z := ⟨_, rfl⟩
  have h1n : 1 ≤ n := by
   rw [← hn]
   exact List.length_pos_iff.2 hne
  obtain ⟨-, e0⟩ | ⟨g, c', cs, ee, hgb, rP, hnc, hcs⟩ := oP.form
  ·exact absurd e0 hne
  injection ee with ee1 ee2 ee3
  subst ee1 ee3
  rw [hn] at hcs hn401 ⊢
  have HN2 := hid hn
  have HCS := hid hcs
  replace r0 := r0.next bb
  replace r1 := r1.next bb
  have belw := next_trans bel bb
  have hgz := rP.lt
  have hz0 := HZ.out
  have hz1 := bb.size
  obtain ⟨B1, hB1⟩ : ∃ z, w1.heap.size = z := ⟨_, rfl⟩
  have hg0 : w.heap.size + 1 < g := by omega
  have hB1g : g < B1 := by omega
  have S0 := hid (show HeadTs w B1 g n cs ws (.int .i64 0) w1 from ⟨0, none, 0, Nat.zero_le _, rfl, (fun j hj => absurd hj (by omega)), r0, r1, rP, Own.nil _ _, by omega, belw⟩)
  clear bb bel belw r0 r1 rP hcs hnc hgb oP LS hws hne hgz hz0 hz1 hB1 hn HW HZ
  go_wp2_with fail
  go_loopw [6] (fun i wr => HeadTs w B1 g n cs ws i wr) (fun i _ => n - (intOf i).toNat)
  case atStart => exact S0.out
  case round =>
   clear S0
   obtain ⟨k, O, oc, hk, rfl, hall, r0, r1, rP, ho, hB, hb⟩ := hrel
   have hz := hb.size
   have c1 : wr.cell? ⟨w.heap.size + 1, 0, none⟩ = some (.slice O k oc) := r1.cell 0
   have f1 : wr.frozen? ⟨w.heap.size + 1, 0, none⟩ = false := r1.free 0
   have c2 : wr.cell? ⟨w.heap.size, 0, none⟩ = some (.slice none 0 0) := r0.cell 0
   have f2 : wr.frozen? ⟨w.heap.size, 0, none⟩ = false := r0.free 0
   by_cases hlt : k < n
   ·have i0 : (0 : Int) ≤ (k : Int) := by omega
    have i1 : (k : Int) < (n : Int) := by omega
    have cP := (rP.cell k).trans (HCS.out k hlt)
    obtain ⟨y, hy⟩ : ∃ y, ws.getD k [] = y := ⟨_, rfl⟩
    rw [hy] at cP
    have LR := hid (l1Read y wr)
    cases hrd : rdOk y with
    | false =>
     have HRD := hid hrd
     have no : tsB l = false := by rw [HTS.out, all_no (by rw [HN2.out]; exact hlt) (by rw [hy]; exact hrd), Bool.false_and]
     have F1 := hid (ansTS_no no hb)
     have F2 := hid (ansTS_no no (hb.setCell (p := ⟨w.heap.size, 0, none⟩) (Nat.le_refl _) (.slice none 0 0)))
     clear no hrd hy hall ho hb rP r0 r1
     go_wp2_with fail
     refine LR.out.mono ?_
     rintro e w3 ⟨he, hw⟩
     subst hw
     rw [HRD.out] at he
     subst he
     clear LR
     go_wp2
     first
      | exact bodyPost_ret (v := .tuple #[.agg #[.slice none 0 0], .bool false]) (by simp [results, Tryd.results24, go_sem, c2]) rfl F1.out
      | exact bodyPost_ret (v := .tuple #[.agg #[.slice none 0 0], .bool false]) (by simp [results, Tryd.results24, go_sem, c2]) rfl F2.out
    | true =>
     have HRD := hid hrd
     obtain ⟨v, hv⟩ : ∃ v, rdI y = v := ⟨_, rfl⟩
     have hsg : sigOut (ws.take (k + 1)) = sigOut (ws.take k) ++ [v] := by
      rw [sigOut_take (by rw [HN2.out]; exact hlt) hy, ← hv]
      unfold rdI
      rw [if_pos hrd]
     have HV := hid hv
     have HSG := hid hsg
     have HALL := hid (show ∀ j, j < k + 1 → rdOk (ws.getD j []) = true from fun j hj => by
      by_cases h : j = k
      ·rw [h, hy]; exact hrd
      ·exact hall j (by omega))
     have R0 := hid r0
     have R1 := hid r1
     have RP := hid rP
     clear hsg hv hrd hy hall r0 r1 rP c2 f2
     go_wp2_with fail
     refine LR.out.mono ?_
     rintro e w3 ⟨he, hw⟩
     subst hw
     rw [HRD.out, HV.out] at he
     subst he
     clear LR
     go_wp2_with (at_builtin; refine app1 rfl _ _ rfl B1 O k oc _ rfl (ho.alloc _) w3.heap.size 1 v rfl ((Row.new _ _ _).cell 0) (by omega) (by simp; omega) ?_; intro O' oc' w2 ho2 b2; have q1 := (R1.out.next ((Below.refl _ _).alloc (Nat.le_refl _) _)).below b2 (by omega); have c6 : w2.cell? ⟨w.heap.size + 1, 0, none⟩ = some (.slice O k oc) := q1.cell 0; have f6 : w2.frozen? ⟨w.heap.size + 1, 0, none⟩ = false := q1.free 0)
     have S := hid (show HeadTs w B1 g n cs ws (.int .i64 ((k : Int) + 1)) (w2.setCell ⟨w.heap.size + 1, 0, none⟩ (.slice O' (k + 1) oc')) from
      ⟨k + 1, O', oc', hlt, by simp, HALL.out, ((R0.out.next ((Below.refl _ _).alloc (Nat.le_refl _) _)).below b2 (by omega)).far (by simp) _, q1.put 0 _, ((RP.out.next ((Below.refl _ _).alloc (Nat.le_refl _) _)).below b2 hB1g).far (by simp; omega) _, by
       rw [HSG.out]
       exact ho2.far (grown_put (World.grownBy.refl _ _) 0 _) (fun z hz => by injection hz with hz; omega), by have h1 := b2.size; simp at h1; simp; omega, ((hb.alloc hb.size _).trans (b2.mono (by omega))).setCell (by simp) _⟩)
     clear ho hb ho2 b2 q1 c1 f1
     go_wp2
     go_roundw
     case rel => exact S.out
     case measure => simp [intOf]; omega
   ·have i1 : ¬ (k : Int) < (n : Int) := by omega
    obtain rfl : k = n := by omega
    have et : ws.take k = ws := List.take_of_length_le (by rw [HN2.out]; exact Nat.le_refl _)
    rw [et] at ho
    have hy := all_yes HN2.out hall
    have LO := hid (specSigOk O k oc (sigOut ws) wr ho.seg (by omega))
    cases ok : sigOkB (sigOut ws) with
    | false =>
     have HS := hid ok
     have no : tsB l = false := by rw [HTS.out, ok, Bool.and_false]
     have HNO := hid no
     clear no ok hy et hall rP r1
     go_wp2_with fail
     refine LO.out.mono ?_
     rintro e w3 ⟨he, bb⟩
     rw [HS.out] at he
     subst he
     have q0 := r0.next bb
     have c3 : w3.cell? ⟨w.heap.size, 0, none⟩ = some (.slice none 0 0) := q0.cell 0
     have f3 : w3.frozen? ⟨w.heap.size, 0, none⟩ = false := q0.free 0
     have F1 := hid (ansTS_no HNO.out (next_trans hb bb))
     have F2 := hid (ansTS_no HNO.out ((next_trans hb bb).setCell (p := ⟨w.heap.size, 0, none⟩) (Nat.le_refl _) (.slice none 0 0)))
     clear ho hb bb r0 q0 LO c1 f1 c2 f2
     go_wp2
     first
      | exact bodyPost_ret (v := .tuple #[.agg #[.slice none 0 0], .bool false]) (by simp [results, Tryd.results24, go_sem, c3]) rfl F1.out
      | exact bodyPost_ret (v := .tuple #[.agg #[.slice none 0 0], .bool false]) (by simp [results, Tryd.results24, go_sem, c3]) rfl F2.out
    | true =>
     have HS := hid ok
     have yes : tsB l = true := by rw [HTS.out, ok, hy]; rfl
     have HY := hid yes
     clear yes ok hy et hall rP
     go_wp2_with fail
     refine LO.out.mono ?_
     rintro e w3 ⟨he, bb⟩
     rw [HS.out] at he
     subst he
     have q0 := r0.next bb
     have q1 := r1.next bb
     have c3 : w3.cell? ⟨w.heap.size, 0, none⟩ = some (.slice none 0 0) := q0.cell 0
     have f3 : w3.frozen? ⟨w.heap.size, 0, none⟩ = false := q0.free 0
     have c4 : w3.cell? ⟨w.heap.size + 1, 0, none⟩ = some (.slice O k oc) := q1.cell 0
     have F : AnsTS w l (.returned (.tuple #[.agg #[.slice O k oc], .bool true])) (w3.setCell ⟨w.heap.size, 0, none⟩ (.slice O k oc)) :=
      ⟨O, k, oc, by rw [HY.out], by
       rw [HTL.out HY.out]
       exact Own.lower (base := B1) (Own.far (r := some w.heap.size) (Own.next ho bb) (grown_put (World.grownBy.refl _ _) 0 _) (fun z hz => by injection hz with hz; omega)) (by omega), (next_trans hb bb).setCell (Nat.le_refl _) _⟩
     have HF := hid F
     clear F ho hb bb r0 r1 q0 q1 LO c1 f1 c2 f2
     go_wp2
     exact bodyPost_ret (v := .tuple #[.agg #[.slice O k oc], .bool true]) (by simp [results, Tryd.results24, go_sem, c3]) rfl HF.out
 ·have a1 : (400 : Int) < (N : Int) := by omega
  have no : tsB l = false := by unfold tsB; rw [HN.out, decide_eq_false hL, Bool.false_and]
  have F := hid (ansTS_no no (show Below w.heap.size w (w.alloc (.cells #[.slice none 0 0] 28)) from (Below.refl _ _).alloc (Nat.le_refl _) _))
  clear no hN hL
  go_enter Tryd.func24, Tryd.ntmps24
  go_wp2
  exact bodyPost_ret (v := .tuple #[.agg #[.slice none 0 0], .bool false]) (by simp [results, Tryd.results24, go_sem]) rfl F.out
end textSigSpec
end
section
namespace splitB
open sig term termOk text textL sigText splitMath
theorem index_one {c : UInt8} : ∀ {x r : List UInt8}, c ∉ x → Lib.index (x ++ c :: r) [c] = (x.length : Int)
 | [], r, _ => by simp [Lib.index]
 | b :: x, r, h => by
  have hb : ¬ c = b := fun e => h (by rw [e]; exact List.mem_cons_self ..)
  have ih := index_one (r := r) (fun e => h (List.mem_cons_of_mem _ e) : c ∉ x)
  have h1 : ¬ ((x.length : Int) == -1) = true := by
   rw [beq_iff_eq]
   omega
  simp only [List.cons_append, Lib.index, ih, if_neg h1, List.length_cons]
  rw [if_neg (by simp [hb])]
  omega
theorem splitK_good (c : UInt8) : ∀ (k : Nat) (l : List UInt8), l.count c = k → Lib.splitK [c] 0 k l ≠ [] ∧ (∀ w ∈ Lib.splitK [c] 0 k l, c ∉ w) ∧ Lib.join (Lib.splitK [c] 0 k l) [c] = l
 | 0, l, h => by
  have e : Lib.splitK [c] 0 0 l = [l] := rfl
  rw [e]
  refine ⟨by simp, fun w hw => ?_, Lib.join_one _ _⟩
  rw [List.mem_singleton.1 hw]
  exact fun hm => absurd (List.count_pos_iff.2 hm) (by omega)
 | k + 1, l, h => by
  have hm : c ∈ l := List.count_pos_iff.1 (by omega)
  obtain ⟨x, r, rfl, hx⟩ := List.eq_append_cons_of_mem hm
  have hi := index_one (r := r) hx
  have hc : r.count c = k := by
   rw [List.count_append, List.count_eq_zero_of_not_mem hx, List.count_cons_self] at h
   omega
  obtain ⟨h1, h2, h3⟩ := splitK_good c k r hc
  have e : Lib.splitK [c] 0 (k + 1) (x ++ c :: r) = x :: Lib.splitK [c] 0 k r := by
   have h9 : ¬ ((x.length : Int) == -1) = true := by
    rw [beq_iff_eq]
    omega
   rw [show Lib.splitK [c] 0 (k + 1) (x ++ c :: r) = if Lib.index (x ++ c :: r) [c] == -1 then [x ++ c :: r] else (x ++ c :: r).take ((Lib.index (x ++ c :: r) [c]).toNat + 0) :: Lib.splitK [c] 0 k ((x ++ c :: r).drop ((Lib.index (x ++ c :: r) [c]).toNat + [c].length)) from rfl, hi, if_neg h9]
   simp
  rw [e]
  obtain ⟨y, t, hy⟩ : ∃ y t, Lib.splitK [c] 0 k r = y :: t := by
   cases hq : Lib.splitK [c] 0 k r with
   | nil => exact absurd hq h1
   | cons y t => exact ⟨y, t, rfl⟩
  refine ⟨by simp, fun w hw => ?_, ?_⟩
  ·rcases List.mem_cons.1 hw with rfl | hw
   ·exact hx
   ·exact h2 w hw
  ·rw [hy, join_two, ← hy, h3]
theorem bs_of (x : ByteArray) : bs x.data.toList = x := rfl
theorem splitB_words (l : List UInt8) : Lib.splitB (bs [32]) 0 (Lib.countB (bs l) (bs [32])) (bs l) = (splitS 32 l).map bs := by
 have h := Lib.splitB_data (bs [32]) 0 (Lib.countB (bs l) (bs [32])) (bs l)
 have e1 : (bs [32]).data.toList = [32] := rfl
 have e2 : (bs l).data.toList = l := rfl
 have e3 : Lib.countB (bs l) (bs [32]) = l.count 32 := Lib.count_one 32 l
 rw [e1, e2, e3] at h
 obtain ⟨h1, h2, h3⟩ := splitK_good 32 (l.count 32) l rfl
 rw [split_eq h1 h2 h3, ← h, e3, List.map_map]
 conv => lhs; rw [← List.map_id (Lib.splitB (bs [32]) 0 (l.count 32) (bs l))]
 exact List.map_congr_left fun x _ => (bs_of x).symm
theorem splitB_len (l : List UInt8) : Lib.countB (bs l) (bs [32]) + 1 = (splitS 32 l).length := by
 have := congrArg List.length (splitB_words l)
 rw [Lib.splitB_all (bs [32]) (by decide) 0 _ (bs l) rfl, List.length_map] at this
 exact this
def pv (w : List UInt8) : Option Int := match Lib.parseIntB 64 w with
 | .ok v => some v
 | _ => none
def pw (w : List UInt8) : Int := (pv w).getD 0
theorem pv_fin : ∀ d : Fin 10, pv [ch d.val] = some (d.val : Int) := by decide
theorem pv_ch {d : Nat} (h : d < 10) : pv [ch d] = some (d : Int) := pv_fin ⟨d, h⟩
def iOk (l : List UInt8) : Bool := (splitS 32 l).all (fun w => (pv w).isSome) && (sigOkB ((splitS 32 l).map pw) && decide (sigT ((splitS 32 l).map pw) = l))
theorem good_pv {l : List UInt8} (h : goodS l = true) : (splitS 32 l).all (fun w => (pv w).isSome) = true ∧ (splitS 32 l).map pw = sigOut (splitS 32 l) := by
 obtain ⟨h1, h2⟩ := good_sig h
 obtain ⟨e, -, -⟩ := good_of h1 h2
 obtain ⟨-, hw, -⟩ := sig_words h1
 rw [← e] at hw
 refine ⟨?_, ?_⟩
 ·rw [List.all_eq_true]
  intro w hwm
  obtain ⟨d, hd, rfl⟩ := hw w hwm
  rw [pv_ch hd]
  rfl
 ·unfold sigOut
  apply List.map_congr_left
  intro w hwm
  obtain ⟨d, hd, rfl⟩ := hw w hwm
  rw [pw, pv_ch hd, (rd_ch hd).2]
  rfl
theorem iOk_good (l : List UInt8) : iOk l = goodS l := by
 cases hg : goodS l with
 | true =>
  obtain ⟨h1, h2⟩ := good_pv hg
  obtain ⟨h3, h4⟩ := good_sig hg
  have e : resS l = sigOut (splitS 32 l) := by unfold resS; rw [if_pos hg]
  unfold iOk
  rw [h1, h2, ← e, h3, h4]
  simp
 | false =>
  cases hi : iOk l with
  | false => rfl
  | true =>
   unfold iOk at hi
   simp only [Bool.and_eq_true, decide_eq_true_eq] at hi
   obtain ⟨-, h2, h3⟩ := hi
   rw [(good_of h2 h3).2.1] at hg
   exact absurd hg (by simp)
end splitB
end
end Go.Proofs.YtlaloakegajheabDoor
section
namespace Go.Proofs
open Go.Shelf
def Tryd.laysPI174_ren : Go.Shelf.Ren := ⟨fun | 174 => 80 | 247 => 95 | 245 => 96 | 287 => 117 | 279 => 118 | 280 => 119 | 281 => 120 | 282 => 121 | 321 => 133 | 322 => 134 | 316 => 135 | 171 => 137 | 205 => 136 | 243 => 143 | 246 => 92 | 283 => 111 | 284 => 112 | 285 => 113 | 286 => 114 | 129 => 129 | 317 => 128 | 318 => 130 | 319 => 131 | 320 => 132 | 337 => 141 | 338 => 142 | n => n, fun | 9 => 9 | 3 => 3 | 2 => 2 | 75 => 105 | 85 => 108 | 4 => 4 | 167 => 141 | 5 => 5 | 53 => 133 | 175 => 142 | 46 => 129 | 168 => 144 | 37 => 100 | 0 => 0 | 210 => 159 | 21 => 21 | 127 => 122 | 145 => 164 | 143 => 162 | 171 => 132 | 173 => 136 | 212 => 151 | 51 => 152 | 20 => 20 | 213 => 153 | 232 => 171 | 233 => 172 | 80 => 94 | n => n, fun | 15 => 2 | 16 => 3 | 17 => 1 | 18 => 6 | 19 => 7 | n => n⟩
theorem Tryd.laysPI174 : Go.Proofs.LaysC.n174 Tryd.prog Tryd.laysPI174_ren := {
 mixed := by kernel_rfl
 f129 := Tryd.func129.trans (congrArg some (by kernel_rfl))
 f171 := Tryd.func137.trans (congrArg some (by kernel_rfl))
 f174 := Tryd.func80.trans (congrArg some (by kernel_rfl))
 f205 := Tryd.func136.trans (congrArg some (by kernel_rfl))
 f243 := Tryd.func143.trans (congrArg some (by kernel_rfl))
 f245 := Tryd.func96.trans (congrArg some (by kernel_rfl))
 f246 := Tryd.func92.trans (congrArg some (by kernel_rfl))
 f247 := Tryd.func95.trans (congrArg some (by kernel_rfl))
 f279 := Tryd.func118.trans (congrArg some (by kernel_rfl))
 f280 := Tryd.func119.trans (congrArg some (by kernel_rfl))
 f281 := Tryd.func120.trans (congrArg some (by kernel_rfl))
 f282 := Tryd.func121.trans (congrArg some (by kernel_rfl))
 f283 := Tryd.func111.trans (congrArg some (by kernel_rfl))
 f284 := Tryd.func112.trans (congrArg some (by kernel_rfl))
 f285 := Tryd.func113.trans (congrArg some (by kernel_rfl))
 f286 := Tryd.func114.trans (congrArg some (by kernel_rfl))
 f287 := Tryd.func117.trans (congrArg some (by kernel_rfl))
 f316 := Tryd.func135.trans (congrArg some (by kernel_rfl))
 f317 := Tryd.func128.trans (congrArg some (by kernel_rfl))
 f318 := Tryd.func130.trans (congrArg some (by kernel_rfl))
 f319 := Tryd.func131.trans (congrArg some (by kernel_rfl))
 f320 := Tryd.func132.trans (congrArg some (by kernel_rfl))
 f321 := Tryd.func133.trans (congrArg some (by kernel_rfl))
 f322 := Tryd.func134.trans (congrArg some (by kernel_rfl))
 f337 := Tryd.func141.trans (congrArg some (by kernel_rfl))
 f338 := Tryd.func142.trans (congrArg some (by kernel_rfl))
 t0 := Tryd.underlying0
 a0 := Tryd.isAgg0
 z0 := Tryd.sizeOf0
 v0 := Tryd.zeroValue0
 t2 := Tryd.underlying2
 a2 := Tryd.isAgg2
 z2 := Tryd.sizeOf2
 v2 := Tryd.zeroValue2
 t3 := Tryd.underlying3
 a3 := Tryd.isAgg3
 z3 := Tryd.sizeOf3
 v3 := Tryd.zeroValue3
 t4 := Tryd.underlying4
 a4 := Tryd.isAgg4
 z4 := Tryd.sizeOf4
 v4 := Tryd.zeroValue4
 t5 := Tryd.underlying5
 a5 := Tryd.isAgg5
 z5 := Tryd.sizeOf5
 v5 := Tryd.zeroValue5
 t9 := Tryd.underlying9
 a9 := Tryd.isAgg9
 z9 := Tryd.sizeOf9
 v9 := Tryd.zeroValue9
 t20 := Tryd.underlying20
 a20 := Tryd.isAgg20
 z20 := Tryd.sizeOf20
 v20 := Tryd.zeroValue20
 t21 := Tryd.underlying21
 a21 := Tryd.isAgg21
 z21 := Tryd.sizeOf21
 v21 := Tryd.zeroValue21
 t37 := Tryd.underlying100
 a37 := Tryd.isAgg100
 z37 := Tryd.sizeOf100
 v37 := Tryd.zeroValue100
 t46 := Tryd.underlying129
 a46 := Tryd.isAgg129
 z46 := Tryd.sizeOf129
 v46 := Tryd.zeroValue129
 t51 := Tryd.underlying152
 a51 := Tryd.isAgg152
 z51 := Tryd.sizeOf152
 v51 := Tryd.zeroValue152
 t53 := Tryd.underlying133
 a53 := Tryd.isAgg133
 z53 := Tryd.sizeOf133
 v53 := Tryd.zeroValue133
 t75 := Tryd.underlying105
 a75 := Tryd.isAgg105
 z75 := Tryd.sizeOf105
 v75 := Tryd.zeroValue105
 t85 := Tryd.underlying108
 a85 := Tryd.isAgg108
 z85 := Tryd.sizeOf108
 v85 := Tryd.zeroValue108
 t127 := Tryd.underlying122
 a127 := Tryd.isAgg122
 z127 := Tryd.sizeOf122
 v127 := Tryd.zeroValue122
 t143 := Tryd.underlying162
 a143 := Tryd.isAgg162
 z143 := Tryd.sizeOf162
 v143 := Tryd.zeroValue162
 t145 := Tryd.underlying164
 a145 := Tryd.isAgg164
 z145 := Tryd.sizeOf164
 v145 := Tryd.zeroValue164
 t167 := Tryd.underlying141
 a167 := Tryd.isAgg141
 z167 := Tryd.sizeOf141
 v167 := Tryd.zeroValue141
 t168 := Tryd.underlying144
 a168 := Tryd.isAgg144
 z168 := Tryd.sizeOf144
 v168 := Tryd.zeroValue144
 t171 := Tryd.underlying132
 a171 := Tryd.isAgg132
 z171 := Tryd.sizeOf132
 v171 := Tryd.zeroValue132
 t173 := Tryd.underlying136
 a173 := Tryd.isAgg136
 z173 := Tryd.sizeOf136
 v173 := Tryd.zeroValue136
 t175 := Tryd.underlying142
 a175 := Tryd.isAgg142
 z175 := Tryd.sizeOf142
 v175 := Tryd.zeroValue142
 t210 := Tryd.underlying159
 a210 := Tryd.isAgg159
 z210 := Tryd.sizeOf159
 v210 := Tryd.zeroValue159
 t212 := Tryd.underlying151
 a212 := Tryd.isAgg151
 z212 := Tryd.sizeOf151
 v212 := Tryd.zeroValue151
 t213 := Tryd.underlying153
 a213 := Tryd.isAgg153
 z213 := Tryd.sizeOf153
 t232 := Tryd.underlying171
 a232 := Tryd.isAgg171
 z232 := Tryd.sizeOf171
 v232 := Tryd.zeroValue171
 t233 := Tryd.underlying172
 a233 := Tryd.isAgg172
 z233 := Tryd.sizeOf172
 v233 := Tryd.zeroValue172
 g15 := by kernel_rfl
 g16 := by kernel_rfl
 g17 := by kernel_rfl
 g18 := by kernel_rfl
 g19 := by kernel_rfl
 t80 := Tryd.underlying94
 a80 := Tryd.isAgg94
 z80 := Tryd.sizeOf94
 v80 := Tryd.zeroValue94
 i0 := by kernel_rfl
 i2 := by kernel_rfl
 i3 := by kernel_rfl
 i4 := by kernel_rfl
 i5 := by kernel_rfl
 i9 := by kernel_rfl
 i20 := by kernel_rfl
 i21 := by kernel_rfl
 i37 := by kernel_rfl
 i46 := by kernel_rfl
 i51 := by kernel_rfl
 i53 := by kernel_rfl
 i75 := by kernel_rfl
 i80 := by kernel_rfl
 i85 := by kernel_rfl
 i127 := by kernel_rfl
 i143 := by kernel_rfl
 i145 := by kernel_rfl
 i167 := by kernel_rfl
 i168 := by kernel_rfl
 i171 := by kernel_rfl
 i173 := by kernel_rfl
 i175 := by kernel_rfl
 i210 := by kernel_rfl
 i212 := by kernel_rfl
 i232 := by kernel_rfl
 i233 := by kernel_rfl
 m15 := by kernel_rfl
 m16 := by kernel_rfl
 m17 := by kernel_rfl
 m18 := by kernel_rfl
 m19 := by kernel_rfl
 c0 := by kernel_rfl
 c2 := by kernel_rfl
 c3 := by kernel_rfl
 c4 := by kernel_rfl
 c5 := by kernel_rfl
 c9 := by kernel_rfl
 c20 := by kernel_rfl
 c21 := by kernel_rfl
 c37 := by kernel_rfl
 c46 := by kernel_rfl
 c51 := by kernel_rfl
 c53 := by kernel_rfl
 c75 := by kernel_rfl
 c80 := by kernel_rfl
 c85 := by kernel_rfl
 c127 := by kernel_rfl
 c143 := by kernel_rfl
 c145 := by kernel_rfl
 c167 := by kernel_rfl
 c168 := by kernel_rfl
 c171 := by kernel_rfl
 c173 := by kernel_rfl
 c175 := by kernel_rfl
 c210 := by kernel_rfl
 c212 := by kernel_rfl
 c213 := by kernel_rfl
 c232 := by kernel_rfl
 c233 := by kernel_rfl }
open Go.RowKit Go.Lib in
theorem Tryd.strconv_ParseInt_ok (s : ByteArray) (hmax : s.size ≤ 9223372036854775806) (v : Int) (h : Lib.parseIntB 64 s.data.toList = .ok v) (w : World) :
  Calls Tryd.prog 80 #[.string s, .int .i64 10, .int .i64 64] w fun e w' => e = .returned (.tuple #[.int .i64 v, .nilIface]) ∧ (w' = w ∨ ∃ t, w' = Lib.bytesWorld w 5 t) := Any.strconv_ParseInt_10_at64_ok Tryd.laysPI174 s hmax v h w
open Go.RowKit Go.Lib in
theorem Tryd.strconv_ParseInt_range (s : ByteArray) (hlim : s.size ≤ 281474976710656) (h : Lib.parseIntB 64 s.data.toList = .range) (ev : Value) (w : World) (hv : w.cell? ⟨3, 0, none⟩ = some ev) (hev : ev = .nilIface ∨ ∃ te pe, ev = .iface te pe) :
  Calls Tryd.prog 80 #[.string s, .int .i64 10, .int .i64 64] w fun e w' => ∃ N, e = .returned (.tuple #[.int .i64 (Lib.intSat 64 s.data.toList), .iface 144 (.pointer (some ⟨N, 0, none⟩))]) ∧ w.heap.size ≤ N ∧ w'.heap[N]? = some (.cells #[.string ⟨#[80, 97, 114, 115, 101, 73, 110, 116]⟩, .string s, ev] 159 (0, 0)) ∧ RowKit.Below w.heap.size w w' := Any.strconv_ParseInt_10_at64_range Tryd.laysPI174 s hlim h ev w hv hev
end Go.Proofs
end
namespace Go.Proofs.YtlaloakegajheabDoor
section
open Go.Lib (hid)
namespace parsed
open Go.RowKit base ints marks app sym cursor text textL splitMath splitB
set_option maxRecDepth 100000
def Vs (w : World) : Prop := (∃ m, w.cell? ⟨0, 0, none⟩ = some (.int .i64 m)) ∧ (∃ ev, w.cell? ⟨2, 0, none⟩ = some ev ∧ (ev = .nilIface ∨ ∃ te pe, ev = .iface te pe)) ∧ (∃ ev, w.cell? ⟨3, 0, none⟩ = some ev ∧ (ev = .nilIface ∨ ∃ te pe, ev = .iface te pe))
theorem cell_next {w w' : World} {p : Addr} {v : Value} (h : w.cell? p = some v) (hb : Below w.heap.size w w') : w'.cell? p = some v := (hb.cell (p := p) (Lib.lt_of_cell h)).trans h
theorem Vs.next {w w' : World} (h : Vs w) (hb : Below w.heap.size w w') : Vs w' := by
 obtain ⟨⟨m, h1⟩, ⟨e1, h2, h3⟩, ⟨e2, h4, h5⟩⟩ := h
 exact ⟨⟨m, cell_next h1 hb⟩, ⟨e1, cell_next h2 hb, h3⟩, ⟨e2, cell_next h4 hb, h5⟩⟩
def AnsTn (w : World) (y : List UInt8) (e : Ending) (w' : World) : Prop := (∃ x, e = .returned (.tuple #[.int .i64 x, .bool (pv y).isSome]) ∧ ((pv y).isSome = true → x = pw y)) ∧ Below w.heap.size w w'
theorem parseInt (y : List UInt8) (w : World) (hv : Vs w) (hl : y.length ≤ 1048576) :
  Calls Tryd.prog 80 #[.string (bs y), .int .i64 10, .int .i64 64] w fun e w' => Below w.heap.size w w' ∧ ((∃ v, pv y = some v ∧ e = .returned (.tuple #[.int .i64 v, .nilIface])) ∨ (pv y = none ∧ ∃ x p, e = .returned (.tuple #[.int .i64 x, .iface 144 (.pointer p)]))) := by
 obtain ⟨-, ⟨e1, h2, h3⟩, ⟨e2, h4, h5⟩⟩ := hv
 have hs : (bs y).size ≤ 1048576 := by rw [bs_size]; exact hl
 cases hp : Lib.parseIntB 64 (bs y).data.toList
 ·rename_i v
  refine (Tryd.strconv_ParseInt_ok (bs y) (by omega) v hp w).mono ?_
  rintro e w' ⟨rfl, hw⟩
  refine ⟨?_, .inl ⟨v, ?_, rfl⟩⟩
  ·rcases hw with rfl | ⟨t, rfl⟩
   ·exact Below.refl _ _
   ·exact Lib.bytesWorld_below _ _ _
  ·unfold pv
   rw [show Lib.parseIntB 64 y = _ from hp]
 ·have h9 : Calls Tryd.prog 80 #[.string (bs y), .int .i64 10, .int .i64 64] w fun e w' => ∃ N, e = .returned (.tuple #[.int .i64 0, .iface 144 (.pointer (some ⟨N, 0, none⟩))]) ∧ w.heap.size ≤ N ∧ w'.heap[N]? = some (.cells #[.string ⟨#[80, 97, 114, 115, 101, 73, 110, 116]⟩, .string (bs y), e1] 159 (0, 0)) ∧ Below w.heap.size w w' := Any.strconv_ParseInt_10_at64_syntax Tryd.laysPI174 (bs y) (by omega) hp e1 w h2 h3
  refine h9.mono ?_
  rintro e w' ⟨N, rfl, -, -, hb⟩
  refine ⟨hb, .inr ⟨?_, _, _, rfl⟩⟩
  unfold pv
  rw [show Lib.parseIntB 64 y = _ from hp]
 ·refine (Tryd.strconv_ParseInt_range (bs y) (by omega) hp e2 w h4 h5).mono ?_
  rintro e w' ⟨N, rfl, -, -, hb⟩
  refine ⟨hb, .inr ⟨?_, _, _, rfl⟩⟩
  unfold pv
  rw [show Lib.parseIntB 64 y = _ from hp]
set_option maxHeartbeats 1000000 in
theorem textNumber (y : List UInt8) (w : World) (hv : Vs w) (hl : y.length ≤ 1048576) :
  Calls Tryd.prog 52 #[.string (bs y)] w (AnsTn w y) := by
 have LP := hid (parseInt y w hv hl)
 clear hv hl
 obtain ⟨T, hT⟩ : ∃ T, bs y = T := ⟨_, rfl⟩
 rw [hT] at LP ⊢
 clear hT
 go_enter Tryd.func52, Tryd.ntmps52
 go_wp2_with fail
 refine LP.out.mono ?_
 rintro e w1 ⟨bb, ⟨v, hp, rfl⟩ | ⟨hp, x, p, rfl⟩⟩
 ·have F := hid (show ∀ q, AnsTn w y (.returned (.tuple #[.int .i64 v, .bool true])) (w1.drewN q) from fun q => ⟨⟨v, by rw [hp]; rfl, fun _ => by rw [pw, hp]; rfl⟩, next_trans bb (below_drewN (Below.refl _ _) _)⟩)
  clear LP bb hp
  go_wp2
  go_quiet (fail)
  go_wp2
  go_ret2
  exact F.out _
 ·have F := hid (show ∀ q, AnsTn w y (.returned (.tuple #[.int .i64 x, .bool false])) (w1.drewN q) from fun q => ⟨⟨x, by rw [hp]; rfl, fun h => by rw [hp] at h; cases h⟩, next_trans bb (below_drewN (Below.refl _ _) _)⟩)
  clear LP bb hp
  go_wp2
  go_quiet (fail)
  go_wp2
  go_ret2
  exact F.out _
def pAll (ws : List (List UInt8)) : Bool := ws.all fun w => (pv w).isSome
def pL (ws : List (List UInt8)) : List Int := if pAll ws = true then ws.map pw else []
def AnsPd (w : World) (ws : List (List UInt8)) (e : Ending) (w' : World) : Prop := ∃ O on oc, e = .returned (.tuple #[.slice O on oc, .bool (pAll ws)]) ∧ Own w' w.heap.size (.slice O on oc) (pL ws) ∧ Below w.heap.size w w'
theorem pAll_no {ws : List (List UInt8)} {k : Nat} (hk : k < ws.length) (h : (pv (ws.getD k [])).isSome = false) : pAll ws = false := by
 unfold pAll
 rw [List.all_eq_false]
 exact ⟨ws.getD k [], by simp [List.getD, hk], by rw [h]; simp⟩
theorem pAll_take {ws : List (List UInt8)} {k : Nat} {y : List UInt8} (hk : k < ws.length) (e : ws.getD k [] = y) : pAll (ws.take (k + 1)) = (pAll (ws.take k) && (pv y).isSome) ∧ (ws.take (k + 1)).map pw = (ws.take k).map pw ++ [pw y] := by
 have e2 : ws[k] = y := by rw [← e]; simp [List.getD, hk]
 unfold pAll
 rw [List.take_succ_eq_append_getElem hk, e2]
 simp
def HeadPd (w : World) (n : Nat) (ws : List (List UInt8)) (out i : Value) (wr : World) : Prop :=
 ∃ (k : Nat) (O : Option Addr) (oc : Nat), k ≤ n ∧ i = .int .i64 k ∧ out = .slice O k oc ∧ pAll (ws.take k) = true ∧ Own wr w.heap.size (.slice O k oc) ((ws.take k).map pw) ∧ Below w.heap.size w wr
set_option maxHeartbeats 1000000 in
theorem parsed (P : Option Addr) (n pc : Nat) (ws : List (List UInt8)) (w : World) (hv : Vs w) (h : StrAt w w.heap.size P n ws) (hn : n ≤ 1048576) (hl : ∀ x ∈ ws, x.length ≤ 1048576) :
  Calls Tryd.prog 37 #[.func (.func 52) #[] #[], .slice P n pc] w (AnsPd w ws) := by
 have HG := hid (fun k => getD_le hl k)
 have HL := hid h.1
 have H := hid h
 have HV := hid hv
 have S0 := hid (show HeadPd w n ws (.slice none 0 0) (.int .i64 0) w from ⟨0, none, 0, Nat.zero_le _, rfl, rfl, rfl, Own.nil _ _, Below.refl _ _⟩)
 clear h hl hv
 go_enter Tryd.func37, Tryd.ntmps37
 go_wp2_with fail
 go_loopw [6, 13] (fun out i wr => HeadPd w n ws out i wr) (fun _ i _ => n - (intOf i).toNat)
 case atStart => exact S0.out
 case round =>
  clear S0
  obtain ⟨k, O, oc, hk, rfl, rfl, hall, ho, hb⟩ := hrel
  have hz := hb.size
  by_cases hlt : k < n
  ·obtain ⟨b, off, rfl, hbB, hc⟩ := (H.out.below hb).2 (by omega)
   have c0 := hc k hlt
   obtain ⟨y, hy⟩ : ∃ y, ws.getD k [] = y := ⟨_, rfl⟩
   have hyl : y.length ≤ 1048576 := by rw [← hy]; exact HG.out k
   have LT := hid (textNumber y wr (HV.out.next hb) hyl)
   obtain ⟨e1, e2⟩ := pAll_take (ws := ws) (k := k) (by rw [HL.out]; exact hlt) hy
   rw [hy] at c0
   rw [hall, Bool.true_and] at e1
   have i0 : (0 : Int) ≤ (k : Int) := by omega
   have i1 : (k : Int) < (n : Int) := by omega
   have HC := hid hc
   have HY := hid hy
   have E1 := hid e1
   have E2 := hid e2
   clear hc hy e1 e2 hall hyl
   go_wp2_with fail
   refine LT.out.mono ?_
   rintro e w1 ⟨⟨x, he, hx⟩, bb⟩
   have ho1 := ho.next bb
   have hb1 := next_trans hb bb
   have hz1 := hb1.size
   cases hs : (pv y).isSome with
   | false =>
    rw [hs] at he
    subst he
    have F : AnsPd w ws (.returned (.tuple #[.slice none 0 0, .bool false])) w1 := by
     have no : pAll ws = false := pAll_no (by rw [HL.out]; exact hlt) (by rw [HY.out]; exact hs)
     exact ⟨none, 0, 0, by rw [no], by unfold pL; rw [if_neg (by rw [no]; simp)]; exact Own.nil _ _, hb1⟩
    have HF := hid F
    clear F ho hb ho1 hb1 bb hs hx LT c0
    go_wp2
    go_ret2
    exact HF.out
   | true =>
    rw [hs] at he
    subst he
    have HX := hid (hx hs)
    have HS := hid hs
    clear ho hb bb hs hx LT c0
    go_wp2_with (at_builtin; refine app1 rfl _ _ rfl w.heap.size O k oc _ rfl (ho1.alloc _) w1.heap.size 1 x rfl ((Row.new _ _ _).cell 0) (by omega) (by simp; omega) ?_; intro O' oc' w2 ho2 b2)
    have S := hid (show HeadPd w n ws (.slice O' (k + 1) oc') (.int .i64 ((k : Int) + 1)) w2 from ⟨k + 1, O', oc', hlt, by simp, rfl, by rw [E1.out]; exact HS.out, by rw [E2.out, ← HX.out]; exact ho2, (hb1.alloc hb1.size _).trans b2⟩)
    clear ho1 hb1 ho2 b2
    go_wp2
    go_roundw
    case rel => exact S.out
    case measure => simp [intOf]; omega
  ·have hkn : k = n := by omega
   have i1 : ¬ (k : Int) < (n : Int) := by omega
   have e : ws.take k = ws := List.take_of_length_le (by rw [HL.out]; omega)
   rw [e] at ho hall
   have F : AnsPd w ws (.returned (.tuple #[.slice O k oc, .bool true])) wr := ⟨O, k, oc, by rw [hall], by unfold pL; rw [if_pos hall]; exact ho, hb⟩
   have HF := hid F
   clear F ho hb e hall hkn
   go_wp2
   go_ret2
   exact HF.out
end parsed
end
end Go.Proofs.YtlaloakegajheabDoor
section
namespace Go.Proofs
open Go.Shelf
def Tryd.lays146_ren : Go.Shelf.Ren := ⟨fun | 146 => 53 | 221 => 81 | 268 => 97 | 138 => 98 | 143 => 99 | 195 => 122 | 197 => 123 | 218 => 124 | 219 => 125 | 260 => 138 | 217 => 127 | 225 => 109 | 224 => 108 | 267 => 139 | 266 => 140 | 314 => 144 | n => n, fun | 9 => 9 | 31 => 63 | 3 => 3 | 4 => 4 | 0 => 0 | 105 => 148 | 21 => 21 | 5 => 5 | 46 => 129 | 119 => 165 | 139 => 168 | 138 => 167 | 146 => 169 | 51 => 152 | n => n, fun | 1 => 0 | 3 => 4 | 4 => 5 | n => n⟩
theorem Tryd.lays146 : Go.Proofs.Lays.n146 Tryd.prog Tryd.lays146_ren := {
 mixed := by kernel_rfl
 f138 := Tryd.func98.trans (congrArg some (by kernel_rfl))
 f143 := Tryd.func99.trans (congrArg some (by kernel_rfl))
 f146 := Tryd.func53.trans (congrArg some (by kernel_rfl))
 f195 := Tryd.func122.trans (congrArg some (by kernel_rfl))
 f197 := Tryd.func123.trans (congrArg some (by kernel_rfl))
 f217 := Tryd.func127.trans (congrArg some (by kernel_rfl))
 f218 := Tryd.func124.trans (congrArg some (by kernel_rfl))
 f219 := Tryd.func125.trans (congrArg some (by kernel_rfl))
 f221 := Tryd.func81.trans (congrArg some (by kernel_rfl))
 f224 := Tryd.func108.trans (congrArg some (by kernel_rfl))
 f225 := Tryd.func109.trans (congrArg some (by kernel_rfl))
 f260 := Tryd.func138.trans (congrArg some (by kernel_rfl))
 f266 := Tryd.func140.trans (congrArg some (by kernel_rfl))
 f267 := Tryd.func139.trans (congrArg some (by kernel_rfl))
 f268 := Tryd.func97.trans (congrArg some (by kernel_rfl))
 f314 := Tryd.func144.trans (congrArg some (by kernel_rfl))
 t0 := Tryd.underlying0
 a0 := Tryd.isAgg0
 z0 := Tryd.sizeOf0
 v0 := Tryd.zeroValue0
 t3 := Tryd.underlying3
 a3 := Tryd.isAgg3
 z3 := Tryd.sizeOf3
 v3 := Tryd.zeroValue3
 t4 := Tryd.underlying4
 a4 := Tryd.isAgg4
 z4 := Tryd.sizeOf4
 v4 := Tryd.zeroValue4
 t5 := Tryd.underlying5
 a5 := Tryd.isAgg5
 z5 := Tryd.sizeOf5
 v5 := Tryd.zeroValue5
 t9 := Tryd.underlying9
 a9 := Tryd.isAgg9
 z9 := Tryd.sizeOf9
 v9 := Tryd.zeroValue9
 t21 := Tryd.underlying21
 a21 := Tryd.isAgg21
 z21 := Tryd.sizeOf21
 v21 := Tryd.zeroValue21
 t31 := Tryd.underlying63
 a31 := Tryd.isAgg63
 z31 := Tryd.sizeOf63
 v31 := Tryd.zeroValue63
 t46 := Tryd.underlying129
 a46 := Tryd.isAgg129
 z46 := Tryd.sizeOf129
 v46 := Tryd.zeroValue129
 t51 := Tryd.underlying152
 a51 := Tryd.isAgg152
 z51 := Tryd.sizeOf152
 v51 := Tryd.zeroValue152
 t105 := Tryd.underlying148
 a105 := Tryd.isAgg148
 z105 := Tryd.sizeOf148
 v105 := Tryd.zeroValue148
 t119 := Tryd.underlying165
 a119 := Tryd.isAgg165
 z119 := Tryd.sizeOf165
 t138 := Tryd.underlying167
 a138 := Tryd.isAgg167
 z138 := Tryd.sizeOf167
 v138 := Tryd.zeroValue167
 t139 := Tryd.underlying168
 a139 := Tryd.isAgg168
 z139 := Tryd.sizeOf168
 v139 := Tryd.zeroValue168
 t146 := Tryd.underlying169
 a146 := Tryd.isAgg169
 z146 := Tryd.sizeOf169
 v146 := Tryd.zeroValue169
 g1 := by kernel_rfl
 g3 := by kernel_rfl
 g4 := by kernel_rfl }
open Go.RowKit Go.Lib in
theorem Tryd.strings_Split (s sep : ByteArray) (m : Int) (w : World) (hs : s.size < 4294967281) (hm : w.cell? ⟨0, 0, none⟩ = some (.int .i64 m)) (h1 : 1 ≤ sep.size) :
  Calls Tryd.prog 53 #[.string s, .string sep] w fun e w' =>
   e = .returned (.slice (some ⟨w.heap.size, 0, none⟩) (Lib.countB s sep + 1) (Lib.countB s sep + 1)) ∧ w' = w.alloc (.cells ((Lib.splitB sep 0 (Lib.countB s sep) s).map Value.string).toArray 9) := Any.strings_Split Tryd.lays146 (by kernel_rfl) s sep m w hs hm h1
end Go.Proofs
end
namespace Go.Proofs.YtlaloakegajheabDoor
section
open Go.Lib (hid)
namespace textSigImpl
open Go.RowKit base ints sig term termOk marks app sym cursor text textL sigText splitMath splitSpec textSigSpec splitB parsed
set_option maxRecDepth 100000
theorem stS_each (c : UInt8) (l : List UInt8) : ∀ i, ∀ w ∈ (stS c l i).1, w.length ≤ l.length
 | 0, w, h => by cases h
 | i + 1, w, h => by
  have ih := stS_each c l i
  have e : stS c l (i + 1) = if l.getD i 0 = c then ((stS c l i).1 ++ [(l.drop (stS c l i).2).take (i - (stS c l i).2)], i + 1) else stS c l i := rfl
  rw [e] at h
  split at h
  ·rcases List.mem_append.1 h with h | h
   ·exact ih w h
   ·rw [List.mem_singleton.1 h]; simp; omega
  ·exact ih w h
theorem split_each (c : UInt8) (l : List UInt8) : ∀ w ∈ splitS c l, w.length ≤ l.length := by
 intro w h
 rcases List.mem_append.1 h with h | h
 ·exact stS_each c l _ w h
 ·rw [List.mem_singleton.1 h]; simp
theorem split_ans (l : List UInt8) (W : World) (hv : Vs W) (hN : l.length ≤ 400) :
  Calls Tryd.prog 53 #[.string (bs l), .string (bs [32])] W fun e w' => e = .returned (.slice (some ⟨W.heap.size, 0, none⟩) (splitS 32 l).length (splitS 32 l).length) ∧ StrAt w' w'.heap.size (some ⟨W.heap.size, 0, none⟩) (splitS 32 l).length (splitS 32 l) ∧ Below W.heap.size W w' := by
 obtain ⟨⟨m, hm⟩, -, -⟩ := hv
 refine (Tryd.strings_Split (bs l) (bs [32]) m W (by rw [bs_size]; omega) hm (by decide)).mono ?_
 rintro e w' ⟨rfl, rfl⟩
 rw [splitB_len, splitB_words]
 refine ⟨rfl, ⟨rfl, fun _ => ⟨W.heap.size, 0, rfl, by simp, fun j hj => ?_⟩⟩, (Below.refl _ _).alloc (Nat.le_refl _) _⟩
 rw [Nat.zero_add, (Row.new W 9 _).cell j]
 simp [List.getD, hj]
theorem bs_inj {a b : List UInt8} (h : bs a = bs b) : a = b := by
 have := congrArg (fun x => x.data.toList) h
 exact this
theorem bs_neq {a b : List UInt8} (h : ¬ a = b) : ((bs a).toList == (bs b).toList) = false := by
 rw [beq_eq_false_iff_ne, ByteArray.toList_eq, ByteArray.toList_eq]
 exact fun e => h (bs_inj (congrArg (fun x => (⟨x.toArray⟩ : ByteArray)) e))
theorem impl_ts {l : List UInt8} (hN : l.length ≤ 400) : tsB l = (pAll (splitS 32 l) && (sigOkB ((splitS 32 l).map pw) && decide (sigT ((splitS 32 l).map pw) = l))) := by
 unfold tsB
 rw [decide_eq_true hN, Bool.true_and, ← iOk_good]
 rfl
theorem impl_tl {l : List UInt8} (h : tsB l = true) : tsL l = (splitS 32 l).map pw := by
 unfold tsL
 rw [if_pos h]
 unfold tsB at h
 rw [Bool.and_eq_true] at h
 exact (good_pv h.2).2.symm
set_option maxHeartbeats 1000000 in
theorem implTextSig0 (l : List UInt8) (w : World) (hv : Vs w) :
  Calls Tryd.prog 25 #[.string (bs l)] w (AnsTS w l) := by
 obtain ⟨T, hT⟩ : ∃ T, bs l = T := ⟨_, rfl⟩
 obtain ⟨N, hN⟩ : ∃ N, l.length = N := ⟨_, rfl⟩
 have hlen : ∀ v : World, (Builtin.len_ #[9] 3 #[.string T]).run Tryd.prog v = .ok (.int .i64 (N : Int)) v := by
  intro v
  rw [run_len_string (P := Tryd.prog) v 9 3 T Tryd.underlying9, ← hT, bs_size, hN]
  rfl
 rw [hT]
 have HT := hid hT
 have HN := hid hN
 have HV := hid hv
 clear hT hv
 by_cases hL : N ≤ 400
 ·obtain ⟨W, hW⟩ : ∃ W, W = w.alloc (.cells #[.slice none 0 0] 28) := ⟨_, rfl⟩
  have r0 : Row W w.heap.size 28 #[.slice none 0 0] := by rw [hW]; exact Row.new _ _ _
  have bel : Below w.heap.size w W := by rw [hW]; exact (Below.refl _ _).alloc (Nat.le_refl _) _
  have a1 : ¬ (400 : Int) < (N : Int) := by omega
  have LS := hid (split_ans l W (HV.out.next bel) (by rw [hN]; exact hL))
  rw [HT.out] at LS
  have HW := hid hW
  have HTS := hid (impl_ts (l := l) (by rw [hN]; exact hL))
  have hlen2 := split_len 32 l
  have HE := hid (fun x (hx : x ∈ splitS 32 l) => (show x.length ≤ 1048576 by have := split_each 32 l x hx; omega))
  obtain ⟨ws, hws⟩ : ∃ z, splitS 32 l = z := ⟨_, rfl⟩
  have HTL := hid (show tsB l = true → tsL l = ws.map pw from fun h => by rw [impl_tl h, hws])
  rw [hws] at LS HTS hlen2 HE
  obtain ⟨n, hn⟩ : ∃ z, ws.length = z := ⟨_, rfl⟩
  rw [hn] at LS hlen2
  have hn401 : n ≤ 401 := by omega
  have HN4 := hid hn
  clear hN hW hws hlen2 hn
  go_enter Tryd.func25, Tryd.ntmps25
  go_wp2_with fail
  rw [← HW.out]
  refine LS.out.mono ?_
  rintro e w1 ⟨rfl, hS, bb⟩
  have LP := hid (parsed _ n n ws w1 ((HV.out.next bel).next bb) hS (by omega) HE.out)
  replace r0 := r0.next bb
  have z01 := r0.lt
  replace bel := next_trans bel bb
  clear bb hS LS
  go_wp2_with fail
  refine LP.out.mono ?_
  rintro e w2 ⟨O, on, oc, he, oO, bb⟩
  replace r0 := r0.next bb
  have z12 := bb.size
  have zw1 := bel.size
  replace bel := next_trans bel bb
  clear bb LP
  obtain ⟨W3, hW3⟩ : ∃ W3, W3 = w2.alloc (.cells #[.slice O on oc] 28) := ⟨_, rfl⟩
  have r1 : Row W3 w2.heap.size 28 #[.slice O on oc] := by rw [hW3]; exact Row.new _ _ _
  have b3 : Below w2.heap.size w2 W3 := by rw [hW3]; exact (Below.refl _ _).alloc (Nat.le_refl _) _
  have HW3 := hid hW3
  replace r0 := r0.next b3
  replace oO := oO.next b3
  replace bel := next_trans bel b3
  have z23 := b3.size
  have c0 : W3.cell? ⟨w.heap.size, 0, none⟩ = some (.slice none 0 0) := r0.cell 0
  have f0 : W3.frozen? ⟨w.heap.size, 0, none⟩ = false := r0.free 0
  have c1 : W3.cell? ⟨w2.heap.size, 0, none⟩ = some (.slice O on oc) := r1.cell 0
  clear hW3 b3
  cases hall : pAll ws with
  | false =>
   rw [hall] at he
   subst he
   have no : tsB l = false := by rw [HTS.out, hall, Bool.false_and]
   have F1 := hid (ansTS_no no bel)
   have F2 := hid (ansTS_no no (bel.setCell (p := ⟨w.heap.size, 0, none⟩) (Nat.le_refl _) (.slice none 0 0)))
   clear no hall r0 r1 oO bel
   rw [HW3.out] at c0 f0 F1 F2
   clear c1 HW3
   go_wp2
   first
    | exact bodyPost_ret (v := .tuple #[.agg #[.slice none 0 0], .bool false]) (by simp [results, Tryd.results25, go_sem, c0]) rfl F1.out
    | exact bodyPost_ret (v := .tuple #[.agg #[.slice none 0 0], .bool false]) (by simp [results, Tryd.results25, go_sem, c0]) rfl F2.out
  | true =>
   rw [hall] at he
   subst he
   rw [show pL ws = ws.map pw by unfold pL; rw [if_pos hall]] at oO
   rw [hall, Bool.true_and] at HTS
   obtain ⟨vs, hvs⟩ : ∃ z, ws.map pw = z := ⟨_, rfl⟩
   rw [hvs] at oO HTS HTL
   have hon : on = vs.length := Own.len oO
   have hon9 : on ≤ 1048576 := by
    have h8 := HN4.out
    rw [hon, ← hvs, List.length_map, h8]
    omega
   have LK := hid (implSigOk O on oc vs W3 oO.seg hon9)
   clear hvs hall c0 f0 c1 hon
   go_wp2_with fail
   rw [← HW3.out]
   refine LK.out.mono ?_
   rintro e w3 ⟨he, bb⟩
   replace r0 := r0.next bb
   replace r1 := r1.next bb
   replace oO := oO.next bb
   replace bel := next_trans bel bb
   have z3 := bb.size
   have c0 : w3.cell? ⟨w.heap.size, 0, none⟩ = some (.slice none 0 0) := r0.cell 0
   have f0 : w3.frozen? ⟨w.heap.size, 0, none⟩ = false := r0.free 0
   have c1 : w3.cell? ⟨w2.heap.size, 0, none⟩ = some (.slice O on oc) := r1.cell 0
   clear bb LK
   cases ok : sigOkB vs with
   | false =>
    rw [ok] at he
    subst he
    have no : tsB l = false := by rw [HTS.out, ok, Bool.false_and]
    have F1 := hid (ansTS_no no bel)
    have F2 := hid (ansTS_no no (bel.setCell (p := ⟨w.heap.size, 0, none⟩) (Nat.le_refl _) (.slice none 0 0)))
    clear no ok r0 r1 oO bel
    go_wp2
    first
     | exact bodyPost_ret (v := .tuple #[.agg #[.slice none 0 0], .bool false]) (by simp [results, Tryd.results25, go_sem, c0]) rfl F1.out
     | exact bodyPost_ret (v := .tuple #[.agg #[.slice none 0 0], .bool false]) (by simp [results, Tryd.results25, go_sem, c0]) rfl F2.out
   | true =>
    rw [ok] at he
    subst he
    have OK := hid ok
    have LX := hid (implSigText0 O on oc vs w3 oO.seg hon9)
    clear ok
    go_wp2_with fail
    refine LX.out.mono ?_
    rintro e w4 ⟨rfl, bb⟩
    replace r0 := r0.next bb
    replace r1 := r1.next bb
    replace oO := oO.next bb
    replace bel := next_trans bel bb
    have z4 := bb.size
    clear c0 f0 c1
    have c0 : w4.cell? ⟨w.heap.size, 0, none⟩ = some (.slice none 0 0) := r0.cell 0
    have f0 : w4.frozen? ⟨w.heap.size, 0, none⟩ = false := r0.free 0
    have c1 : w4.cell? ⟨w2.heap.size, 0, none⟩ = some (.slice O on oc) := r1.cell 0
    clear bb LX
    by_cases hq : sigT vs = l
    ·have yes : tsB l = true := by rw [HTS.out, OK.out, decide_eq_true hq]; rfl
     have hTT : (T != T) = false := str_ne T
     rw [hq, HT.out]
     have F : AnsTS w l (.returned (.tuple #[.agg #[.slice O on oc], .bool true])) (w4.setCell ⟨w.heap.size, 0, none⟩ (.slice O on oc)) :=
      ⟨O, on, oc, by rw [yes], by
       rw [HTL.out yes]
       exact Own.lower (base := w1.heap.size) (Own.far (r := some w.heap.size) oO (grown_put (World.grownBy.refl _ _) 0 _) (fun z hz => by injection hz with hz; omega)) (by omega), bel.setCell (Nat.le_refl _) _⟩
     have HF := hid F
     clear F oO bel r0 r1 yes hq
     go_wp2
     exact bodyPost_ret (v := .tuple #[.agg #[.slice O on oc], .bool true]) (by simp [results, Tryd.results25, go_sem, c0]) rfl HF.out
    ·have no : tsB l = false := by rw [HTS.out, decide_eq_false hq, Bool.and_false]
     have hTT : ((bs (sigT vs)).toList == T.toList) = false := by rw [← HT.out]; exact bs_neq hq
     obtain ⟨V, hV⟩ : ∃ V, bs (sigT vs) = V := ⟨_, rfl⟩
     rw [hV] at hTT ⊢
     have F1 := hid (ansTS_no no bel)
     have F2 := hid (ansTS_no no (bel.setCell (p := ⟨w.heap.size, 0, none⟩) (Nat.le_refl _) (.slice none 0 0)))
     clear no hq r0 r1 oO bel hV
     go_wp2
     first
      | exact bodyPost_ret (v := .tuple #[.agg #[.slice none 0 0], .bool false]) (by simp [results, Tryd.results25, go_sem, c0]) rfl F1.out
      | exact bodyPost_ret (v := .tuple #[.agg #[.slice none 0 0], .bool false]) (by simp [results, Tryd.results25, go_sem, c0]) rfl F2.out
 ·have a1 : (400 : Int) < (N : Int) := by omega
  have no : tsB l = false := by unfold tsB; rw [HN.out, decide_eq_false hL, Bool.false_and]
  have F := hid (ansTS_no no (show Below w.heap.size w (w.alloc (.cells #[.slice none 0 0] 28)) from (Below.refl _ _).alloc (Nat.le_refl _) _))
  clear no hN hL
  go_enter Tryd.func25, Tryd.ntmps25
  go_wp2
  exact bodyPost_ret (v := .tuple #[.agg #[.slice none 0 0], .bool false]) (by simp [results, Tryd.results25, go_sem]) rfl F.out
end textSigImpl
end
section
namespace textSigX
open Go.RowKit base ints sig cursor marks app sym appAt segs segsHelp segsMark kinds shape kindsR text textL sigText splitMath splitSpec textSigSpec parsed textSigImpl
set_option maxRecDepth 100000
set_option maxHeartbeats 2000000 in
theorem heldK_Sig (v0 : Value) (d : Dat sSig) (k : Int) (w : World) (h : Rd w w.heap.size sSig [v0] (mkv sSig k d)) (hz : sz sSig d ≤ 1048576) (hk0 : 0 ≤ k) (hk : k + (cntv sSig d : Int) ≤ 1099511627776) :
  Calls Tryd.prog 26 #[.agg #[v0], .int .i64 k] w (AnsHeld w (k + (cntv sSig d : Int))) := by
 have g0 := h
 have G0 : Hid (Rd w w.heap.size sI [v0] (mkv sI k d)) := Lib.hid g0
 obtain ⟨z0, hz0⟩ : ∃ z, cntv sI d = z := ⟨_, rfl⟩
 have hc : (cntv sSig d : Int) = (z0 : Int) := by rw [← hz0]; try rfl
 have Z0 : Hid (sz sI d ≤ 1048576) := Lib.hid (hz)
 have HZ0 := Lib.hid hz0
 rw [hc] at hk ⊢
 have r := Row.new w 28 #[v0]
 have bel : Below w.heap.size w (w.alloc (.cells #[v0] 28)) := (Below.refl _ _).alloc (Nat.le_refl _) _
 obtain ⟨W, hW⟩ : ∃ W, W = w.alloc (.cells #[v0] 28) := ⟨_, rfl⟩
 rw [← hW] at r bel
 have HW := Lib.hid hW
 clear hW h hz hc g0 hz0
 go_enter Tryd.func26, Tryd.ntmps26
 go_wp2_with fail
 rw [← HW.out]
 refine (heldK_ints _ d k W (by refine (G0.out.next bel)) Z0.out (by omega) (by omega)).mono ?_
 rintro e w1 ⟨he, bb⟩
 rw [HZ0.out] at he
 replace r := r.next bb
 replace bel := next_trans bel bb
 clear bb
 obtain ⟨k0, hk0⟩ : ∃ l, k + (z0 : Int) = l := ⟨_, rfl⟩
 have he2 : e = .returned (.int .i64 k0) := by rw [he]; exact congrArg (fun z => Ending.returned (.int .i64 z)) (by omega)
 clear he
 have l0 : 0 ≤ k0 := by omega
 have u0 : k0  ≤ 1099511627776 := by omega
 subst he2
 have HK0 := Lib.hid hk0
 clear hk0
 have F : AnsHeld w (k + ((z0 : Int))) (.returned (.int .i64 k0)) w1 := ⟨congrArg (fun z => Ending.returned (.int .i64 z)) (by have := HK0.out; omega), bel⟩
 have HF := Lib.hid F
 clear F r bel
 go_wp2
 go_ret
 exact HF.out
theorem ansTS_x {w : World} {l : List UInt8} {e : Ending} {w' : World} (h : AnsTS w l e w') : ∃ A n c, e = .returned (.tuple #[.agg #[.slice A n c], .bool (tsB l)]) ∧ Owned w' w.heap.size w'.heap.size sSig [.slice A n c] (tsL l) ∧ Below w.heap.size w w' := by
 obtain ⟨A, n, c, he, ho, hb⟩ := h
 exact ⟨A, n, c, he, ow_ints.2 (Ownd.of_own ho), hb⟩
theorem specTextSig (l : List UInt8) (w : World) (_ : Vs w) :
  Calls Tryd.prog 24 #[.string (bs l)] w fun e w' => ∃ A n c, e = .returned (.tuple #[.agg #[.slice A n c], .bool (tsB l)]) ∧ Owned w' w.heap.size w'.heap.size sSig [.slice A n c] (tsL l) ∧ Below w.heap.size w w' :=
 (specTextSig0 l w).mono fun _ _ h => ansTS_x h
theorem implTextSig (l : List UInt8) (w : World) (hv : Vs w) :
  Calls Tryd.prog 25 #[.string (bs l)] w fun e w' => ∃ A n c, e = .returned (.tuple #[.agg #[.slice A n c], .bool (tsB l)]) ∧ Owned w' w.heap.size w'.heap.size sSig [.slice A n c] (tsL l) ∧ Below w.heap.size w w' :=
 (implTextSig0 l w hv).mono fun _ _ h => ansTS_x h
theorem ts_sz (l : List UInt8) : sz sSig (tsL l) ≤ 1048576 := by
 rw [sz_ints]
 unfold tsL
 split
 ·rename_i h
  unfold tsB at h
  rw [Bool.and_eq_true, decide_eq_true_eq] at h
  have := split_len 32 l
  unfold sigOut
  rw [List.length_map]
  omega
 ·simp
end textSigX
end
section
namespace wTextSig
open Go.RowKit base ints sig cursor marks app sym appAt segs segsHelp segsMark kinds shape kindsR text textL sigText splitMath splitSpec textSigSpec parsed textSigImpl textSigX
set_option maxRecDepth 100000
set_option maxHeartbeats 8000000 in
theorem law (l0 : List UInt8) (w : World) (hv : Vs w) :
  Calls Tryd.prog 6 #[.string (bs l0)] w (Fine w) := by
 obtain ⟨W, hW⟩ : ∃ W, W = w := ⟨_, rfl⟩
 have bW : Below w.heap.size w W := by rw [hW]; exact Below.refl w.heap.size w
 have HV0 := Lib.hid hv
 clear hv
 subst hW
 obtain ⟨v, hv⟩ : ∃ v, tsB l0 = v := ⟨_, rfl⟩
 have HV := Lib.hid hv
 clear hv
 have ev : (v != v) = false := by simp
 by_cases hs0 : l0.length ≤ 1048576
 case neg =>
  have hs : (1048576 : Int) < ((bs l0).size : Int) := by rw [bs_size]; omega
  go_enter Tryd.func6, Tryd.ntmps6
  go_wp2
  go_ret
  exact ⟨rfl, bW⟩
 have hq0 : ¬ (1048576 : Int) < ((bs l0).size : Int) := by rw [bs_size]; omega
 go_enter Tryd.func6, Tryd.ntmps6
 go_wp2_with fail
 have bel := Below.refl W.heap.size W
 have hlen : sz sSig (tsL l0) ≤ 1048576 := ts_sz l0
 obtain ⟨ys, hys⟩ : ∃ ys, tsL l0 = ys := ⟨_, rfl⟩
 rw [hys] at hlen
 have HY := Lib.hid hys
 clear hys
 replace hlen := Lib.hid hlen
 obtain ⟨cg, hcg⟩ : ∃ z, cntv sSig ys = z := ⟨_, rfl⟩
 have hcG : cg ≤ 1 * 1048576 := by have j1 := cntv_le sSig ys; have j2 := hlen.out; have j3 : wd sSig = 1 := rfl; rw [hcg, j3] at j1; omega
 have HCG := Lib.hid hcg
 clear hcg
 refine (specTextSig  l0 _   (HV0.out.next bel)).mono ?_
 rintro e w1 ⟨wA0, wn0, wc0, he, o0, bb⟩
 rw [HV.out] at he
 rw [HY.out] at o0
 subst he
 replace bel := next_trans bel bb
 have zw1 := bb.size
 clear bb
 have sw := o0.rd
 clear o0
 go_wp2_with fail
 obtain ⟨w2, hw⟩ : ∃ W, W = w1.alloc (.cells #[.slice wA0 wn0 wc0] 28) := ⟨_, rfl⟩
 rw [← hw]
 have rw : Row w2 w1.heap.size 28 #[.slice wA0 wn0 wc0] := by rw [hw]; exact Row.new _ _ _
 have bb : Below w1.heap.size w1 w2 := by rw [hw]; exact (Below.refl _ _).alloc (Nat.le_refl _) _
 have yrw : w1.heap.size < w2.heap.size := by rw [hw]; simp
 clear hw
 replace sw := sw.next bb
 replace bel := next_trans bel bb
 have zw2 := bb.size
 clear bb
 have belw := Below.refl w2.heap.size w2
 have cw_0 : w2.cell? ⟨w1.heap.size, 0, none⟩ = some (.slice wA0 wn0 wc0) := (rw.next belw).cell 0
 refine (implTextSig  l0 _   (HV0.out.next bel)).mono ?_
 rintro e w3 ⟨gA0, gn0, gc0, he, o0, bb⟩
 rw [HV.out] at he
 rw [HY.out] at o0
 subst he
 replace bel := next_trans bel bb
 replace belw := next_trans belw bb
 have zw3 := bb.size
 clear bb
 have og := o0
 clear o0
 clear cw_0
 have cw_0 : w3.cell? ⟨w1.heap.size, 0, none⟩ = some (.slice wA0 wn0 wc0) := (rw.next belw).cell 0
 have dw_0 : (w3.alloc (.cells #[.slice gA0 gn0 gc0] 28)).cell? ⟨w1.heap.size, 0, none⟩ = some (.slice wA0 wn0 wc0) := ((rw.next belw).alloc _).cell 0
 go_wp2_with fail
 obtain ⟨w4, hw⟩ : ∃ W, W = w3.alloc (.cells #[.slice gA0 gn0 gc0] 28) := ⟨_, rfl⟩
 rw [← hw]
 have rg : Row w4 w3.heap.size 28 #[.slice gA0 gn0 gc0] := by rw [hw]; exact Row.new _ _ _
 have bb : Below w3.heap.size w3 w4 := by rw [hw]; exact (Below.refl _ _).alloc (Nat.le_refl _) _
 have yrg : w3.heap.size < w4.heap.size := by rw [hw]; simp
 clear hw
 replace og := og.next bb
 replace bel := next_trans bel bb
 replace belw := next_trans belw bb
 have zw4 := bb.size
 clear bb
 clear dw_0
 clear cw_0
 have cw_0 : w4.cell? ⟨w1.heap.size, 0, none⟩ = some (.slice wA0 wn0 wc0) := (rw.next belw).cell 0
 have cg_0 : w4.cell? ⟨w3.heap.size, 0, none⟩ = some (.slice gA0 gn0 gc0) := (rg).cell 0
 refine (eqK_Sig _ _ ys _ og.rd (sw.next belw) hlen.out).mono ?_
 rintro e w5 ⟨rfl, bb⟩
 replace og := og.next bb
 replace rg := rg.next bb
 replace bel := next_trans bel bb
 replace belw := next_trans belw bb
 have zw5 := bb.size
 clear bb
 clear cw_0 cg_0
 have cw_0 : w5.cell? ⟨w1.heap.size, 0, none⟩ = some (.slice wA0 wn0 wc0) := (rw.next belw).cell 0
 have cg_0 : w5.cell? ⟨w3.heap.size, 0, none⟩ = some (.slice gA0 gn0 gc0) := (rg).cell 0
 clear cw_0 cg_0
 have cw_0 : w5.cell? ⟨w1.heap.size, 0, none⟩ = some (.slice wA0 wn0 wc0) := (rw.next belw).cell 0
 have cg_0 : w5.cell? ⟨w3.heap.size, 0, none⟩ = some (.slice gA0 gn0 gc0) := (rg).cell 0
 obtain ⟨Fog, fog, nog, bog⟩ := og
 go_wp2_with fail
 refine (markK_Sig _ ys (1) Fog _ fog nog hlen.out (by omega) (by rw [HCG.out]; omega)).mono ?_
 rintro e w6 ⟨he, omog, onog⟩
 rw [HCG.out] at he
 have bt := onog.btw bog
 clear onog
 have om : Owned w6 (w2.heap.size) (w3.heap.size) sSig [.slice gA0 gn0 gc0] (mkv sSig 1 ys) := ⟨Fog, omog, nog, bog⟩
 clear omog fog nog bog
 subst he
 replace rg := Row.btw rg bt (by omega)
 replace bel := Below.btw bel bt (by omega) bel.size
 replace belw := Below.btw belw bt (by omega) belw.size
 have zw6 := bt.size
 clear bt
 clear cw_0 cg_0
 have cw_0 : w6.cell? ⟨w1.heap.size, 0, none⟩ = some (.slice wA0 wn0 wc0) := (rw.next belw).cell 0
 have cg_0 : w6.cell? ⟨w3.heap.size, 0, none⟩ = some (.slice gA0 gn0 gc0) := (rg).cell 0
 go_wp2_with fail
 refine (heldK_Sig _ ys 1 _ om.rd hlen.out (by omega) (by rw [HCG.out]; omega)).mono ?_
 rintro e w7 ⟨he, bb⟩
 rw [HCG.out] at he
 subst he
 replace rg := rg.next bb
 replace om := om.next bb
 replace bel := next_trans bel bb
 replace belw := next_trans belw bb
 have zw7 := bb.size
 clear bb
 clear cw_0 cg_0
 have cw_0 : w7.cell? ⟨w1.heap.size, 0, none⟩ = some (.slice wA0 wn0 wc0) := (rw.next belw).cell 0
 have cg_0 : w7.cell? ⟨w3.heap.size, 0, none⟩ = some (.slice gA0 gn0 gc0) := (rg).cell 0
 go_wp2_with fail
 refine (implTextSig  l0 _   (HV0.out.next bel)).mono ?_
 rintro e w8 ⟨hA0, hn0, hc0, he, o0, bb⟩
 rw [HV.out] at he
 rw [HY.out] at o0
 subst he
 replace rg := rg.next bb
 replace om := om.next bb
 replace bel := next_trans bel bb
 replace belw := next_trans belw bb
 have zw8 := bb.size
 clear bb
 have sh := o0.rd
 clear o0
 clear cw_0 cg_0
 have cw_0 : w8.cell? ⟨w1.heap.size, 0, none⟩ = some (.slice wA0 wn0 wc0) := (rw.next belw).cell 0
 have cg_0 : w8.cell? ⟨w3.heap.size, 0, none⟩ = some (.slice gA0 gn0 gc0) := (rg).cell 0
 have dw_0 : (w8.alloc (.cells #[.slice hA0 hn0 hc0] 28)).cell? ⟨w1.heap.size, 0, none⟩ = some (.slice wA0 wn0 wc0) := ((rw.next belw).alloc _).cell 0
 have dg_0 : (w8.alloc (.cells #[.slice hA0 hn0 hc0] 28)).cell? ⟨w3.heap.size, 0, none⟩ = some (.slice gA0 gn0 gc0) := ((rg).alloc _).cell 0
 go_wp2_with fail
 obtain ⟨w9, hw⟩ : ∃ W, W = w8.alloc (.cells #[.slice hA0 hn0 hc0] 28) := ⟨_, rfl⟩
 rw [← hw]
 have rh : Row w9 w8.heap.size 28 #[.slice hA0 hn0 hc0] := by rw [hw]; exact Row.new _ _ _
 have bb : Below w8.heap.size w8 w9 := by rw [hw]; exact (Below.refl _ _).alloc (Nat.le_refl _) _
 have yrh : w8.heap.size < w9.heap.size := by rw [hw]; simp
 clear hw
 replace rg := rg.next bb
 replace om := om.next bb
 replace sh := sh.next bb
 replace bel := next_trans bel bb
 replace belw := next_trans belw bb
 have zw9 := bb.size
 clear bb
 clear dw_0 dg_0
 have belh := Below.refl w9.heap.size w9
 clear cw_0 cg_0
 have cw_0 : w9.cell? ⟨w1.heap.size, 0, none⟩ = some (.slice wA0 wn0 wc0) := (rw.next belw).cell 0
 have cg_0 : w9.cell? ⟨w3.heap.size, 0, none⟩ = some (.slice gA0 gn0 gc0) := (rg).cell 0
 have ch_0 : w9.cell? ⟨w8.heap.size, 0, none⟩ = some (.slice hA0 hn0 hc0) := (rh.next belh).cell 0
 refine (eqK_Sig _ _ ys _ (sh.next belh) (sw.next belw) hlen.out).mono ?_
 rintro e w10 ⟨rfl, bb⟩
 replace rg := rg.next bb
 replace om := om.next bb
 replace bel := next_trans bel bb
 replace belw := next_trans belw bb
 replace belh := next_trans belh bb
 have zw10 := bb.size
 clear bb
 clear cw_0 cg_0 ch_0
 have cw_0 : w10.cell? ⟨w1.heap.size, 0, none⟩ = some (.slice wA0 wn0 wc0) := (rw.next belw).cell 0
 have cg_0 : w10.cell? ⟨w3.heap.size, 0, none⟩ = some (.slice gA0 gn0 gc0) := (rg).cell 0
 have ch_0 : w10.cell? ⟨w8.heap.size, 0, none⟩ = some (.slice hA0 hn0 hc0) := (rh.next belh).cell 0
 go_wp2_with fail
 refine (heldK_Sig _ ys 1 _ om.rd hlen.out (by omega) (by rw [HCG.out]; omega)).mono ?_
 rintro e w11 ⟨he, bb⟩
 rw [HCG.out] at he
 subst he
 replace rg := rg.next bb
 replace om := om.next bb
 replace bel := next_trans bel bb
 replace belw := next_trans belw bb
 replace belh := next_trans belh bb
 have zw11 := bb.size
 clear bb
 clear cw_0 cg_0 ch_0
 have cw_0 : w11.cell? ⟨w1.heap.size, 0, none⟩ = some (.slice wA0 wn0 wc0) := (rw.next belw).cell 0
 have cg_0 : w11.cell? ⟨w3.heap.size, 0, none⟩ = some (.slice gA0 gn0 gc0) := (rg).cell 0
 have ch_0 : w11.cell? ⟨w8.heap.size, 0, none⟩ = some (.slice hA0 hn0 hc0) := (rh.next belh).cell 0
 have F := Lib.hid (bW.trans (bel.mono bW.size))
 clear bel belw belh rg om bW cw_0 cg_0 ch_0
 go_wp2
 go_ret
 exact ⟨rfl, F.out⟩
end wTextSig
end
section
namespace varsOpen
open Go.RowKit parsed
theorem gES : Tryd.prog.globalNamed "strconv.ErrSyntax" = some 2 := by kernel_rfl
theorem gEST : (Tryd.prog.globals[2]?).map (·.type) = some 105 := by kernel_rfl
theorem gER : Tryd.prog.globalNamed "strconv.ErrRange" = some 3 := by kernel_rfl
theorem gERT : (Tryd.prog.globals[3]?).map (·.type) = some 105 := by kernel_rfl
theorem cellsS : Tryd.prog.cellsOf 164 = 1 := by kernel_rfl
theorem cells9 : Tryd.prog.cellsOf 9 = 1 := by kernel_rfl
theorem star : "*" ++ "errors.errorString" = "*errors.errorString" := by decide
theorem rowE (u : TypeId) (h : Tryd.prog.typeName? 3 u = some "*errors.errorString") : u = 162 :=
 typeName_ptr_named (nm := "errors.errorString") (by rw [star]; kernel_rfl) (by kernel_rfl) (by decide) u (by rw [star]; exact h)
theorem vs_laid {w : World} {r : List (String × DataW Unit)} (h : w.ShapedOpen Tryd.prog) (hL : laidMet Tryd.prog (("strconv.ErrRange", Rows.laid_strconv_ErrRange) :: ("strconv.ErrSyntax", Rows.laid_strconv_ErrSyntax) :: r) w) : Vs w := by
 obtain ⟨a1, s1, hv1, -, -, -⟩ := laid_sentinel hL gER gERT Tryd.underlying105 rowE Tryd.underlying162 Tryd.underlying164 rfl rfl Tryd.underlying9 cellsS cells9
 obtain ⟨a0, s0, hv0, -, -, -⟩ := laid_sentinel hL.tail gES gEST Tryd.underlying105 rowE Tryd.underlying162 Tryd.underlying164 rfl rfl Tryd.underlying9 cellsS cells9
 exact ⟨cell_of_shapedOpen_int (P := Tryd.prog) (t := 3) (zero := #[.int .i64 0]) h (of_decide_eq_true (by kernel_rfl)) (by kernel_rfl) rfl (by kernel_rfl) (by kernel_rfl) Tryd.underlying3,
  ⟨_, by have h0 := World.var?_cell gES hv0 0; simpa using h0, .inr ⟨_, _, rfl⟩⟩, ⟨_, by have h0 := World.var?_cell gER hv1 0; simpa using h0, .inr ⟨_, _, rfl⟩⟩⟩
theorem handed {H : Type} {enc : TypeId × Value → H} {a : Assume} {C : Checked} {os : Os} {f : FuncId} {fn : Func} {s : ChangeSpec} {conds : List PathCond} {apart fresh handsOn again : Bool} {X : World → Array Value → Prop}
  (hX : ∀ (w w' : World) (args : Array Value), w.heap = w'.heap → X w args → X w' args)
  (own : ownKnob C.prog.godebug = none) (started : os.Started) (noInit : C.prog.inits.idxOf? f = none) (hfn : C.prog.funcs[f]? = some fn)
  (witness : ∃ (w : World) (tape : Tape) (i : Input), w.os = os ∧ (w.forCall tape i).Shaped C.prog ∧ i.vars = [] ∧ Input.okWide C.prog (w.forCall tape i) .any w.heap.size f i ∧
   ((s.pre enc C.prog fn conds apart (w.forCall tape i).memory i.args ∧ X (w.forCall tape i).memory i.args) ∧ sizedMet enc C.prog fn (OpenSpec.ofChange s) apart (w.forCall tape i).memory i.args) ∧ a.holds C.prog (lone (Frame.enter C.prog f i.args .normal) [] (w.forCall tape i)))
  (contract : ∀ (W : World) (base : Nat) (args : Array Value) (ds gs : List (DataW H)) (before : List MemPlace),
   (∀ (j : Nat) t v, fn.params[j]? = some t → args[j]? = some v → Value.okWide C.prog W .any base t v) →
   DataW.Whole enc C.prog fn.params.toList s.vars apart W args.toList ds gs before →
   W.ShapedOpen C.prog → X W args →
   Calls C.prog f args W fun e W' => ∃ v, e = .returned v ∧ s.post enc C.prog fn apart fresh handsOn again W args v W') :
  ReturnsInHanded a C os f .any (fun w args => (s.pre enc C.prog fn conds apart w args ∧ X w args) ∧ sizedMet enc C.prog fn (OpenSpec.ofChange s) apart w args) (s.post enc C.prog fn apart fresh handsOn again) := by
 refine returnsInHanded_of_calls own started noInit witness ?_
 intro w tape i _ hsh _ hok hpre hholds
 obtain ⟨_, _, _, fn', hfn', _, _, _, _, hval⟩ := hok
 have e : fn' = fn := Option.some.inj (hfn'.symm.trans hfn)
 subst e
 obtain ⟨⟨⟨ds, gs, before, hw, hc⟩, hx⟩, hz⟩ := hpre
 have hw' := DataW.Whole.of_heap (w' := w.forCall tape i) (by rfl) hw
 refine (contract (w.forCall tape i) w.heap.size i.args ds gs before hval hw' hsh (hX _ _ _ (by rfl) hx)).mono fun e W' ⟨v, he, hp⟩ => ?_
 subst he
 exact ChangeSpec.post_blind hp
end varsOpen
end
section
namespace openX
open Go.ChangeShapes Go.WideShapes Go.ChangeAt Go.RowKit base segs shape
section
variable {H : Type} {enc : TypeId × Value → H} {P : Program} {w : World} {held : Bool}
end
end openX
end
end Go.Proofs.YtlaloakegajheabDoor
