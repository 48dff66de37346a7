/-
  MERGED: my texts MatchMost, MatchImpl, MatchImplB, AnyOf, MatchImplC, MatchTot, WMostGeneral, one behind the other, as they are. By an AI agent.
-/
import Derived.Test.YtobedfmagjgdcaaMFnExactMostGeneral3
import Derived.Deep.WholeRow
import Derived.Shelf.Abstract
import Derived.Deep.RegionHeld3
namespace Go.Proofs.Ytobedfmagjgdcaa
section
open Go.Lib (hid)
open List (setIfInBounds_toArray set_cons_zero set_cons_succ getElem_toArray getElem_cons_zero getElem_cons_succ)
namespace matchMost
open Go.RowKit base ints sig term termOk endAt inside marks app sym segs segsHelp termFacts renMath varsOf variant pathSpec matchMath matchSpec matchList
set_option maxRecDepth 100000
def hitB (sg : List Int) (ps : List (List Int)) (i k : Nat) : Bool := moreB sg (ps.getD k []) (ps.getD i []) || (decide (k < i) && variantB sg (ps.getD k []) (ps.getD i []))
def bestK (sg : List Int) (ps : List (List Int)) (i : Nat) : Nat → Bool
 | 0 => true
 | k + 1 => bestK sg ps i k && !hitB sg ps i k
theorem bestK_all {sg : List Int} {ps : List (List Int)} {i : Nat} : ∀ k, bestK sg ps i k = (List.range k).all fun j => !hitB sg ps i j
 | 0 => rfl
 | k + 1 => by
  rw [List.range_succ, List.all_append, ← bestK_all k]
  simp [bestK]
theorem bestK_best {sg : List Int} {ps : List (List Int)} {i : Nat} : bestK sg ps i ps.length = bestB sg ps i := by rw [bestK_all]; rfl
def mgN (sg : List Int) (ps : List (List Int)) : Nat → List Int
 | 0 => []
 | i + 1 => mgN sg ps i ++ (if bestB sg ps i = true then [(i : Int)] else [])
theorem mg_len {sg : List Int} {ps : List (List Int)} : ∀ k, (mgN sg ps k).length ≤ k
 | 0 => by simp [mgN]
 | k + 1 => by
  have := mg_len (sg := sg) (ps := ps) k
  simp only [mgN, List.length_append]
  split <;> simp <;> omega
def mgI (sg : List Int) (ps : List (List Int)) : List Int := if allB sg ps = true then mgN sg ps ps.length else []
def HeadMg (w : World) (A : Option Addr) (n c : Nat) (sg : List Int) (P : Option Addr) (pn : Nat) (ps : List (List Int)) (g : Nat) (out k : Value) (wr : World) : Prop :=
 ∃ (i : Nat) (O : Option Addr) (on oc : Nat), k = .int .i64 i ∧ i + g = pn ∧ out = .slice O on oc ∧ Own wr (w.heap.size + 1) (.slice O on oc) (mgN sg ps i) ∧ Fs w wr A n c sg P pn ps
def InMg (w : World) (A : Option Addr) (n c : Nat) (sg : List Int) (P : Option Addr) (pn : Nat) (ps : List (List Int)) (i : Nat) (O : Option Addr) (on oc : Nat) (g : Nat) (best k : Value) (wr : World) : Prop :=
 ∃ j : Nat, k = .int .i64 j ∧ j + g = pn ∧ best = .bool (bestK sg ps i j) ∧ Own wr (w.heap.size + 1) (.slice O on oc) (mgN sg ps i) ∧ Fs w wr A n c sg P pn ps
set_option maxHeartbeats 4000000 in
theorem specMostGeneral (A P : Option Addr) (n c pn pc : Nat) (sg : List Int) (ps : List (List Int)) (w : World) (h : Seg w w.heap.size A n sg) (hp : Segs w w.heap.size P pn ps) (hn : n ≤ 1048576) (htot : tot ps ≤ 1048576) :
  Calls Try.prog 11 #[.agg #[.slice A n c], .slice P pn pc] w (AnsList w (mgI sg ps)) := by
 obtain ⟨W, hW⟩ : ∃ W, W = (w.alloc (.cells #[.slice A n c] 29)).alloc (.cells #[] 2) := ⟨_, rfl⟩
 have f : Fs w W A n c sg P pn ps := by rw [hW]; exact (Fs.start h hp).alloc _
 have ow : Own W (w.heap.size + 1) (.slice (some ⟨w.heap.size + 1, 0, none⟩) 0 0) [] := by
  rw [hW]
  have := own_empty (w.alloc (.cells #[.slice A n c] 29)) (w.heap.size + 1) (by simp)
  simpa using this
 have HW := hid hW
 have HL := hid hp.1
 have HE := hid (tot_each htot)
 have cA := f.cell
 have cA0 : ((w.alloc (.cells #[.slice A n c] 29)).alloc (.cells #[] 2)).cell? ⟨w.heap.size, 0, none⟩ = some (.slice A n c) := by rw [← hW]; exact cA
 have LP := hid (l4All A P n c pn pc sg ps W f.s1 (f.s'.more (Nat.le_of_lt f.size)) hn htot)
 clear hW h hp htot
 cases hall : allB sg ps with
 | false =>
  have HS := hid hall
  have HF := hid (show mgI sg ps = [] by unfold mgI; rw [if_neg (by rw [hall]; simp)])
  clear hall
  go_enter Try.func11, Try.ntmps11
  go_wp2_with fail
  rw [← HW.out]
  refine LP.out.mono ?_
  rintro e w1 ⟨he, bb⟩
  rw [HS.out] at he
  subst he
  have F := hid (list_of (w := w) HF.out (Own.next ow bb) (Nat.le_succ _) (f.next bb).b)
  clear f ow bb LP cA cA0
  go_wp2
  go_ret
  exact F.out
 | true =>
  have HSP := hid hall
  have hp12 : pn ≤ 12 := by have h1 := (all_parts hall).2.1; rw [HL.out] at h1; exact h1
  have HF := hid (show mgI sg ps = mgN sg ps pn by unfold mgI; rw [if_pos hall, HL.out])
  clear hall
  go_enter Try.func11, Try.ntmps11
  go_wp2_with fail
  rw [← HW.out]
  refine LP.out.mono ?_
  rintro e w1 ⟨he, bb⟩
  rw [HSP.out] at he
  subst he
  have S0 : HeadMg w A n c sg P pn ps pn (.slice (some ⟨w.heap.size + 1, 0, none⟩) 0 0) (.int .i64 0) w1 := ⟨0, _, 0, 0, rfl, by omega, rfl, Own.next ow bb, f.next bb⟩
  have HS0 := hid S0
  clear S0 f ow bb cA cA0 LP
  go_wp2_with fail
  go_loopg [5, 6] pn (fun g out k wr => HeadMg w A n c sg P pn ps g out k wr)
  case atStart => exact HS0.out
  case round =>
   obtain ⟨i, O, on, oc, rfl, hi, rfl, ho, f⟩ := hrel
   obtain ⟨G, hG⟩ : ∃ G, G = gk := ⟨_, rfl⟩
   subst hG
   clear HS0
   have HI := hid hi
   clear hi
   have hon : on ≤ 12 := by have h1 := Own.len ho; have h2 := mg_len (sg := sg) (ps := ps) i; have := HI.out; omega
   by_cases hip : i < pn
   ·have hGk := hid (show G - 1 < G ∧ i + 1 + (G - 1) = pn by have := HI.out; omega)
    have HS1 := hid (show InMg w A n c sg P pn ps i O on oc pn (.bool true) (.int .i64 0) wr from ⟨0, rfl, by omega, rfl, ho, f⟩)
    clear ho f
    go_wp2_with fail
    go_loopg [7, 8] pn (fun g best k wr => InMg w A n c sg P pn ps i O on oc g best k wr)
    case atStart => exact HS1.out
    case round =>
     obtain ⟨k, rfl, hk, rfl, ho, f⟩ := hrel
     clear HS1
     have HK := hid hk
     clear hk
     by_cases hkp : k < pn
     ·have hgk := hid (show gk - 1 < gk ∧ k + 1 + (gk - 1) = pn by have := HK.out; omega)
      obtain ⟨b, off, D, dn, dc, rfl, hbb, hck, hsk, hcapk⟩ := f.s'.spot hkp
      obtain ⟨b', off', E, en, ec, e', -, hci, hsi, hcapi⟩ := f.s'.spot hip
      injection e' with e'
      injection e' with e1 e2
      subst e1 e2
      have hdn : dn ≤ 1048576 := by have := HE.out k; rw [hsk.1] at this; exact this
      have hen : en ≤ 1048576 := by have := HE.out i; rw [hsi.1] at this; exact this
      have sk : Seg wr.drew wr.drew.heap.size D dn (ps.getD k []) := (hsk.more (Nat.le_of_lt f.size)).drew
      have si : Seg wr.drew wr.drew.heap.size E en (ps.getD i []) := (hsi.more (Nat.le_of_lt f.size)).drew
      obtain ⟨yk, hyk⟩ : ∃ ys, ps.getD k [] = ys := ⟨_, rfl⟩
      obtain ⟨yi, hyi⟩ : ∃ ys, ps.getD i [] = ys := ⟨_, rfl⟩
      rw [hyk] at sk
      rw [hyi] at si
      obtain ⟨bm, hbm⟩ : ∃ b, moreB sg yk yi = b := ⟨_, rfl⟩
      obtain ⟨bv, hbv⟩ : ∃ b, variantB sg yk yi = b := ⟨_, rfl⟩
      have HM := hid hbm
      have HV := hid hbv
      have HH := hid (show bestK sg ps i (k + 1) = (bestK sg ps i k && !(bm || (decide (k < i) && bv))) by simp only [bestK, hitB]; rw [hyk, hyi, hbm, hbv])
      obtain ⟨bb, hbk⟩ : ∃ b, bestK sg ps i k = b := ⟨_, rfl⟩
      rw [hbk] at HH ⊢
      have z0 := f.size
      have HZ := hid (show b < wr.heap.size by omega)
      have k1 := hcapk.1
      have k2 := hcapk.2.1
      have l1 := hcapi.1
      have l2 := hcapi.2.1
      have cA := f.cell
      have fd := f.drew
      replace ho := Own.drew ho
      have hk60 : k ≤ 12 := by omega
      have i0 : (0 : Int) ≤ (k : Int) := by omega
      have i1 : (k : Int) < (pn : Int) := by omega
      have i2 : (0 : Int) ≤ (i : Int) := by omega
      have i3 : (i : Int) < (pn : Int) := by omega
      clear hsk hsi hcapk hcapi hyk hyi hbm hbv hbk f
      cases bm with
      | true =>
       go_wp2_with fail
       refine wp_region_held_drew (S := (fun w' => w'.cell? ⟨w.heap.size, 0, none⟩ = some (.slice A n c) ∧ w'.cell? ⟨b, off + k, none⟩ = some (.slice D dn dc) ∧ w'.cell? ⟨b, off + i, none⟩ = some (.slice E en ec))) (by kernel_rfl) ⟨cA, hck, hci⟩ (fun hHeld => ?_)
       refine wpAnyH_take (i := 0) (v := ?_) rfl (by kernel_rfl) (by kernel_rfl) (by kernel_rfl) (fun _ _ _ h => h) (Or.inl ⟨by rfl, ?_⟩) (by assumption) ?_
       rotate_left 1
       ·(intro w0 hSw; (try dsimp only at hSw); go_simp; try with_reducible rfl)
       try simp only [Act.put, setIfInBounds_toArray, set_cons_zero, set_cons_succ, getElem_toArray, getElem_cons_zero, getElem_cons_succ]
       refine wpAnyH_take (i := 1) (v := ?_) rfl (by kernel_rfl) (by kernel_rfl) (by kernel_rfl) (fun _ _ _ h => h) (Or.inl ⟨by rfl, ?_⟩) (by assumption) ?_
       rotate_left 1
       ·(intro w0 hSw; (try dsimp only at hSw); go_simp; try with_reducible rfl)
       try simp only [Act.put, setIfInBounds_toArray, set_cons_zero, set_cons_succ, getElem_toArray, getElem_cons_zero, getElem_cons_succ]
       refine wpAnyH_take (i := 2) (v := ?_) rfl (by kernel_rfl) (by kernel_rfl) (by kernel_rfl) (fun _ _ _ h => h) (Or.inl ⟨by rfl, ?_⟩) (by assumption) ?_
       rotate_left 1
       ·(intro w0 hSw; (try dsimp only at hSw); go_simp; try with_reducible rfl)
       try simp only [Act.put, setIfInBounds_toArray, set_cons_zero, set_cons_succ, getElem_toArray, getElem_cons_zero, getElem_cons_succ]
       refine wpAnyH_take (i := 3) (v := ?_) rfl (by kernel_rfl) (by kernel_rfl) (by kernel_rfl) (fun _ _ _ h => h) (Or.inl ⟨by rfl, ?_⟩) (by assumption) ?_
       rotate_left 1
       ·(intro w0 hSw; (try dsimp only at hSw); go_simp; try with_reducible rfl)
       try simp only [Act.put, setIfInBounds_toArray, set_cons_zero, set_cons_succ, getElem_toArray, getElem_cons_zero, getElem_cons_succ]
       refine wpAnyH_take (i := 4) (v := ?_) rfl (by kernel_rfl) (by kernel_rfl) (by kernel_rfl) (fun _ _ _ h => h) (Or.inl ⟨by rfl, ?_⟩) (by assumption) ?_
       rotate_left 1
       ·(intro w0 hSw; (try dsimp only at hSw); go_simp; try with_reducible rfl)
       try simp only [Act.put, setIfInBounds_toArray, set_cons_zero, set_cons_succ, getElem_toArray, getElem_cons_zero, getElem_cons_succ]
       refine wpAnyH_take (i := 5) (v := ?_) rfl (by kernel_rfl) (by kernel_rfl) (by kernel_rfl) (fun _ _ _ h => h) (Or.inl ⟨by rfl, ?_⟩) (by assumption) ?_
       rotate_left 1
       ·(intro w0 hSw; (try dsimp only at hSw); go_simp; try with_reducible rfl)
       try simp only [Act.put, setIfInBounds_toArray, set_cons_zero, set_cons_succ, getElem_toArray, getElem_cons_zero, getElem_cons_succ]
       refine wpAnyH_take (i := 6) (v := ?_) rfl (by kernel_rfl) (by kernel_rfl) (by kernel_rfl) (fun _ _ _ h => h) (Or.inl ⟨by rfl, ?_⟩) (by assumption) ?_
       rotate_left 1
       ·(intro w0 hSw; (try dsimp only at hSw); go_simp; try with_reducible rfl)
       try simp only [Act.put, setIfInBounds_toArray, set_cons_zero, set_cons_succ, getElem_toArray, getElem_cons_zero, getElem_cons_succ]
       refine wpAnyH_take (i := 7) (v := ?_) rfl (by kernel_rfl) (by kernel_rfl) (by kernel_rfl) (fun _ _ _ h => h) (Or.inl ⟨by rfl, ?_⟩) (by assumption) ?_
       rotate_left 1
       ·(intro w0 hSw; (try dsimp only at hSw); go_simp; try with_reducible rfl)
       try simp only [Act.put, setIfInBounds_toArray, set_cons_zero, set_cons_succ, getElem_toArray, getElem_cons_zero, getElem_cons_succ]
       refine wpAnyH_take (i := 8) (v := ?_) rfl (by kernel_rfl) (by kernel_rfl) (by kernel_rfl) (fun _ _ _ h => h) (Or.inl ⟨by rfl, ?_⟩) (by assumption) ?_
       rotate_left 1
       ·(intro w0 hSw; (try dsimp only at hSw); go_simp; try with_reducible rfl)
       try simp only [Act.put, setIfInBounds_toArray, set_cons_zero, set_cons_succ, getElem_toArray, getElem_cons_zero, getElem_cons_succ]
       refine wpAnyH_ready (rs := [9]) (by kernel_rfl) (by simp) (AllReadyH.cons rfl (fun K hK => ?_) AllReadyH.nil)
       try simp only [Act.put, setIfInBounds_toArray, set_cons_zero, set_cons_succ, getElem_toArray, getElem_cons_zero, getElem_cons_succ]
       rw [if_pos (by rfl)]
       go_simp
       refine (specMoreGeneral A D E n c dn dc en ec sg yk yi _ fd.s1 sk si hn hdn hen k1 k2 l1 l2).mono ?_; rintro e w3 ⟨he, b1⟩; rw [HM.out] at he; subst he; have f3 := fd.next b1; have x1 := f3.cell; have x2 : w3.cell? ⟨b, off + k, none⟩ = some (.slice D dn dc) := (b1.cell (p := ⟨b, off + k, none⟩) HZ.out).trans hck; have x3 : w3.cell? ⟨b, off + i, none⟩ = some (.slice E en ec) := (b1.cell (p := ⟨b, off + i, none⟩) HZ.out).trans hci; go_wp2_with fail
       refine hK.out _ _ ?_ (fun hHeld => ?_)
       ·first | assumption | (dsimp only; assumption) | exact ⟨by assumption, by assumption⟩ | exact ⟨by assumption, by assumption, by assumption⟩
       clear hK K
       try simp only [Act.put, setIfInBounds_toArray, set_cons_zero, set_cons_succ, getElem_toArray, getElem_cons_zero, getElem_cons_succ]
       refine wpAnyH_take (i := 10) (v := ?_) rfl (by kernel_rfl) (by kernel_rfl) (by kernel_rfl) (fun _ _ _ h => h) (Or.inl ⟨by rfl, ?_⟩) (by assumption) ?_
       rotate_left 1
       ·(intro w0 hSw; (try dsimp only at hSw); go_simp; try with_reducible rfl)
       try simp only [Act.put, setIfInBounds_toArray, set_cons_zero, set_cons_succ, getElem_toArray, getElem_cons_zero, getElem_cons_succ]
       refine wpAnyH_take (i := 11) (v := undef) rfl (by kernel_rfl) (by kernel_rfl) (by kernel_rfl) (fun _ _ _ h => h) (Or.inr ⟨by rfl, rfl⟩) (by assumption) ?_
       try simp only [Act.put, setIfInBounds_toArray, set_cons_zero, set_cons_succ, getElem_toArray, getElem_cons_zero, getElem_cons_succ]
       refine wpAnyH_take (i := 12) (v := undef) rfl (by kernel_rfl) (by kernel_rfl) (by kernel_rfl) (fun _ _ _ h => h) (Or.inr ⟨by rfl, rfl⟩) (by assumption) ?_
       try simp only [Act.put, setIfInBounds_toArray, set_cons_zero, set_cons_succ, getElem_toArray, getElem_cons_zero, getElem_cons_succ]
       refine wpAnyH_take (i := 13) (v := undef) rfl (by kernel_rfl) (by kernel_rfl) (by kernel_rfl) (fun _ _ _ h => h) (Or.inr ⟨by rfl, rfl⟩) (by assumption) ?_
       try simp only [Act.put, setIfInBounds_toArray, set_cons_zero, set_cons_succ, getElem_toArray, getElem_cons_zero, getElem_cons_succ]
       refine wpAnyH_take (i := 14) (v := undef) rfl (by kernel_rfl) (by kernel_rfl) (by kernel_rfl) (fun _ _ _ h => h) (Or.inr ⟨by rfl, rfl⟩) (by assumption) ?_
       try simp only [Act.put, setIfInBounds_toArray, set_cons_zero, set_cons_succ, getElem_toArray, getElem_cons_zero, getElem_cons_succ]
       refine wpAnyH_take (i := 15) (v := undef) rfl (by kernel_rfl) (by kernel_rfl) (by kernel_rfl) (fun _ _ _ h => h) (Or.inr ⟨by rfl, rfl⟩) (by assumption) ?_
       try simp only [Act.put, setIfInBounds_toArray, set_cons_zero, set_cons_succ, getElem_toArray, getElem_cons_zero, getElem_cons_succ]
       refine wpAnyH_take (i := 16) (v := undef) rfl (by kernel_rfl) (by kernel_rfl) (by kernel_rfl) (fun _ _ _ h => h) (Or.inr ⟨by rfl, rfl⟩) (by assumption) ?_
       try simp only [Act.put, setIfInBounds_toArray, set_cons_zero, set_cons_succ, getElem_toArray, getElem_cons_zero, getElem_cons_succ]
       refine wpAnyH_take (i := 17) (v := undef) rfl (by kernel_rfl) (by kernel_rfl) (by kernel_rfl) (fun _ _ _ h => h) (Or.inr ⟨by rfl, rfl⟩) (by assumption) ?_
       try simp only [Act.put, setIfInBounds_toArray, set_cons_zero, set_cons_succ, getElem_toArray, getElem_cons_zero, getElem_cons_succ]
       refine wpAnyH_take (i := 18) (v := undef) rfl (by kernel_rfl) (by kernel_rfl) (by kernel_rfl) (fun _ _ _ h => h) (Or.inr ⟨by rfl, rfl⟩) (by assumption) ?_
       try simp only [Act.put, setIfInBounds_toArray, set_cons_zero, set_cons_succ, getElem_toArray, getElem_cons_zero, getElem_cons_succ]
       refine wpAnyH_take (i := 19) (v := undef) rfl (by kernel_rfl) (by kernel_rfl) (by kernel_rfl) (fun _ _ _ h => h) (Or.inr ⟨by rfl, rfl⟩) (by assumption) ?_
       try simp only [Act.put, setIfInBounds_toArray, set_cons_zero, set_cons_succ, getElem_toArray, getElem_cons_zero, getElem_cons_succ]
       refine wpAnyH_take (i := 20) (v := undef) rfl (by kernel_rfl) (by kernel_rfl) (by kernel_rfl) (fun _ _ _ h => h) (Or.inr ⟨by rfl, rfl⟩) (by assumption) ?_
       try simp only [Act.put, setIfInBounds_toArray, set_cons_zero, set_cons_succ, getElem_toArray, getElem_cons_zero, getElem_cons_succ]
       refine wpAnyH_take (i := 21) (v := undef) rfl (by kernel_rfl) (by kernel_rfl) (by kernel_rfl) (fun _ _ _ h => h) (Or.inr ⟨by rfl, rfl⟩) (by assumption) ?_
       try simp only [Act.put, setIfInBounds_toArray, set_cons_zero, set_cons_succ, getElem_toArray, getElem_cons_zero, getElem_cons_succ]
       refine wpAnyH_take (i := 22) (v := undef) rfl (by kernel_rfl) (by kernel_rfl) (by kernel_rfl) (fun _ _ _ h => h) (Or.inr ⟨by rfl, rfl⟩) (by assumption) ?_
       try simp only [Act.put, setIfInBounds_toArray, set_cons_zero, set_cons_succ, getElem_toArray, getElem_cons_zero, getElem_cons_succ]
       refine wpAnyH_take (i := 23) (v := undef) rfl (by kernel_rfl) (by kernel_rfl) (by kernel_rfl) (fun _ _ _ h => h) (Or.inr ⟨by rfl, rfl⟩) (by assumption) ?_
       try simp only [Act.put, setIfInBounds_toArray, set_cons_zero, set_cons_succ, getElem_toArray, getElem_cons_zero, getElem_cons_succ]
       refine wpAnyH_take (i := 24) (v := undef) rfl (by kernel_rfl) (by kernel_rfl) (by kernel_rfl) (fun _ _ _ h => h) (Or.inr ⟨by rfl, rfl⟩) (by assumption) ?_
       try simp only [Act.put, setIfInBounds_toArray, set_cons_zero, set_cons_succ, getElem_toArray, getElem_cons_zero, getElem_cons_succ]
       refine wpAnyH_take (i := 25) (v := undef) rfl (by kernel_rfl) (by kernel_rfl) (by kernel_rfl) (fun _ _ _ h => h) (Or.inr ⟨by rfl, rfl⟩) (by assumption) ?_
       try simp only [Act.put, setIfInBounds_toArray, set_cons_zero, set_cons_succ, getElem_toArray, getElem_cons_zero, getElem_cons_succ]
       refine wpAnyH_take (i := 26) (v := ?_) rfl (by kernel_rfl) (by kernel_rfl) (by kernel_rfl) (fun _ _ _ h => h) (Or.inl ⟨by rfl, ?_⟩) (by assumption) ?_
       rotate_left 1
       ·(intro w0 hSw; (try dsimp only at hSw); go_simp; try with_reducible rfl)
       try simp only [Act.put, setIfInBounds_toArray, set_cons_zero, set_cons_succ, getElem_toArray, getElem_cons_zero, getElem_cons_succ]
       refine wpAnyH_done (by kernel_rfl) ?_ _
       have HS2 := hid (show InMg w A n c sg (some ⟨b, off, none⟩) pn ps i O on oc (gk - 1) (.bool false) (.int .i64 ((k : Int) + 1)) w3 from ⟨k + 1, by simp, hgk.out.2, by rw [HH.out]; simp, Own.next ho b1, f3⟩)
       clear ho fd f3 sk si cA hck hci
       go_wp2
       go_roundg (gk - 1)
       case measure => exact hgk.out.1
       case rel => exact HS2.out
      | false =>
       by_cases hki : k < i
       ·have hdk : decide ((k : Int) < (i : Int)) = true := decide_eq_true (by omega)
        have hdi : (k : Int) < (i : Int) := by omega
        have hdn2 : decide (k < i) = true := decide_eq_true hki
        rw [hdn2] at HH
        go_wp2_with fail
        go_region_held3 (fun w' => w'.cell? ⟨w.heap.size, 0, none⟩ = some (.slice A n c) ∧ w'.cell? ⟨b, off + k, none⟩ = some (.slice D dn dc) ∧ w'.cell? ⟨b, off + i, none⟩ = some (.slice E en ec))
         (first | exact ⟨by assumption, by assumption, by assumption⟩ | go_keep)
         (first
          | (go_at_call 46; refine (specMoreGeneral A D E n c dn dc en ec sg yk yi _ fd.s1 sk si hn hdn hen k1 k2 l1 l2).mono ?_; rintro e w3 ⟨he, b1⟩; rw [HM.out] at he; subst he; have f3 := fd.next b1; have x1 := f3.cell; have x2 : w3.cell? ⟨b, off + k, none⟩ = some (.slice D dn dc) := (b1.cell (p := ⟨b, off + k, none⟩) HZ.out).trans hck; have x3 : w3.cell? ⟨b, off + i, none⟩ = some (.slice E en ec) := (b1.cell (p := ⟨b, off + i, none⟩) HZ.out).trans hci)
          | (go_at_call 47; refine (specVariantIn A D E n c dn dc en ec sg yk yi _ f3.s1 (sk.next b1) (si.next b1) hn hdn hen).mono ?_; rintro e w4 ⟨he, b2⟩; rw [HV.out] at he; subst he; have y1 := (f3.next b2).cell; have y2 : w4.cell? ⟨b, off + k, none⟩ = some (.slice D dn dc) := (b2.cell (p := ⟨b, off + k, none⟩) (Nat.lt_of_lt_of_le HZ.out b1.size)).trans x2; have y3 : w4.cell? ⟨b, off + i, none⟩ = some (.slice E en ec) := (b2.cell (p := ⟨b, off + i, none⟩) (Nat.lt_of_lt_of_le HZ.out b1.size)).trans x3))
        have f4 := f3.next b2
        replace ho := Own.next (Own.next ho b1) b2
        clear x1 x2 x3 y1 y2 y3
        cases bv with
        | true =>
         have HS2 := hid (show InMg w A n c sg (some ⟨b, off, none⟩) pn ps i O on oc (gk - 1) (.bool false) (.int .i64 ((k : Int) + 1)) w4 from ⟨k + 1, by simp, hgk.out.2, by rw [HH.out]; simp, ho, f4⟩)
         clear ho fd f3 sk si cA hck hci
         go_wp2
         go_roundg (gk - 1)
         case measure => exact hgk.out.1
         case rel => exact HS2.out
        | false =>
         have HS2 := hid (show InMg w A n c sg (some ⟨b, off, none⟩) pn ps i O on oc (gk - 1) (.bool bb) (.int .i64 ((k : Int) + 1)) w4 from ⟨k + 1, by simp, hgk.out.2, by rw [HH.out]; simp, ho, f4⟩)
         clear ho fd f3 sk si cA hck hci
         go_wp2
         go_roundg (gk - 1)
         case measure => exact hgk.out.1
         case rel => exact HS2.out
       ·have hdk : decide ((k : Int) < (i : Int)) = false := decide_eq_false (by omega)
        have hdn2 : decide (k < i) = false := decide_eq_false hki
        rw [hdn2] at HH
        go_wp2_with fail
        refine wp_region_held_drew (S := (fun w' => w'.cell? ⟨w.heap.size, 0, none⟩ = some (.slice A n c) ∧ w'.cell? ⟨b, off + k, none⟩ = some (.slice D dn dc) ∧ w'.cell? ⟨b, off + i, none⟩ = some (.slice E en ec))) (by kernel_rfl) ⟨cA, hck, hci⟩ (fun hHeld => ?_)
        refine wpAnyH_take (i := 0) (v := ?_) rfl (by kernel_rfl) (by kernel_rfl) (by kernel_rfl) (fun _ _ _ h => h) (Or.inl ⟨by rfl, ?_⟩) (by assumption) ?_
        rotate_left 1
        ·(intro w0 hSw; (try dsimp only at hSw); go_simp; try with_reducible rfl)
        try simp only [Act.put, setIfInBounds_toArray, set_cons_zero, set_cons_succ, getElem_toArray, getElem_cons_zero, getElem_cons_succ]
        refine wpAnyH_take (i := 1) (v := ?_) rfl (by kernel_rfl) (by kernel_rfl) (by kernel_rfl) (fun _ _ _ h => h) (Or.inl ⟨by rfl, ?_⟩) (by assumption) ?_
        rotate_left 1
        ·(intro w0 hSw; (try dsimp only at hSw); go_simp; try with_reducible rfl)
        try simp only [Act.put, setIfInBounds_toArray, set_cons_zero, set_cons_succ, getElem_toArray, getElem_cons_zero, getElem_cons_succ]
        refine wpAnyH_take (i := 2) (v := ?_) rfl (by kernel_rfl) (by kernel_rfl) (by kernel_rfl) (fun _ _ _ h => h) (Or.inl ⟨by rfl, ?_⟩) (by assumption) ?_
        rotate_left 1
        ·(intro w0 hSw; (try dsimp only at hSw); go_simp; try with_reducible rfl)
        try simp only [Act.put, setIfInBounds_toArray, set_cons_zero, set_cons_succ, getElem_toArray, getElem_cons_zero, getElem_cons_succ]
        refine wpAnyH_take (i := 3) (v := ?_) rfl (by kernel_rfl) (by kernel_rfl) (by kernel_rfl) (fun _ _ _ h => h) (Or.inl ⟨by rfl, ?_⟩) (by assumption) ?_
        rotate_left 1
        ·(intro w0 hSw; (try dsimp only at hSw); go_simp; try with_reducible rfl)
        try simp only [Act.put, setIfInBounds_toArray, set_cons_zero, set_cons_succ, getElem_toArray, getElem_cons_zero, getElem_cons_succ]
        refine wpAnyH_take (i := 4) (v := ?_) rfl (by kernel_rfl) (by kernel_rfl) (by kernel_rfl) (fun _ _ _ h => h) (Or.inl ⟨by rfl, ?_⟩) (by assumption) ?_
        rotate_left 1
        ·(intro w0 hSw; (try dsimp only at hSw); go_simp; try with_reducible rfl)
        try simp only [Act.put, setIfInBounds_toArray, set_cons_zero, set_cons_succ, getElem_toArray, getElem_cons_zero, getElem_cons_succ]
        refine wpAnyH_take (i := 5) (v := ?_) rfl (by kernel_rfl) (by kernel_rfl) (by kernel_rfl) (fun _ _ _ h => h) (Or.inl ⟨by rfl, ?_⟩) (by assumption) ?_
        rotate_left 1
        ·(intro w0 hSw; (try dsimp only at hSw); go_simp; try with_reducible rfl)
        try simp only [Act.put, setIfInBounds_toArray, set_cons_zero, set_cons_succ, getElem_toArray, getElem_cons_zero, getElem_cons_succ]
        refine wpAnyH_take (i := 6) (v := ?_) rfl (by kernel_rfl) (by kernel_rfl) (by kernel_rfl) (fun _ _ _ h => h) (Or.inl ⟨by rfl, ?_⟩) (by assumption) ?_
        rotate_left 1
        ·(intro w0 hSw; (try dsimp only at hSw); go_simp; try with_reducible rfl)
        try simp only [Act.put, setIfInBounds_toArray, set_cons_zero, set_cons_succ, getElem_toArray, getElem_cons_zero, getElem_cons_succ]
        refine wpAnyH_take (i := 7) (v := ?_) rfl (by kernel_rfl) (by kernel_rfl) (by kernel_rfl) (fun _ _ _ h => h) (Or.inl ⟨by rfl, ?_⟩) (by assumption) ?_
        rotate_left 1
        ·(intro w0 hSw; (try dsimp only at hSw); go_simp; try with_reducible rfl)
        try simp only [Act.put, setIfInBounds_toArray, set_cons_zero, set_cons_succ, getElem_toArray, getElem_cons_zero, getElem_cons_succ]
        refine wpAnyH_take (i := 8) (v := ?_) rfl (by kernel_rfl) (by kernel_rfl) (by kernel_rfl) (fun _ _ _ h => h) (Or.inl ⟨by rfl, ?_⟩) (by assumption) ?_
        rotate_left 1
        ·(intro w0 hSw; (try dsimp only at hSw); go_simp; try with_reducible rfl)
        try simp only [Act.put, setIfInBounds_toArray, set_cons_zero, set_cons_succ, getElem_toArray, getElem_cons_zero, getElem_cons_succ]
        refine wpAnyH_ready (rs := [9]) (by kernel_rfl) (by simp) (AllReadyH.cons rfl (fun K hK => ?_) AllReadyH.nil)
        try simp only [Act.put, setIfInBounds_toArray, set_cons_zero, set_cons_succ, getElem_toArray, getElem_cons_zero, getElem_cons_succ]
        rw [if_pos (by rfl)]
        go_simp
        refine (specMoreGeneral A D E n c dn dc en ec sg yk yi _ fd.s1 sk si hn hdn hen k1 k2 l1 l2).mono ?_; rintro e w3 ⟨he, b1⟩; rw [HM.out] at he; subst he; have f3 := fd.next b1; have x1 := f3.cell; have x2 : w3.cell? ⟨b, off + k, none⟩ = some (.slice D dn dc) := (b1.cell (p := ⟨b, off + k, none⟩) HZ.out).trans hck; have x3 : w3.cell? ⟨b, off + i, none⟩ = some (.slice E en ec) := (b1.cell (p := ⟨b, off + i, none⟩) HZ.out).trans hci; go_wp2_with fail
        refine hK.out _ _ ?_ (fun hHeld => ?_)
        ·first | assumption | (dsimp only; assumption) | exact ⟨by assumption, by assumption⟩ | exact ⟨by assumption, by assumption, by assumption⟩
        clear hK K
        try simp only [Act.put, setIfInBounds_toArray, set_cons_zero, set_cons_succ, getElem_toArray, getElem_cons_zero, getElem_cons_succ]
        refine wpAnyH_take (i := 10) (v := ?_) rfl (by kernel_rfl) (by kernel_rfl) (by kernel_rfl) (fun _ _ _ h => h) (Or.inl ⟨by rfl, ?_⟩) (by assumption) ?_
        rotate_left 1
        ·(intro w0 hSw; (try dsimp only at hSw); go_simp; try with_reducible rfl)
        try simp only [Act.put, setIfInBounds_toArray, set_cons_zero, set_cons_succ, getElem_toArray, getElem_cons_zero, getElem_cons_succ]
        refine wpAnyH_take (i := 11) (v := ?_) rfl (by kernel_rfl) (by kernel_rfl) (by kernel_rfl) (fun _ _ _ h => h) (Or.inl ⟨by rfl, ?_⟩) (by assumption) ?_
        rotate_left 1
        ·(intro w0 hSw; (try dsimp only at hSw); go_simp; try with_reducible rfl)
        try simp only [Act.put, setIfInBounds_toArray, set_cons_zero, set_cons_succ, getElem_toArray, getElem_cons_zero, getElem_cons_succ]
        refine wpAnyH_take (i := 12) (v := ?_) rfl (by kernel_rfl) (by kernel_rfl) (by kernel_rfl) (fun _ _ _ h => h) (Or.inl ⟨by rfl, ?_⟩) (by assumption) ?_
        rotate_left 1
        ·(intro w0 hSw; (try dsimp only at hSw); go_simp; try with_reducible rfl)
        try simp only [Act.put, setIfInBounds_toArray, set_cons_zero, set_cons_succ, getElem_toArray, getElem_cons_zero, getElem_cons_succ]
        refine wpAnyH_take (i := 13) (v := ?_) rfl (by kernel_rfl) (by kernel_rfl) (by kernel_rfl) (fun _ _ _ h => h) (Or.inl ⟨by rfl, ?_⟩) (by assumption) ?_
        rotate_left 1
        ·(intro w0 hSw; (try dsimp only at hSw); go_simp; try with_reducible rfl)
        try simp only [Act.put, setIfInBounds_toArray, set_cons_zero, set_cons_succ, getElem_toArray, getElem_cons_zero, getElem_cons_succ]
        refine wpAnyH_take (i := 14) (v := ?_) rfl (by kernel_rfl) (by kernel_rfl) (by kernel_rfl) (fun _ _ _ h => h) (Or.inl ⟨by rfl, ?_⟩) (by assumption) ?_
        rotate_left 1
        ·(intro w0 hSw; (try dsimp only at hSw); go_simp; try with_reducible rfl)
        try simp only [Act.put, setIfInBounds_toArray, set_cons_zero, set_cons_succ, getElem_toArray, getElem_cons_zero, getElem_cons_succ]
        refine wpAnyH_take (i := 15) (v := undef) rfl (by kernel_rfl) (by kernel_rfl) (by kernel_rfl) (fun _ _ _ h => h) (Or.inr ⟨by rfl, rfl⟩) (by assumption) ?_
        try simp only [Act.put, setIfInBounds_toArray, set_cons_zero, set_cons_succ, getElem_toArray, getElem_cons_zero, getElem_cons_succ]
        refine wpAnyH_take (i := 16) (v := undef) rfl (by kernel_rfl) (by kernel_rfl) (by kernel_rfl) (fun _ _ _ h => h) (Or.inr ⟨by rfl, rfl⟩) (by assumption) ?_
        try simp only [Act.put, setIfInBounds_toArray, set_cons_zero, set_cons_succ, getElem_toArray, getElem_cons_zero, getElem_cons_succ]
        refine wpAnyH_take (i := 17) (v := undef) rfl (by kernel_rfl) (by kernel_rfl) (by kernel_rfl) (fun _ _ _ h => h) (Or.inr ⟨by rfl, rfl⟩) (by assumption) ?_
        try simp only [Act.put, setIfInBounds_toArray, set_cons_zero, set_cons_succ, getElem_toArray, getElem_cons_zero, getElem_cons_succ]
        refine wpAnyH_take (i := 18) (v := undef) rfl (by kernel_rfl) (by kernel_rfl) (by kernel_rfl) (fun _ _ _ h => h) (Or.inr ⟨by rfl, rfl⟩) (by assumption) ?_
        try simp only [Act.put, setIfInBounds_toArray, set_cons_zero, set_cons_succ, getElem_toArray, getElem_cons_zero, getElem_cons_succ]
        refine wpAnyH_take (i := 19) (v := undef) rfl (by kernel_rfl) (by kernel_rfl) (by kernel_rfl) (fun _ _ _ h => h) (Or.inr ⟨by rfl, rfl⟩) (by assumption) ?_
        try simp only [Act.put, setIfInBounds_toArray, set_cons_zero, set_cons_succ, getElem_toArray, getElem_cons_zero, getElem_cons_succ]
        refine wpAnyH_take (i := 20) (v := undef) rfl (by kernel_rfl) (by kernel_rfl) (by kernel_rfl) (fun _ _ _ h => h) (Or.inr ⟨by rfl, rfl⟩) (by assumption) ?_
        try simp only [Act.put, setIfInBounds_toArray, set_cons_zero, set_cons_succ, getElem_toArray, getElem_cons_zero, getElem_cons_succ]
        refine wpAnyH_take (i := 21) (v := undef) rfl (by kernel_rfl) (by kernel_rfl) (by kernel_rfl) (fun _ _ _ h => h) (Or.inr ⟨by rfl, rfl⟩) (by assumption) ?_
        try simp only [Act.put, setIfInBounds_toArray, set_cons_zero, set_cons_succ, getElem_toArray, getElem_cons_zero, getElem_cons_succ]
        refine wpAnyH_take (i := 22) (v := undef) rfl (by kernel_rfl) (by kernel_rfl) (by kernel_rfl) (fun _ _ _ h => h) (Or.inr ⟨by rfl, rfl⟩) (by assumption) ?_
        try simp only [Act.put, setIfInBounds_toArray, set_cons_zero, set_cons_succ, getElem_toArray, getElem_cons_zero, getElem_cons_succ]
        refine wpAnyH_take (i := 23) (v := undef) rfl (by kernel_rfl) (by kernel_rfl) (by kernel_rfl) (fun _ _ _ h => h) (Or.inr ⟨by rfl, rfl⟩) (by assumption) ?_
        try simp only [Act.put, setIfInBounds_toArray, set_cons_zero, set_cons_succ, getElem_toArray, getElem_cons_zero, getElem_cons_succ]
        refine wpAnyH_take (i := 24) (v := undef) rfl (by kernel_rfl) (by kernel_rfl) (by kernel_rfl) (fun _ _ _ h => h) (Or.inr ⟨by rfl, rfl⟩) (by assumption) ?_
        try simp only [Act.put, setIfInBounds_toArray, set_cons_zero, set_cons_succ, getElem_toArray, getElem_cons_zero, getElem_cons_succ]
        refine wpAnyH_take (i := 25) (v := ?_) rfl (by kernel_rfl) (by kernel_rfl) (by kernel_rfl) (fun _ _ _ h => h) (Or.inl ⟨by rfl, ?_⟩) (by assumption) ?_
        rotate_left 1
        ·(intro w0 hSw; (try dsimp only at hSw); go_simp; try with_reducible rfl)
        try simp only [Act.put, setIfInBounds_toArray, set_cons_zero, set_cons_succ, getElem_toArray, getElem_cons_zero, getElem_cons_succ]
        refine wpAnyH_take (i := 26) (v := ?_) rfl (by kernel_rfl) (by kernel_rfl) (by kernel_rfl) (fun _ _ _ h => h) (Or.inl ⟨by rfl, ?_⟩) (by assumption) ?_
        rotate_left 1
        ·(intro w0 hSw; (try dsimp only at hSw); go_simp; try with_reducible rfl)
        try simp only [Act.put, setIfInBounds_toArray, set_cons_zero, set_cons_succ, getElem_toArray, getElem_cons_zero, getElem_cons_succ]
        refine wpAnyH_done (by kernel_rfl) ?_ _
        have HS2 := hid (show InMg w A n c sg (some ⟨b, off, none⟩) pn ps i O on oc (gk - 1) (.bool bb) (.int .i64 ((k : Int) + 1)) w3 from ⟨k + 1, by simp, hgk.out.2, by rw [HH.out]; simp, Own.next ho b1, f3⟩)
        clear ho fd f3 sk si cA hck hci
        go_wp2
        go_roundg (gk - 1)
        case measure => exact hgk.out.1
        case rel => exact HS2.out
     ·have hkp2 : k = ps.length := by have := HK.out; have := HL.out; omega
      obtain ⟨z, hz⟩ : ∃ z, bestB sg ps i = z := ⟨_, rfl⟩
      have HZ := hid (show bestK sg ps i k = z by rw [hkp2, bestK_best, hz])
      have HE2 := hid (show mgN sg ps (i + 1) = mgN sg ps i ++ (if z = true then [(i : Int)] else []) by simp only [mgN]; rw [hz])
      clear hz hkp2
      rw [HZ.out]
      have z1 : w.heap.size + 1 ≤ wr.heap.size := f.size
      cases z with
      | false =>
       have S : HeadMg w A n c sg P pn ps (G - 1) (.slice O on oc) (.int .i64 ((i : Int) + 1)) wr := ⟨i + 1, O, on, oc, by simp, hGk.out.2, rfl, by rw [HE2.out]; simpa using ho, f⟩
       have HSS := hid S
       clear S ho f
       go_wp2
       go_roundg (G - 1)
       case measure => exact hGk.out.1
       case rel => exact HSS.out
      | true =>
       go_wp2_with (at_builtin; refine app1 rfl _ _ rfl (w.heap.size + 1) O on oc _ rfl (Own.alloc ho _) wr.heap.size 1 (i : Int) rfl ((Row.new _ _ _).cell 0) (by omega) (by simp; omega) ?_; intro O' oc' w7 ho7 b7)
       have S : HeadMg w A n c sg P pn ps (G - 1) (.slice O' (on + 1) oc') (.int .i64 ((i : Int) + 1)) w7 := ⟨i + 1, O', on + 1, oc', by simp, hGk.out.2, rfl, by rw [HE2.out]; exact ho7, (f.alloc _).over b7⟩
       have HSS := hid S
       clear S ho ho7 f b7
       go_wp2
       go_roundg (G - 1)
       case measure => exact hGk.out.1
       case rel => exact HSS.out
   ·have hip2 : i = pn := by have := HI.out; omega
    have F := hid (list_of (w := w) (show mgI sg ps = mgN sg ps i by rw [HF.out, hip2]) ho (Nat.le_succ _) f.b)
    clear ho f hip2
    go_wp2
    go_ret
    exact F.out
end matchMost
end
section
open Go.Lib (hid)
namespace matchImpl
open Go.RowKit base ints sig same term termOk endAt inside marks app sym sub segs segsHelp kinds termFacts termMath posMath plainMath plain plainOf gives cursor fillMath matchMath matchSpec matchList matchMost whole takeMath take extended
set_option maxRecDepth 100000
theorem plain_s0 : plainL (givesL s0) 24 = [] := by
 have h : ∀ i, 0 ≤ i → givesL s0 i = vt i := fun i _ => gives_var (by rw [s0_get]; rfl)
 rw [plain_24 (m := 0) (by omega) h]
 rfl
theorem res_get (R : Option (List (List Int))) : plainL (givesL (R.getD s0)) 24 = resL R := by
 cases R with
 | none => exact plain_s0
 | some s => rfl
set_option maxHeartbeats 1000000 in
theorem implMatched (A P Q : Option Addr) (n c pn pc m mc : Nat) (sg p t : List Int) (w : World) (h : Seg w w.heap.size A n sg) (hp : Seg w w.heap.size P pn p) (ht : Seg w w.heap.size Q m t) (hn : n ≤ 1048576) (hpn : pn ≤ 1048576) (hm : m ≤ 1048576) (hmc : m ≤ mc) (hmc2 : mc ≤ 9223372036854775807) :
  Calls Try.prog 114 #[.agg #[.slice A n c], .slice P pn pc, .slice Q m mc] w (AnsM w (resL (matchO sg p t)) (instB sg p t)) := by
 obtain ⟨W, hW⟩ : ∃ W, W = (w.alloc (.cells #[.slice A n c] 29)).alloc (.cells #[.slice none 0 0] 39) := ⟨_, rfl⟩
 have M : Mr w W A n c sg P pn p Q m t := by rw [hW]; exact Mr.start h hp ht
 have HW := hid hW
 have L := hid (implTermOk A P n c pn pc sg p W M.ss M.sp hn hpn)
 have c0 : W.cell? ⟨w.heap.size, 0, none⟩ = some (.slice A n c) := M.r0.cell 0
 have c00 : ((w.alloc (.cells #[.slice A n c] 29)).alloc (.cells #[.slice none 0 0] 39)).cell? ⟨w.heap.size, 0, none⟩ = some (.slice A n c) := by rw [← hW]; exact c0
 clear hW h hp ht
 cases hokp : termOkB sg p with
 | false =>
  have HS := hid hokp
  clear hokp
  go_enter Try.func114, Try.ntmps114
  go_wp2_with fail
  rw [← HW.out]
  refine L.out.mono ?_
  rintro e w1 ⟨he, bb⟩
  rw [HS.out] at he
  subst he
  replace M := M.next bb
  have cR : w1.cell? ⟨w.heap.size + 1, 0, none⟩ = some (.slice none 0 0) := M.r1.cell 0
  have fR : w1.frozen? ⟨w.heap.size + 1, 0, none⟩ = false := M.r1.free 0
  have F1 := hid (ansM_off (w := w) (t := t) (.inl HS.out) M.b)
  have F2 := hid (ansM_off (w := w) (t := t) (.inl HS.out) ((M.b).setCell (p := ⟨w.heap.size + 1, 0, none⟩) (show w.heap.size ≤ w.heap.size + 1 by omega) (.slice none 0 0)))
  clear M L bb c0 c00
  go_wp2
  first
   | exact bodyPost_ret (v := .tuple #[.agg #[.slice none 0 0], .bool false]) (by simp [results, Try.results114, go_sem, cR]) rfl F1.out
   | exact bodyPost_ret (v := .tuple #[.agg #[.slice none 0 0], .bool false]) (by simp [results, Try.results114, go_sem, cR]) rfl F2.out
 | true =>
  have HSP := hid hokp
  have hp60 : pn ≤ 60 := by have h1 := (termOk_parts hokp).2.1; rw [M.sp.1] at h1; exact h1
  clear hokp
  cases hokt : termOkB sg t with
  | false =>
   have HS := hid hokt
   clear hokt
   go_enter Try.func114, Try.ntmps114
   go_wp2_with fail
   rw [← HW.out]
   refine L.out.mono ?_
   rintro e w1 ⟨he, bb⟩
   rw [HSP.out] at he
   subst he
   replace M := M.next bb
   clear bb L c0 c00
   have c0 : w1.cell? ⟨w.heap.size, 0, none⟩ = some (.slice A n c) := M.r0.cell 0
   go_wp2_with fail
   refine (implTermOk A Q n c m mc sg t _ M.ss M.st hn hm).mono ?_
   rintro e w2 ⟨he, bb⟩
   rw [HS.out] at he
   subst he
   replace M := M.next bb
   have cR : w2.cell? ⟨w.heap.size + 1, 0, none⟩ = some (.slice none 0 0) := M.r1.cell 0
   have fR : w2.frozen? ⟨w.heap.size + 1, 0, none⟩ = false := M.r1.free 0
   have F1 := hid (ansM_off (w := w) (p := p) (.inr HS.out) M.b)
   have F2 := hid (ansM_off (w := w) (p := p) (.inr HS.out) ((M.b).setCell (p := ⟨w.heap.size + 1, 0, none⟩) (show w.heap.size ≤ w.heap.size + 1 by omega) (.slice none 0 0)))
   clear M bb c0
   go_wp2
   first
    | exact bodyPost_ret (v := .tuple #[.agg #[.slice none 0 0], .bool false]) (by simp [results, Try.results114, go_sem, cR]) rfl F1.out
    | exact bodyPost_ret (v := .tuple #[.agg #[.slice none 0 0], .bool false]) (by simp [results, Try.results114, go_sem, cR]) rfl F2.out
  | true =>
   have HST := hid hokt
   have hm60 : m ≤ 60 := by have h1 := (termOk_parts hokt).2.1; rw [M.st.1] at h1; exact h1
   have HMO := hid (match_yes HSP.out hokt)
   have HIO := hid (show instB sg p t = (mst sg t p 0 s0).isSome by unfold instB; rw [HMO.out])
   clear hokt
   go_enter Try.func114, Try.ntmps114
   go_wp2_with fail
   rw [← HW.out]
   refine L.out.mono ?_
   rintro e w1 ⟨he, bb⟩
   rw [HSP.out] at he
   subst he
   replace M := M.next bb
   clear bb L c0 c00
   have c0 : w1.cell? ⟨w.heap.size, 0, none⟩ = some (.slice A n c) := M.r0.cell 0
   go_wp2_with fail
   refine (implTermOk A Q n c m mc sg t _ M.ss M.st hn hm).mono ?_
   rintro e w2 ⟨he, bb⟩
   rw [HST.out] at he
   subst he
   replace M := M.next bb
   clear bb c0
   have c0 : w2.cell? ⟨w.heap.size, 0, none⟩ = some (.slice A n c) := M.r0.cell 0
   have LX : Calls Try.prog 128 #[.agg z24, .slice P pn pc, .agg #[.slice A n c, .slice Q m mc, .int .i64 0]] w2 (AnsExt w2 (mst sg t p 0 s0)) :=
    extended A P Q n c pn pc m mc sg p t 0 z24 s0 w2 M.ss M.sp M.st hn hp60 hm60 hmc hmc2 (by rw [← M.st.1]; exact (term_len HST.out).1) HSP.out HST.out (TabR.new _ _) (fun j => by rw [s0_get]; simp)
   obtain ⟨R, hR⟩ : ∃ R, mst sg t p 0 s0 = R := ⟨_, rfl⟩
   rw [hR] at LX
   have HR := hid hR
   have HLX := hid LX
   clear LX hR
   have zw := M.r1.lt
   go_wp2_with (first
    | (refine rowBuild rfl 114 rfl z24 built_b ?_)
    | (go_at_call 128; refine HLX.out.mono ?_; rintro e w3 ⟨cs, rfl, tab, hsz, bb⟩; have one := hid tab.one; have h24 := hid tab.1; have bb3 := bb)
    | (refine rowAlloc rfl 114 rfl z24 zero_b ?_)
    | (refine rowStore rfl 114 _ _ rfl w3.heap.size cs z24 114 rfl rfl (heap_alloc_new w3 _) (by rw [h24.out]; exact size_b) (by rw [h24.out]; rfl) one.out ?_; rw [World.setRow_alloc_new])
    | (refine wpList_load_row rfl 114 _ rfl w3.heap.size rfl 114 cs (0, 0) _ (heap_alloc_new w3 _) Try.underlying114 rfl (by rw [h24.out]; exact size_b) ?_))
   have M3 := M.next bb
   have B4 : Below w3.heap.size w3 (w3.alloc (.cells cs 114)) := (Below.refl _ _).alloc (Nat.le_refl _) _
   have tab4 : TabR (w3.alloc (.cells cs 114)) (w3.alloc (.cells cs 114)).heap.size cs (R.getD s0) := (tab.below (B4.mono bb.size)).more (by have := bb.size; simp; omega)
   have LP := hid (plainB cs (R.getD s0) _ tab4 hsz)
   have M4 := M3.next B4
   have HI2 := hid (show instB sg p t = R.isSome by rw [HIO.out, HR.out])
   have HM2 := hid (show resL (matchO sg p t) = resL R by rw [HMO.out, HR.out])
   rw [res_get] at LP
   clear M M3 tab4 tab hsz bb bb3 one h24 HLX B4 c0
   refine LP.out.mono ?_
   rintro e w5 ⟨D, dn, dc, rfl, od, bb⟩
   have M5 := M4.next bb
   have z4 := M4.b.size
   have z5 := M4.r1.lt
   have cR : w5.cell? ⟨w.heap.size + 1, 0, none⟩ = some (.slice none 0 0) := M5.r1.cell 0
   have fR : w5.frozen? ⟨w.heap.size + 1, 0, none⟩ = false := M5.r1.free 0
   obtain ⟨b, hb⟩ : ∃ b, R.isSome = b := ⟨_, rfl⟩
   rw [hb]
   have F : AnsM w (resL (matchO sg p t)) (instB sg p t) (.returned (.tuple #[.agg #[.slice D dn dc], .bool b])) (w5.setCell ⟨w.heap.size + 1, 0, none⟩ (.slice D dn dc)) := by
    rw [HI2.out, HM2.out, hb]
    have hbt : Btw (w.heap.size + 1) (w.heap.size + 2) w5 (w5.setCell ⟨w.heap.size + 1, 0, none⟩ (.slice D dn dc)) := Btw.of_grown (grown_put (World.grownBy.refl _ _) _ _) (fun k hk => by injection hk; omega)
    have o2 := od.btw hbt (.inr (by simp at z5 ⊢; omega))
    exact ⟨D, dn, dc, rfl, o2.wider (by simp at z4 ⊢; omega) (by simp), (M5.b).setCell (p := ⟨w.heap.size + 1, 0, none⟩) (show w.heap.size ≤ w.heap.size + 1 by omega) _⟩
   have HF := hid F
   clear F od bb M4 M5 HIO hb LP
   go_wp2
   exact bodyPost_ret (v := .tuple #[.agg #[.slice D dn dc], .bool b]) (by simp [results, Try.results114, go_sem, cR]) rfl HF.out
set_option maxHeartbeats 1000000 in
theorem implInstanceIn (A P Q : Option Addr) (n c pn pc m mc : Nat) (sg p t : List Int) (w : World) (h : Seg w w.heap.size A n sg) (hp : Seg w w.heap.size P pn p) (ht : Seg w w.heap.size Q m t) (hn : n ≤ 1048576) (hpn : pn ≤ 1048576) (hm : m ≤ 1048576) (hmc : m ≤ mc) (hmc2 : mc ≤ 9223372036854775807) :
  Calls Try.prog 85 #[.agg #[.slice A n c], .slice P pn pc, .slice Q m mc] w (Tells w (instB sg p t)) := by
 obtain ⟨W, hW⟩ : ∃ W, W = w.alloc (.cells #[.slice A n c] 29) := ⟨_, rfl⟩
 have bW : Below w.heap.size w W := by rw [hW]; exact (Below.refl _ _).alloc (Nat.le_refl _) _
 have HW := hid hW
 have L := hid (implMatched A P Q n c pn pc m mc sg p t W (h.next bW) (hp.next bW) (ht.next bW) hn hpn hm hmc hmc2)
 clear hW h hp ht
 generalize instB sg p t = b at *
 go_enter Try.func85, Try.ntmps85
 go_wp2_with fail
 rw [← HW.out]
 refine L.out.mono ?_
 rintro e w1 ⟨D, dn, dc, rfl, od, bb⟩
 have F := hid (fun o => (show Tells w b (.returned (.bool b)) (w1.alloc o) from ⟨rfl, (next_trans bW bb).alloc (next_trans bW bb).size _⟩))
 clear od bb L bW
 go_wp2
 go_ret
 exact F.out _
set_option maxHeartbeats 1000000 in
theorem implMoreGeneral (A P Q : Option Addr) (n c pn pc m mc : Nat) (sg p t : List Int) (w : World) (h : Seg w w.heap.size A n sg) (hp : Seg w w.heap.size P pn p) (ht : Seg w w.heap.size Q m t) (hn : n ≤ 1048576) (hpn : pn ≤ 1048576) (hm : m ≤ 1048576) (hpc : pn ≤ pc) (hpc2 : pc ≤ 9223372036854775807) (hmc : m ≤ mc) (hmc2 : mc ≤ 9223372036854775807) :
  Calls Try.prog 50 #[.agg #[.slice A n c], .slice P pn pc, .slice Q m mc] w (Tells w (moreB sg p t)) := by
 obtain ⟨W, hW⟩ : ∃ W, W = w.alloc (.cells #[.slice A n c] 29) := ⟨_, rfl⟩
 have f : Fr w W A n c sg Q m t := by rw [hW]; exact Fr.start h ht
 have sp : Seg W W.heap.size P pn p := (hp.below f.b).more (Nat.le_of_lt f.size)
 have HW := hid hW
 have L := hid (implInstanceIn A P Q n c pn pc m mc sg p t W f.s1 sp f.t1 hn hpn hm hmc hmc2)
 clear hW h hp ht
 obtain ⟨b1, e1⟩ : ∃ b, instB sg p t = b := ⟨_, rfl⟩
 obtain ⟨b2, e2⟩ : ∃ b, instB sg t p = b := ⟨_, rfl⟩
 have HF := hid (show moreB sg p t = (b1 && !b2) by unfold moreB; rw [e1, e2])
 rw [e1] at L
 have E2 := hid e2
 clear e1 e2
 go_enter Try.func50, Try.ntmps50
 go_wp2_with fail
 rw [← HW.out]
 refine L.out.mono ?_
 rintro e w1 ⟨rfl, bb⟩
 replace f := f.next bb
 replace sp := sp.next bb
 have cA := f.cell
 clear bb L
 cases b1 with
 | false =>
  have F := hid (show Tells w (moreB sg p t) (.returned (.bool false)) w1 from ⟨by rw [HF.out]; rfl, f.b⟩)
  clear f sp cA
  go_wp2
  go_ret
  exact F.out
 | true =>
  go_wp2_with fail
  refine (implInstanceIn A Q P n c m mc pn pc sg t p _ f.s1 f.t1 sp hn hm hpn hpc hpc2).mono ?_
  rintro e w2 ⟨he, bb⟩
  rw [E2.out] at he
  subst he
  have F := hid (show Tells w (moreB sg p t) (.returned (.bool (!b2))) w2 from ⟨by rw [HF.out]; rfl, (f.next bb).b⟩)
  clear f sp cA bb
  go_wp2
  go_ret
  exact F.out
def HeadTo (w : World) (A : Option Addr) (n c : Nat) (sg : List Int) (P : Option Addr) (pn : Nat) (ps : List (List Int)) (i : Value) (wr : World) : Prop :=
 ∃ k : Nat, i = .int .i64 k ∧ k ≤ pn ∧ (∀ j, j < k → termOkB sg (ps.getD j []) = true) ∧ Fs w wr A n c sg P pn ps
set_option maxHeartbeats 1000000 in
theorem implTermsOk (A P : Option Addr) (n c pn pc : Nat) (sg : List Int) (ps : List (List Int)) (w : World) (h : Seg w w.heap.size A n sg) (hp : Segs w w.heap.size P pn ps) (hn : n ≤ 1048576) (ht : tot ps ≤ 1048576) :
  Calls Try.prog 48 #[.agg #[.slice A n c], .slice P pn pc] w (Tells w (termsB sg ps)) := by
 obtain ⟨W, hW⟩ : ∃ W, W = w.alloc (.cells #[.slice A n c] 29) := ⟨_, rfl⟩
 have f : Fs w W A n c sg P pn ps := by rw [hW]; exact Fs.start h hp
 have HW := hid hW
 have HL := hid hp.1
 have HE := hid (tot_each ht)
 have hpn : pn ≤ 1048576 := tot_len hp.1 ht
 clear hW h hp ht
 by_cases hlong : 12 < pn
 ·have F := hid (show Tells w (termsB sg ps) (.returned (.bool false)) W from ⟨by rw [terms_long (by rw [HL.out]; exact hlong)], f.b⟩)
  clear f
  go_enter Try.func48, Try.ntmps48
  go_wp2_with fail
  rw [← HW.out]
  go_ret
  exact F.out
 ·have S0 : HeadTo w A n c sg P pn ps (.int .i64 0) W := ⟨0, rfl, Nat.zero_le _, fun j hj => absurd hj (Nat.not_lt_zero _), f⟩
  have HS0 := hid S0
  clear S0 f
  go_enter Try.func48, Try.ntmps48
  go_wp2_with fail
  rw [← HW.out]
  go_loopw [12] (fun i wr => HeadTo w A n c sg P pn ps i wr) (fun i _ => pn - (intOf i).toNat)
  case atStart => exact HS0.out
  case round =>
   obtain ⟨k, rfl, hk, hlow, f⟩ := hrel
   have HLOW := hid hlow
   clear hlow HS0
   by_cases hlt : k < pn
   ·obtain ⟨b, off, D, dn, dc, rfl, hbb, hc, hsg, hcap⟩ := f.s'.spot hlt
    have hdn : dn ≤ 1048576 := by have := HE.out k; rw [hsg.1] at this; exact this
    have cA := f.cell
    have LT := hid (implTermOk A D n c dn dc sg (ps.getD k []) wr f.s1 (hsg.more (Nat.le_of_lt f.size)) hn hdn)
    clear hsg hcap
    cases hok : termOkB sg (ps.getD k []) with
    | false =>
     have HS := hid hok
     clear hok
     go_wp2_with fail
     refine LT.out.mono ?_
     rintro e w1 ⟨he, bb⟩
     rw [HS.out] at he
     subst he
     have F := hid (show Tells w (termsB sg ps) (.returned (.bool false)) w1 from ⟨by rw [terms_bad (by rw [HL.out]; exact hlt) HS.out], (f.next bb).b⟩)
     clear f bb cA LT hc
     go_wp2
     go_ret
     exact F.out
    | true =>
     have HS := hid hok
     clear hok
     go_wp2_with fail
     refine LT.out.mono ?_
     rintro e w1 ⟨he, bb⟩
     rw [HS.out] at he
     subst he
     have S : HeadTo w A n c sg (some ⟨b, off, none⟩) pn ps (.int .i64 ((k : Int) + 1)) w1 := ⟨k + 1, by simp, hlt, fun j hj => by
      by_cases e : j = k
      ·rw [e]; exact HS.out
      ·exact HLOW.out j (by omega), f.next bb⟩
     have HSS := hid S
     clear S f bb cA LT hc
     go_wp2
     go_roundw
     case rel => exact HSS.out
     case measure => simp [intOf]; omega
   ·have F := hid (show Tells w (termsB sg ps) (.returned (.bool true)) wr from ⟨by rw [terms_good (by rw [HL.out]; omega) (fun i hi => HLOW.out i (by rw [HL.out] at hi; omega))], f.b⟩)
    clear f
    go_wp2
    go_ret
    exact F.out
end matchImpl
end
section
namespace matchImplB
open Go.RowKit base ints sig same term termOk endAt inside marks app sym sub segs segsHelp kinds termFacts termMath posMath plainMath plain plainOf gives cursor fillMath matchMath matchSpec matchList matchMost whole takeMath take extended pathSpec matchImpl
set_option maxRecDepth 100000
theorem all_terms {sg : List Int} {ps : List (List Int)} (h : sigOkB sg = true) : allB sg ps = termsB sg ps := by unfold allB termsB; rw [h]; rfl
end matchImplB
end
section
open Go.Lib (hid)
namespace anyOf
open Go.RowKit base ints sig segs segsHelp inside
set_option maxRecDepth 100000
def Tests (g : Nat) (lb : Array Value) (w : World) (f : List Int → Bool) : Prop :=
 ∀ (W : World) (D : Option Addr) (dn dc : Nat) (ys : List Int), Below w.heap.size w W → Seg W W.heap.size D dn ys → dn ≤ 1048576 → Cap D dn dc → Calls Try.prog g (#[.slice D dn dc] ++ lb) W (Tells W (f ys))
theorem Tests.next {g : Nat} {lb : Array Value} {w w' : World} {f : List Int → Bool} (h : Tests g lb w f) (hb : Below w.heap.size w w') : Tests g lb w' f :=
 fun W D dn dc ys hW hs hn hc => h W D dn dc ys (next_trans hb hW) hs hn hc
def AnsIx (w : World) (f : List Int → Bool) (xss : List (List Int)) (e : Ending) (w' : World) : Prop := ∃ z : Int, e = .returned (.int .i64 z) ∧ -1 ≤ z ∧ z ≤ 1048576 ∧ decide (0 ≤ z) = xss.any f ∧ Below w.heap.size w w'
def HeadIx (w : World) (n : Nat) (f : List Int → Bool) (xss : List (List Int)) (i : Value) (wr : World) : Prop := ∃ k : Nat, k ≤ n ∧ i = .int .i64 k ∧ (∀ j, j < k → f (xss.getD j []) = false) ∧ Below w.heap.size w wr
theorem any_at {f : List Int → Bool} {xss : List (List Int)} {k : Nat} (hk : k < xss.length) (h : f (xss.getD k []) = true) : xss.any f = true := by
 rw [List.any_eq_true]
 exact ⟨xss[k], List.getElem_mem hk, by simpa [List.getD, hk] using h⟩
theorem any_none {f : List Int → Bool} {xss : List (List Int)} (h : ∀ j, j < xss.length → f (xss.getD j []) = false) : xss.any f = false := by
 rw [List.any_eq_false]
 intro x hx
 obtain ⟨i, hi, rfl⟩ := List.getElem_of_mem hx
 have := h i hi
 simpa [List.getD, hi] using this
set_option maxHeartbeats 2000000 in
theorem indexFunc (g : Nat) (lb : Array Value) (eg : ∀ args w, (callFunc g args).run Try.prog w = .ok (.enter g args) w) (f : List Int → Bool) (A : Option Addr) (n c : Nat) (xss : List (List Int)) (w : World) (hT : Tests g lb w f)
  (h : Segs w w.heap.size A n xss) (hn : n ≤ 1048576) (hE : ∀ j, (xss.getD j []).length ≤ 1048576) :
  Calls Try.prog 86 #[.slice A n c, .func (.func g) #[] lb] w (AnsIx w f xss) := by
 have HE := hid hE
 have HL := hid h.1
 have HK := hid hT
 have HH : Hid (HeadIx w n f xss (.int .i64 0) w) := hid ⟨0, Nat.zero_le _, rfl, fun j hj => absurd hj (Nat.not_lt_zero _), Below.refl _ _⟩
 clear hE hT
 go_enter Try.func86, Try.ntmps86
 go_wp2_with fail
 go_loopw [8] (fun i wr => HeadIx w n f xss i wr) (fun i _ => n - (intOf i).toNat)
 case atStart => exact HH.out
 case round =>
  obtain ⟨k, hk, rfl, hlow, hb⟩ := hrel
  have HLOW := hid hlow
  clear hlow HH
  by_cases hlt : k < n
  ·obtain ⟨b, off, A', n', cc, rfl, hbB, hx0, hseg, hcap⟩ := h.spot hlt
   have hx : wr.cell? ⟨b, off + k, none⟩ = some (.slice A' n' cc) := (hb.cell (p := ⟨b, off + k, none⟩) hbB).trans hx0
   have hn' : n' ≤ 1048576 := by rw [← hseg.1]; exact HE.out k
   obtain ⟨ys, hys⟩ : ∃ ys, xss.getD k [] = ys := ⟨_, rfl⟩
   rw [hys] at hseg
   have HY := hid hys
   have hcall := HK.out wr A' n' cc ys hb (hseg.below hb |>.more hb.size) hn' hcap
   obtain ⟨v, hv⟩ : ∃ v, f ys = v := ⟨_, rfl⟩
   rw [hv] at hcall
   have HV := hid hv
   have HC := hid hcall
   have i0 : (0 : Int) ≤ (k : Int) := by omega
   have i1 : (k : Int) < (n : Int) := by omega
   clear hseg hcap h hx0 hys hv hcall
   cases v with
   | true =>
    go_wp2_with (first
     | (go_at_fn g; refine HC.out.mono ?_; rintro e w1 ⟨rfl, bb⟩))
    have F : AnsIx w f xss (.returned (.int .i64 (k : Int))) w1 := ⟨k, rfl, by omega, by omega, by rw [decide_eq_true (by omega)]; exact (any_at (by rw [HL.out]; exact hlt) (by rw [HY.out]; exact HV.out)).symm, next_trans hb bb⟩
    have HF := hid F
    clear F hx bb hb HC
    go_wp2
    go_ret
    exact HF.out
   | false =>
    go_wp2_with (first
     | (go_at_fn g; refine HC.out.mono ?_; rintro e w1 ⟨rfl, bb⟩))
    have S1 : HeadIx w n f xss (.int .i64 ((k : Int) + 1)) w1 := ⟨k + 1, hlt, by simp, fun j hj => by
     by_cases e : j = k
     ·rw [e, HY.out]; exact HV.out
     ·exact HLOW.out j (by omega), next_trans hb bb⟩
    have HS1 := hid S1
    clear S1 hx bb hb HC
    go_wp2
    go_roundw
    case rel => exact HS1.out
    case measure => simp [intOf]; omega
  ·have F : AnsIx w f xss (.returned (.int .i64 (-1))) wr := ⟨-1, rfl, by omega, by omega, (any_none (fun j hj => HLOW.out j (by rw [HL.out] at hj; omega))).symm, hb⟩
   have HF := hid F
   clear F h hb
   go_wp2
   go_ret
   exact HF.out
theorem containsFunc (g : Nat) (lb : Array Value) (eg : ∀ args w, (callFunc g args).run Try.prog w = .ok (.enter g args) w) (f : List Int → Bool) (A : Option Addr) (n c : Nat) (xss : List (List Int)) (w : World) (hT : Tests g lb w f)
  (h : Segs w w.heap.size A n xss) (hn : n ≤ 1048576) (hE : ∀ j, (xss.getD j []).length ≤ 1048576) :
  Calls Try.prog 53 #[.slice A n c, .func (.func g) #[] lb] w (Tells w (xss.any f)) := by
 have L := hid (indexFunc g lb eg f A n c xss w hT h hn hE)
 clear h hE hT
 go_enter Try.func53, Try.ntmps53
 go_wp2_with fail
 refine L.out.mono ?_
 rintro e w' ⟨z, rfl, h1, h2, hz, bb⟩
 have HZ := hid hz
 have HB := hid bb
 clear hz L bb
 go_wp2
 go_ret
 exact ⟨by rw [← HZ.out]; rfl, HB.out⟩
end anyOf
end
section
open Go.Lib (hid)
namespace matchImplC
open Go.RowKit base ints sig same term termOk endAt inside marks app sym sub segs segsHelp kinds termFacts termMath posMath plainMath plain plainOf gives cursor fillMath matchMath matchSpec matchList matchMost whole takeMath take extended pathSpec matchImpl renMath varsOf variant anyOf matchImplB
set_option maxRecDepth 100000
theorem any_range {f : List Int → Bool} {ps : List (List Int)} : ∀ n, n ≤ ps.length → ((List.range n).any fun k => f (ps.getD k [])) = (ps.take n).any f
 | 0, _ => rfl
 | n + 1, h => by
  rw [List.range_succ, List.any_append, any_range n (by omega), List.take_succ_eq_append_getElem h, List.any_append]
  simp [List.getD, show n < ps.length by omega]
theorem best_any {sg : List Int} {ps : List (List Int)} {i : Nat} (hi : i ≤ ps.length) : bestB sg ps i = (!(ps.any fun q => moreB sg q (ps.getD i [])) && !((ps.take i).any fun q => variantB sg q (ps.getD i []))) := by
 have h1 := any_range (f := fun q => moreB sg q (ps.getD i [])) (ps := ps) ps.length (Nat.le_refl _)
 have h2 := any_range (f := fun q => variantB sg q (ps.getD i [])) (ps := ps) i hi
 rw [List.take_length] at h1
 rw [← h1, ← h2, Bool.eq_iff_iff]
 unfold bestB
 rw [List.all_eq_true, Bool.and_eq_true, Bool.not_eq_true', Bool.not_eq_true', List.any_eq_false, List.any_eq_false]
 constructor
 ·intro h
  refine ⟨fun k hk => ?_, fun k hk => ?_⟩
  ·have := h k hk
   rw [Bool.not_eq_true', Bool.or_eq_false_iff] at this
   rw [this.1]; simp
  ·rw [List.mem_range] at hk
   have := h k (List.mem_range.2 (by omega))
   rw [Bool.not_eq_true', Bool.or_eq_false_iff, decide_eq_true hk, Bool.true_and] at this
   unfold variantB
   rw [this.2]; simp
 ·rintro ⟨g1, g2⟩ k hk
  have a := g1 k hk
  rw [Bool.not_eq_true] at a
  rw [a, Bool.false_or]
  by_cases hki : k < i
  ·have b := g2 k (List.mem_range.2 hki)
   unfold variantB at b
   rw [Bool.not_eq_true] at b
   rw [b, Bool.and_false]; rfl
  ·rw [decide_eq_false hki]; rfl
theorem testMore (bs bp : Nat) (A D : Option Addr) (n c dn dc : Nat) (sg p : List Int) (w : World) (hcs : w.cell? ⟨bs, 0, none⟩ = some (.slice A n c)) (hcp : w.cell? ⟨bp, 0, none⟩ = some (.slice D dn dc)) (hs : Seg w w.heap.size A n sg) (hp : Seg w w.heap.size D dn p)
  (hn : n ≤ 1048576) (hdn : dn ≤ 1048576) (hcap : Cap D dn dc) : Tests 49 #[.pointer (some ⟨bs, 0, none⟩), .pointer (some ⟨bp, 0, none⟩)] w (fun q => moreB sg q p) := by
 intro W E en ec q hW hq hen hec
 have d1 : W.cell? ⟨bs, 0, none⟩ = some (.slice A n c) := (hW.cell (p := ⟨bs, 0, none⟩) (World.block_lt_of_cell? _ _ hcs)).trans hcs
 have d2 : W.cell? ⟨bp, 0, none⟩ = some (.slice D dn dc) := (hW.cell (p := ⟨bp, 0, none⟩) (World.block_lt_of_cell? _ _ hcp)).trans hcp
 have L := hid (implMoreGeneral A E D n c en ec dn dc sg q p W (hs.next hW) hq (hp.next hW) hn hen hdn hec.1 hec.2.1 hcap.1 hcap.2.1)
 clear hcs hcp hs hp hW hq hec hcap
 show Calls Try.prog 49 #[.slice E en ec, .pointer (some ⟨bs, 0, none⟩), .pointer (some ⟨bp, 0, none⟩)] W (Tells W (moreB sg q p))
 generalize moreB sg q p = v at *
 go_enter Try.func49, Try.ntmps49
 go_wp2_with fail
 refine L.out.mono ?_
 rintro e w1 ⟨rfl, bb⟩
 have B := hid bb
 clear L bb
 go_wp2
 go_ret
 exact ⟨rfl, B.out⟩
theorem testVariant (bs bp : Nat) (A D : Option Addr) (n c dn dc : Nat) (sg p : List Int) (w : World) (hcs : w.cell? ⟨bs, 0, none⟩ = some (.slice A n c)) (hcp : w.cell? ⟨bp, 0, none⟩ = some (.slice D dn dc)) (hs : Seg w w.heap.size A n sg) (hp : Seg w w.heap.size D dn p)
  (hn : n ≤ 1048576) (hdn : dn ≤ 1048576) : Tests 51 #[.pointer (some ⟨bs, 0, none⟩), .pointer (some ⟨bp, 0, none⟩)] w (fun q => variantB sg q p) := by
 intro W E en ec q hW hq hen hec
 have d1 : W.cell? ⟨bs, 0, none⟩ = some (.slice A n c) := (hW.cell (p := ⟨bs, 0, none⟩) (World.block_lt_of_cell? _ _ hcs)).trans hcs
 have d2 : W.cell? ⟨bp, 0, none⟩ = some (.slice D dn dc) := (hW.cell (p := ⟨bp, 0, none⟩) (World.block_lt_of_cell? _ _ hcp)).trans hcp
 have L := hid (implVariantIn A E D n c en ec dn dc sg q p W (hs.next hW) hq (hp.next hW) hn hen hdn)
 clear hcs hcp hs hp hW hq hec
 show Calls Try.prog 51 #[.slice E en ec, .pointer (some ⟨bs, 0, none⟩), .pointer (some ⟨bp, 0, none⟩)] W (Tells W (variantB sg q p))
 generalize variantB sg q p = v at *
 go_enter Try.func51, Try.ntmps51
 go_wp2_with fail
 refine L.out.mono ?_
 rintro e w1 ⟨rfl, bb⟩
 have B := hid bb
 clear L bb
 go_wp2
 go_ret
 exact ⟨rfl, B.out⟩
theorem segs_take {w : World} {B b off n i : Nat} {xss : List (List Int)} (h : Segs w B (some ⟨b, off, none⟩) n xss) (hi : i ≤ n) : Segs w B (some ⟨b, off, none⟩) i (xss.take i) := by
 refine ⟨by rw [List.length_take, h.1]; omega, fun h0 => ?_⟩
 obtain ⟨b', off', e, hb, hc⟩ := h.2 (by omega)
 refine ⟨b', off', e, hb, fun j hj => ?_⟩
 obtain ⟨A', n', c', h1, h2, h3⟩ := hc j (by omega)
 exact ⟨A', n', c', h1, by simpa [List.getD, List.getElem?_take, hj] using h2, h3⟩
theorem take_each {xss : List (List Int)} {M i : Nat} (h : ∀ j, (xss.getD j []).length ≤ M) (j : Nat) : ((xss.take i).getD j []).length ≤ M := by
 by_cases hj : j < i
 ·have := h j
  simpa [List.getD, List.getElem?_take, hj] using this
 ·simp [List.getD, List.getElem?_take, hj]
set_option maxHeartbeats 4000000 in
theorem implMostGeneral (A P : Option Addr) (n c pn pc : Nat) (sg : List Int) (ps : List (List Int)) (w : World) (h : Seg w w.heap.size A n sg) (hp : Segs w w.heap.size P pn ps) (hn : n ≤ 1048576) (htot : tot ps ≤ 1048576) (hpc : pn ≤ pc) (hpc2 : pc ≤ 9223372036854775807) :
  Calls Try.prog 14 #[.agg #[.slice A n c], .slice P pn pc] w (AnsList w (mgI sg ps)) := by
 obtain ⟨W, hW⟩ : ∃ W, W = w.alloc (.cells #[.slice A n c] 29) := ⟨_, rfl⟩
 have f : Fs w W A n c sg P pn ps := by rw [hW]; exact Fs.start h hp
 have HW := hid hW
 have HL := hid hp.1
 have HE := hid (tot_each htot)
 have cA := f.cell
 have cA0 : (w.alloc (.cells #[.slice A n c] 29)).cell? ⟨w.heap.size, 0, none⟩ = some (.slice A n c) := by rw [← hW]; exact cA
 have LP := hid (implTermsOk A P n c pn pc sg ps W f.s1 (f.s'.more (Nat.le_of_lt f.size)) hn htot)
 have HPOS : Hid (0 < pn → termsB sg ps = true → allB sg ps = true) := hid (fun h0 ht => by
  have h1 := (terms_parts ht).2 0 (by rw [hp.1]; exact h0)
  rw [all_terms (termOk_parts h1).1]; exact ht)
 clear hW h hp htot
 cases hall : termsB sg ps with
 | false =>
  have HS := hid hall
  have HF := hid (show mgI sg ps = [] by unfold mgI; rw [if_neg]; unfold allB; rw [show (decide (ps.length ≤ 12) && ps.all (termOkB sg)) = false from hall, Bool.and_false]; simp)
  clear hall
  go_enter Try.func14, Try.ntmps14
  go_wp2_with fail
  rw [← HW.out]
  refine LP.out.mono ?_
  rintro e w1 ⟨he, bb⟩
  rw [HS.out] at he
  subst he
  have F := hid (list_of (w := w) HF.out (Own.nil w1 w.heap.size) (Nat.le_refl _) (f.next bb).b)
  clear f bb LP cA cA0
  go_wp2
  go_ret
  exact F.out
 | true =>
  have HS := hid hall
  have hp12 : pn ≤ 12 := by have h1 := (terms_parts hall).1; rw [HL.out] at h1; exact h1
  have HF := hid (show mgI sg ps = mgN sg ps pn by
   by_cases h0 : 0 < pn
   ·unfold mgI; rw [if_pos (HPOS.out h0 hall), HL.out]
   ·have e : pn = 0 := by omega
    unfold mgI
    rw [HL.out, e]
    split <;> rfl)
  have hmf : ∀ (fn : Fn) (first cap : Array Value) (w : World), (Instr.makeFunc fn first cap).run Try.prog w = .ok (.func fn first cap) w := fun _ _ _ _ => rfl
  clear hall
  go_enter Try.func14, Try.ntmps14
  go_wp2_with fail
  rw [← HW.out]
  refine LP.out.mono ?_
  rintro e w2 ⟨he, bb⟩
  rw [HS.out] at he
  subst he
  have S0 : HeadMg w A n c sg P pn ps pn (.slice none 0 0) (.int .i64 0) w2 := ⟨0, none, 0, 0, rfl, by omega, rfl, Own.nil _ _, f.next bb⟩
  have HS0 := hid S0
  clear S0 f bb cA cA0 LP
  go_wp2_with fail
  go_loopg [5, 16] pn (fun g out k wr => HeadMg w A n c sg P pn ps g out k wr)
  case atStart => exact HS0.out
  case round =>
   obtain ⟨i, O, on, oc, rfl, hi, rfl, ho, f⟩ := hrel
   clear HS0
   have HI := hid hi
   clear hi
   have hon : on ≤ 12 := by have h1 := Own.len ho; have h2 := mg_len (sg := sg) (ps := ps) i; have := HI.out; omega
   by_cases hip : i < pn
   ·obtain ⟨b, off, D, dn, dc, rfl, hbb, hc, hsg, hcap⟩ := f.s'.spot hip
    have hdn : dn ≤ 1048576 := by have := HE.out i; rw [hsg.1] at this; exact this
    have hgk := hid (show gk - 1 < gk ∧ i + 1 + (gk - 1) = pn by have := HI.out; omega)
    obtain ⟨W5, hW5⟩ : ∃ W, W = wr.alloc (.cells #[.slice D dn dc] 22) := ⟨_, rfl⟩
    have B5 : Below wr.heap.size wr W5 := by rw [hW5]; exact (Below.refl _ _).alloc (Nat.le_refl _) _
    have f5 := f.next B5
    have ho5 := Own.next ho B5
    have cp : W5.cell? ⟨wr.heap.size, 0, none⟩ = some (.slice D dn dc) := by rw [hW5]; exact (Row.new _ _ _).cell 0
    have sp : Seg W5 W5.heap.size D dn (ps.getD i []) := (hsg.more (Nat.le_of_lt f.size)).next B5
    have s5 := f5.s'.more (Nat.le_of_lt f5.size)
    have LM := hid (containsFunc 49 #[.pointer (some ⟨w.heap.size, 0, none⟩), .pointer (some ⟨wr.heap.size, 0, none⟩)] (enters_of Try.func49 (by kernel_rfl) rfl) _ (some ⟨b, off, none⟩) pn pc ps W5 (testMore w.heap.size wr.heap.size A D n c dn dc sg (ps.getD i []) W5 f5.cell cp f5.s1 sp hn hdn hcap) s5 (by omega) HE.out)
    have TV := hid (testVariant w.heap.size wr.heap.size A D n c dn dc sg (ps.getD i []) W5 f5.cell cp f5.s1 sp hn hdn)
    have ST := hid (segs_take (i := i) s5 (by omega))
    have HB := hid (best_any (sg := sg) (ps := ps) (i := i) (by rw [HL.out]; omega))
    have HE2 := hid (show mgN sg ps (i + 1) = mgN sg ps i ++ (if bestB sg ps i = true then [(i : Int)] else []) from rfl)
    have HW5 := hid hW5
    have z0 := f.size
    clear hW5 f ho sp s5 cp hsg hcap B5
    obtain ⟨v1, hv1⟩ : ∃ v, (ps.any fun q => moreB sg q (ps.getD i [])) = v := ⟨_, rfl⟩
    have HV1 := hid hv1
    rw [hv1] at LM
    clear hv1
    cases v1 with
    | true =>
     have HN := hid (show bestB sg ps i = false by rw [HB.out, HV1.out]; rfl)
     go_wp2_with fail
     rw [← HW5.out]
     refine LM.out.mono ?_
     rintro e w6 ⟨rfl, bb⟩
     have S : HeadMg w A n c sg (some ⟨b, off, none⟩) pn ps (gk - 1) (.slice O on oc) (.int .i64 ((i : Int) + 1)) w6 := ⟨i + 1, O, on, oc, by simp, hgk.out.2, rfl, by rw [HE2.out, HN.out]; simpa using Own.next ho5 bb, f5.next bb⟩
     have HSS := hid S
     clear S ho5 f5 bb LM hc
     go_wp2
     go_roundg (gk - 1)
     case measure => exact hgk.out.1
     case rel => exact HSS.out
    | false =>
     have i0 : (0 : Int) ≤ (i : Int) := by omega
     have i1 : (i : Int) ≤ (pc : Int) := by omega
     have i3 : ¬ pc = 0 := by omega
     obtain ⟨v2, hv2⟩ : ∃ v, ((ps.take i).any fun q => variantB sg q (ps.getD i [])) = v := ⟨_, rfl⟩
     have HV2 := hid hv2
     clear hv2
     have HN := hid (show bestB sg ps i = !v2 by rw [HB.out, HV1.out, HV2.out]; rfl)
     go_wp2_with fail
     rw [← HW5.out]
     refine LM.out.mono ?_
     rintro e w6 ⟨rfl, bb⟩
     have LV := hid (containsFunc 51 #[.pointer (some ⟨w.heap.size, 0, none⟩), .pointer (some ⟨wr.heap.size, 0, none⟩)] (enters_of Try.func51 (by kernel_rfl) rfl) _ (some ⟨b, off, none⟩) i pc (ps.take i) w6 (TV.out.next bb) (ST.out.next bb) (by omega) (take_each HE.out))
     have f6 := f5.next bb
     have ho6 := Own.next ho5 bb
     rw [HV2.out] at LV
     clear bb f5 ho5 LM TV ST hc
     cases v2 with
     | true =>
      go_wp2_with fail
      refine LV.mono ?_
      rintro e w7 ⟨rfl, bb⟩
      have S : HeadMg w A n c sg (some ⟨b, off, none⟩) pn ps (gk - 1) (.slice O on oc) (.int .i64 ((i : Int) + 1)) w7 := ⟨i + 1, O, on, oc, by simp, hgk.out.2, rfl, by rw [HE2.out, HN.out]; simpa using Own.next ho6 bb, f6.next bb⟩
      have HSS := hid S
      clear S ho6 f6 bb LV
      go_wp2
      go_roundg (gk - 1)
      case measure => exact hgk.out.1
      case rel => exact HSS.out
     | false =>
      go_wp2_with fail
      refine LV.mono ?_
      rintro e w7 ⟨rfl, bb⟩
      have f7 := f6.next bb
      have ho7 := Own.next ho6 bb
      have z1 : w.heap.size + 1 ≤ w7.heap.size := f7.size
      clear bb LV f6 ho6
      go_wp2_with (at_builtin; refine app1 rfl _ _ rfl (w.heap.size + 1) O on oc _ rfl (Own.alloc ho7 _) w7.heap.size 1 (i : Int) rfl ((Row.new _ _ _).cell 0) (by omega) (by simp; omega) ?_; intro O' oc' w8 ho8 b8)
      have S : HeadMg w A n c sg (some ⟨b, off, none⟩) pn ps (gk - 1) (.slice O' (on + 1) oc') (.int .i64 ((i : Int) + 1)) w8 := ⟨i + 1, O', on + 1, oc', by simp, hgk.out.2, rfl, by rw [HE2.out, HN.out]; exact ho8, (f7.alloc _).over b8⟩
      have HSS := hid S
      clear S ho7 ho8 f7 b8
      go_wp2
      go_roundg (gk - 1)
      case measure => exact hgk.out.1
      case rel => exact HSS.out
   ·have hip2 : i = pn := by have := HI.out; omega
    have F := hid (list_of (w := w) (show mgI sg ps = mgN sg ps i by rw [HF.out, hip2]) ho (Nat.le_succ _) f.b)
    clear ho f hip2
    go_wp2
    go_ret
    exact F.out
theorem specMostGeneralX (A P : Option Addr) (n c pn pc : Nat) (sg : List Int) (ps : List (List Int)) (w : World) (h : Seg w w.heap.size A n sg) (hp : Segs w w.heap.size P pn ps) (hn : n ≤ 1048576) (htot : tot ps ≤ 1048576) (_ : pn ≤ pc) (_ : pc ≤ 9223372036854775807) :
  Calls Try.prog 11 #[.agg #[.slice A n c], .slice P pn pc] w (AnsList w (mgI sg ps)) := specMostGeneral A P n c pn pc sg ps w h hp hn htot
end matchImplC
end
section
namespace matchTot
open Go.RowKit base ints sig term termOk app sym sub segs segsHelp plainMath gives plainOf fillMath termFacts matchMath matchSpec
end matchTot
end
section
open Go.Lib (hid)
namespace wMostGeneral
open Go.RowKit base ints sig cursor marks app sym appAt segs segsHelp segsMark kinds kindsSS inside matchMath matchSpec matchList matchMost matchTot matchImpl matchImplB matchImplC
set_option maxRecDepth 100000
set_option maxHeartbeats 8000000 in
theorem law (a0 : Option Addr) (n0 c0 : Nat) (xs0 : List Int) (a1 : Option Addr) (n1 c1 : Nat) (xs1 : List (List Int)) (w : World) (s0 : Seg w w.heap.size a0 n0 xs0) (hN0 : n0 ≤ 9223372036854775807) (s1 : Segs w w.heap.size a1 n1 xs1) (hN1 : n1 ≤ 9223372036854775807) :
  Calls Try.prog 3 #[.agg #[.slice a0 n0 c0], .slice a1 n1 c1] w (Fine w) := by
 obtain ⟨W, hW⟩ : ∃ W, W = w.alloc (.cells #[.slice a0 n0 c0] 24) := ⟨_, rfl⟩
 have rA0 : Row W (w.heap.size) 24 #[.slice a0 n0 c0] := by rw [hW]; have := Row.new (w) 24 #[.slice a0 n0 c0]; simpa using this
 have bW : Below w.heap.size w W := by rw [hW]; exact (Below.refl w.heap.size w).alloc (by simp) (.cells #[.slice a0 n0 c0] 24)
 have zA0 := rA0.lt
 replace s0 := s0.next bW
 have Hl0 := hid s0.1
 replace s1 := s1.next bW
 have Hl1 := hid s1.1
 have HW := hid hW
 clear hW
 obtain ⟨t1, ht1⟩ : ∃ z, tot xs1 = z := ⟨_, rfl⟩
 have HT1 := hid ht1
 clear ht1
 go_enter Try.func3, Try.ntmps3
 go_wp2_with fail
 rw [← HW.out]
 clear HW
 have bel := Below.refl W.heap.size W
 have cA0 : W.cell? ⟨w.heap.size, 0, none⟩ = some (.slice a0 n0 c0) := (rA0.next bel).cell 0
 refine (szSig _ _ _ (1048576) _ hN0 (by omega) (by omega)).mono ?_
 rintro e w1 ⟨he, bb⟩
 replace bel := next_trans bel bb
 have zw1 := bb.size
 clear bb
 by_cases q0 : n0 ≤ 1048576
 case neg =>
  rw [if_pos (by omega)] at he
  subst he
  have F := hid (bW.trans (bel.mono bW.size))
  clear bel bW cA0
  go_wp2
  go_ret
  exact ⟨rfl, F.out⟩
 rw [if_neg (by omega)] at he
 subst he
 have h0 : n0 ≤ 1048576 := by omega
 clear cA0
 have cA0 : w1.cell? ⟨w.heap.size, 0, none⟩ = some (.slice a0 n0 c0) := (rA0.next bel).cell 0
 go_wp2_with fail
 refine (listsSz _ _ _ xs1 (1048576 - (n0 : Int)) _ (s1.next bel) hN1 (by omega) (by omega)).mono ?_
 rintro e w2 ⟨he, bb⟩
 rw [HT1.out] at he
 replace bel := next_trans bel bb
 have zw2 := bb.size
 clear bb
 by_cases q1 : n0 + t1 ≤ 1048576
 case neg =>
  rw [if_pos (by omega)] at he
  subst he
  have F := hid (bW.trans (bel.mono bW.size))
  clear bel bW cA0
  go_wp2
  go_ret
  exact ⟨rfl, F.out⟩
 rw [if_neg (by omega)] at he
 subst he
 have h1 : tot xs1 ≤ 1048576 := by rw [HT1.out]; omega
 replace h1 := hid h1
 have hn1 : n1 ≤ 1048576 := tot_len Hl1.out h1.out
 have hm1 : sumL xs1 n1 ≤ 1048576 := by have q := h1.out; unfold tot at q; rw [Hl1.out] at q; omega
 obtain ⟨z1, hz1⟩ : ∃ z, sumL xs1 n1 = z := ⟨_, rfl⟩
 rw [hz1] at hm1
 have HZ1 := hid hz1
 clear hz1
 clear cA0
 have cA0 : w2.cell? ⟨w.heap.size, 0, none⟩ = some (.slice a0 n0 c0) := (rA0.next bel).cell 0
 have hlen : (mgI xs0 xs1).length ≤ 1048576 := by unfold mgI; split; exact Nat.le_trans (mg_len _) (by rw [Hl1.out]; exact hn1); simp
 obtain ⟨ys, hys⟩ : ∃ ys, mgI xs0 xs1 = ys := ⟨_, rfl⟩
 rw [hys] at hlen
 have HY := hid hys
 clear hys
 replace hlen := hid hlen
 go_wp2_with fail
 refine (sigTo _ _ _ xs0 _ (s0.next bel) h0).mono ?_
 rintro e w3 ⟨gp0, rfl, op0, yp0, bb⟩
 replace bel := next_trans bel bb
 have zw3 := bb.size
 clear bb
 clear cA0
 have cA0 : w3.cell? ⟨w.heap.size, 0, none⟩ = some (.slice a0 n0 c0) := (rA0.next bel).cell 0
 go_wp2_with fail
 refine (listsTo _ _ _ xs1 _ (s1.next bel) h1.out).mono ?_
 rintro e w4 ⟨gp1, rfl, op1, yp1, bb⟩
 replace op0 := op0.next bb
 replace bel := next_trans bel bb
 have zw4 := bb.size
 clear bb
 clear cA0
 have cA0 : w4.cell? ⟨w.heap.size, 0, none⟩ = some (.slice a0 n0 c0) := (rA0.next bel).cell 0
 go_wp2_with fail
 refine (specMostGeneralX _ _ _ _ _ _ xs0 xs1 _ op0.rd op1.rd h0 h1.out (Nat.le_refl _) (by omega)).mono ?_
 rintro e w5 ⟨A0, m0, d0, he, o0, bb⟩
 subst he
 replace op0 := op0.next bb
 replace op1 := op1.next bb
 replace bel := next_trans bel bb
 have zw5 := bb.size
 clear bb
 rw [HY.out] at o0
 have sw := Own.seg o0
 clear o0
 clear op0 op1
 clear cA0
 have cA0 : w5.cell? ⟨w.heap.size, 0, none⟩ = some (.slice a0 n0 c0) := (rA0.next bel).cell 0
 obtain ⟨Aw, mw, dw, eA, em, ed⟩ : ∃ A m d, A = A0 ∧ m = m0 ∧ d = d0 := ⟨_, _, _, rfl, rfl, rfl⟩
 subst eA em ed
 have belw := Below.refl w5.heap.size w5
 clear cA0
 have cA0 : w5.cell? ⟨w.heap.size, 0, none⟩ = some (.slice a0 n0 c0) := (rA0.next bel).cell 0
 go_wp2_with fail
 refine (sigTo _ _ _ xs0 _ (s0.next bel) h0).mono ?_
 rintro e w6 ⟨gx0, rfl, ox0, yx0, bb⟩
 replace bel := next_trans bel bb
 replace belw := next_trans belw bb
 have zw6 := bb.size
 clear bb
 clear cA0
 have cA0 : w6.cell? ⟨w.heap.size, 0, none⟩ = some (.slice a0 n0 c0) := (rA0.next bel).cell 0
 have dA0 : (w6.alloc (.cells #[.slice (some ⟨gx0, 0, none⟩) n0 n0] 29)).cell? ⟨w.heap.size, 0, none⟩ = some (.slice a0 n0 c0) := ((rA0.next bel).alloc _).cell 0
 go_wp2_with fail
 obtain ⟨w7, hw⟩ : ∃ W, W = w6.alloc (.cells #[.slice (some ⟨gx0, 0, none⟩) n0 n0] 29) := ⟨_, rfl⟩
 rw [← hw]
 have rx0 : Row w7 w6.heap.size 29 #[.slice (some ⟨gx0, 0, none⟩) n0 n0] := by rw [hw]; exact Row.new _ _ _
 have bb : Below w6.heap.size w6 w7 := by rw [hw]; exact (Below.refl _ _).alloc (Nat.le_refl _) _
 have yrx0 : w6.heap.size < w7.heap.size := by rw [hw]; simp
 clear hw
 replace ox0 := ox0.next bb
 replace bel := next_trans bel bb
 replace belw := next_trans belw bb
 have zw7 := bb.size
 clear bb
 clear dA0
 clear cA0
 have cA0 : w7.cell? ⟨w.heap.size, 0, none⟩ = some (.slice a0 n0 c0) := (rA0.next bel).cell 0
 have cx0 : w7.cell? ⟨w6.heap.size, 0, none⟩ = some (.slice (some ⟨gx0, 0, none⟩) n0 n0) := (rx0).cell 0
 refine (listsTo _ _ _ xs1 _ (s1.next bel) h1.out).mono ?_
 rintro e w8 ⟨gx1, rfl, ox1, yx1, bb⟩
 replace ox0 := ox0.next bb
 replace rx0 := rx0.next bb
 replace bel := next_trans bel bb
 replace belw := next_trans belw bb
 have zw8 := bb.size
 clear bb
 clear cA0 cx0
 have cA0 : w8.cell? ⟨w.heap.size, 0, none⟩ = some (.slice a0 n0 c0) := (rA0.next bel).cell 0
 have cx0 : w8.cell? ⟨w6.heap.size, 0, none⟩ = some (.slice (some ⟨gx0, 0, none⟩) n0 n0) := (rx0).cell 0
 go_wp2_with fail
 refine (implMostGeneral _ _ _ _ _ _ xs0 xs1 _ ox0.rd ox1.rd h0 h1.out (Nat.le_refl _) (by omega)).mono ?_
 rintro e w9 ⟨A0, m0, d0, he, o0, bb⟩
 subst he
 replace ox0 := ox0.next bb
 replace rx0 := rx0.next bb
 replace ox1 := ox1.next bb
 replace bel := next_trans bel bb
 replace belw := next_trans belw bb
 have zw9 := bb.size
 clear bb
 rw [HY.out] at o0
 have og := Ownd.of_own o0
 clear o0
 obtain ⟨Ag, mg, dg, eA, em, ed⟩ : ∃ A m d, A = A0 ∧ m = m0 ∧ d = d0 := ⟨_, _, _, rfl, rfl, rfl⟩
 subst eA em ed
 clear cA0 cx0
 have cA0 : w9.cell? ⟨w.heap.size, 0, none⟩ = some (.slice a0 n0 c0) := (rA0.next bel).cell 0
 have cx0 : w9.cell? ⟨w6.heap.size, 0, none⟩ = some (.slice (some ⟨gx0, 0, none⟩) n0 n0) := (rx0).cell 0
 have hlenn : mg ≤ 1048576 := by rw [← og.rd.1]; exact hlen.out
 go_wp2_with fail
 refine (intsEq _ _ _ _ _ _ ys _ og.rd (sw.next belw) hlenn).mono ?_
 rintro e w10 ⟨rfl, bb⟩
 replace ox0 := ox0.next bb
 replace rx0 := rx0.next bb
 replace ox1 := ox1.next bb
 replace og := og.next bb
 replace bel := next_trans bel bb
 replace belw := next_trans belw bb
 have zw10 := bb.size
 clear bb
 clear cA0 cx0
 have cA0 : w10.cell? ⟨w.heap.size, 0, none⟩ = some (.slice a0 n0 c0) := (rA0.next bel).cell 0
 have cx0 : w10.cell? ⟨w6.heap.size, 0, none⟩ = some (.slice (some ⟨gx0, 0, none⟩) n0 n0) := (rx0).cell 0
 go_wp2_with fail
 replace ox0 := ox0.drew
 replace rx0 := rx0.drew
 replace ox1 := ox1.drew
 replace og := og.drew
 replace bel := bel.drew
 replace belw := belw.drew
 have zdw10 := (drew_below w10).size
 go_region_held3 (fun w' => w'.cell? ⟨w6.heap.size, 0, none⟩ = some (.slice (some ⟨gx0, 0, none⟩) n0 n0) ∧ w'.cell? ⟨w.heap.size, 0, none⟩ = some (.slice a0 n0 c0))
  (go_keep)
  (first
   | (go_at_call 12; refine (sigTo _ _ _ xs0 _ (s0.next bel) h0).mono ?_; rintro e w11 ⟨gt0, rfl, ot, yt0, bb⟩; replace ox0 := ox0.next bb; replace rx0 := rx0.next bb; replace ox1 := ox1.next bb; replace og := og.next bb; replace bel := next_trans bel bb; replace belw := next_trans belw bb; have k0w11 : w11.cell? ⟨w.heap.size, 0, none⟩ = some (.slice a0 n0 c0) := (rA0.next bel).cell 0; have l0w11 : w11.cell? ⟨w6.heap.size, 0, none⟩ = some (.slice (some ⟨gx0, 0, none⟩) n0 n0) := rx0.cell 0; have zqw11 := bb.size; clear bb)
   | (go_at_call 16; refine (sigEq _ _ _ _ _ _ xs0 _ ox0.rd ot.rd h0).mono ?_; rintro e w12 ⟨rfl, bb⟩; replace ox0 := ox0.next bb; replace rx0 := rx0.next bb; replace ox1 := ox1.next bb; replace og := og.next bb; replace bel := next_trans bel bb; replace belw := next_trans belw bb; have k0w12 : w12.cell? ⟨w.heap.size, 0, none⟩ = some (.slice a0 n0 c0) := (rA0.next bel).cell 0; have l0w12 : w12.cell? ⟨w6.heap.size, 0, none⟩ = some (.slice (some ⟨gx0, 0, none⟩) n0 n0) := rx0.cell 0; have zqw12 := bb.size; clear bb ot))
 clear k0w11 l0w11 k0w12 l0w12
 clear cA0 cx0
 have cA0 : w12.cell? ⟨w.heap.size, 0, none⟩ = some (.slice a0 n0 c0) := (rA0.next bel).cell 0
 have cx0 : w12.cell? ⟨w6.heap.size, 0, none⟩ = some (.slice (some ⟨gx0, 0, none⟩) n0 n0) := (rx0).cell 0
 go_wp2_with fail
 refine (listsTo _ _ _ xs1 _ (s1.next bel) h1.out).mono ?_
 rintro e w13 ⟨gt1, rfl, ot1, yt1, bb⟩
 replace ox0 := ox0.next bb
 replace rx0 := rx0.next bb
 replace ox1 := ox1.next bb
 replace og := og.next bb
 replace bel := next_trans bel bb
 replace belw := next_trans belw bb
 have zw13 := bb.size
 clear bb
 clear cA0 cx0
 have cA0 : w13.cell? ⟨w.heap.size, 0, none⟩ = some (.slice a0 n0 c0) := (rA0.next bel).cell 0
 have cx0 : w13.cell? ⟨w6.heap.size, 0, none⟩ = some (.slice (some ⟨gx0, 0, none⟩) n0 n0) := (rx0).cell 0
 go_wp2_with fail
 refine (listsEq _ _ _ _ _ _ xs1 _ ox1.rd ot1.rd h1.out).mono ?_
 rintro e w14 ⟨rfl, bb⟩
 replace ox0 := ox0.next bb
 replace rx0 := rx0.next bb
 replace ox1 := ox1.next bb
 replace og := og.next bb
 replace ot1 := ot1.next bb
 replace bel := next_trans bel bb
 replace belw := next_trans belw bb
 have zw14 := bb.size
 clear bb
 clear ot1
 clear cA0 cx0
 have cA0 : w14.cell? ⟨w.heap.size, 0, none⟩ = some (.slice a0 n0 c0) := (rA0.next bel).cell 0
 have cx0 : w14.cell? ⟨w6.heap.size, 0, none⟩ = some (.slice (some ⟨gx0, 0, none⟩) n0 n0) := (rx0).cell 0
 go_wp2_with fail
 refine (sigMark (w5.heap.size) (w6.heap.size) _ _ _ xs0 (1) _ ox0 h0 (by omega) (by omega)).mono ?_
 rintro e w15 ⟨he, -, bt⟩
 subst he
 clear ox0
 replace rx0 := Row.btw rx0 bt (by omega)
 replace ox1 := ox1.btw bt (by omega)
 replace og := og.btw bt (by omega)
 replace bel := Below.btw bel bt (by omega) bel.size
 replace belw := Below.btw belw bt (by omega) belw.size
 have zw15 := bt.size
 clear bt
 clear cA0 cx0
 have cA0 : w15.cell? ⟨w.heap.size, 0, none⟩ = some (.slice a0 n0 c0) := (rA0.next bel).cell 0
 have cx0 : w15.cell? ⟨w6.heap.size, 0, none⟩ = some (.slice (some ⟨gx0, 0, none⟩) n0 n0) := (rx0).cell 0
 go_wp2_with fail
 refine (listsMark (w7.heap.size) (w8.heap.size) _ _ _ xs1 (1 + (n0 : Int)) _ ox1 (by omega) h1.out (by omega) (by omega)).mono ?_
 rintro e w16 ⟨he, -, bt⟩
 rw [HZ1.out] at he
 subst he
 clear ox1
 replace rx0 := Row.btw rx0 bt (by omega)
 replace og := og.btw bt (by omega)
 replace bel := Below.btw bel bt (by omega) bel.size
 replace belw := Below.btw belw bt (by omega) belw.size
 have zw16 := bt.size
 clear bt
 clear cA0 cx0
 have cA0 : w16.cell? ⟨w.heap.size, 0, none⟩ = some (.slice a0 n0 c0) := (rA0.next bel).cell 0
 have cx0 : w16.cell? ⟨w6.heap.size, 0, none⟩ = some (.slice (some ⟨gx0, 0, none⟩) n0 n0) := (rx0).cell 0
 clear rx0
 clear cA0 cx0
 have cA0 : w16.cell? ⟨w.heap.size, 0, none⟩ = some (.slice a0 n0 c0) := (rA0.next bel).cell 0
 go_wp2_with fail
 refine (intsEq _ _ _ _ _ _ ys _ og.rd (sw.next belw) hlenn).mono ?_
 rintro e w17 ⟨rfl, bb⟩
 replace og := og.next bb
 replace bel := next_trans bel bb
 replace belw := next_trans belw bb
 have zw17 := bb.size
 clear bb
 clear cA0
 have cA0 : w17.cell? ⟨w.heap.size, 0, none⟩ = some (.slice a0 n0 c0) := (rA0.next bel).cell 0
 go_wp2_with fail
 refine (intsMark (w8.heap.size) (w9.heap.size) _ _ _ ys 1 _ og hlenn (by omega) (by omega)).mono ?_
 rintro e w18 ⟨he, om, bt⟩
 subst he
 clear og
 replace bel := Below.btw bel bt (by omega) bel.size
 replace belw := Below.btw belw bt (by omega) belw.size
 have zw18 := bt.size
 clear bt
 clear cA0
 have cA0 : w18.cell? ⟨w.heap.size, 0, none⟩ = some (.slice a0 n0 c0) := (rA0.next bel).cell 0
 go_wp2_with fail
 refine (intsHeld _ _ _ 1 _ om.rd hlenn (by omega) (by omega)).mono ?_
 rintro e w19 ⟨rfl, bb⟩
 replace om := om.next bb
 replace bel := next_trans bel bb
 replace belw := next_trans belw bb
 have zw19 := bb.size
 clear bb
 clear cA0
 have cA0 : w19.cell? ⟨w.heap.size, 0, none⟩ = some (.slice a0 n0 c0) := (rA0.next bel).cell 0
 go_wp2_with fail
 refine (sigTo _ _ _ xs0 _ (s0.next bel) h0).mono ?_
 rintro e w20 ⟨gp0, rfl, op0, yp0, bb⟩
 replace om := om.next bb
 replace bel := next_trans bel bb
 replace belw := next_trans belw bb
 have zw20 := bb.size
 clear bb
 clear cA0
 have cA0 : w20.cell? ⟨w.heap.size, 0, none⟩ = some (.slice a0 n0 c0) := (rA0.next bel).cell 0
 go_wp2_with fail
 refine (listsTo _ _ _ xs1 _ (s1.next bel) h1.out).mono ?_
 rintro e w21 ⟨gp1, rfl, op1, yp1, bb⟩
 replace om := om.next bb
 replace op0 := op0.next bb
 replace bel := next_trans bel bb
 replace belw := next_trans belw bb
 have zw21 := bb.size
 clear bb
 clear cA0
 have cA0 : w21.cell? ⟨w.heap.size, 0, none⟩ = some (.slice a0 n0 c0) := (rA0.next bel).cell 0
 go_wp2_with fail
 refine (implMostGeneral _ _ _ _ _ _ xs0 xs1 _ op0.rd op1.rd h0 h1.out (Nat.le_refl _) (by omega)).mono ?_
 rintro e w22 ⟨A0, m0, d0, he, o0, bb⟩
 subst he
 replace om := om.next bb
 replace op0 := op0.next bb
 replace op1 := op1.next bb
 replace bel := next_trans bel bb
 replace belw := next_trans belw bb
 have zw22 := bb.size
 clear bb
 rw [HY.out] at o0
 have sh := Own.seg o0
 clear o0
 clear op0 op1
 clear cA0
 have cA0 : w22.cell? ⟨w.heap.size, 0, none⟩ = some (.slice a0 n0 c0) := (rA0.next bel).cell 0
 obtain ⟨Ah, mh, dh, eA, em, ed⟩ : ∃ A m d, A = A0 ∧ m = m0 ∧ d = d0 := ⟨_, _, _, rfl, rfl, rfl⟩
 subst eA em ed
 have belh := Below.refl w22.heap.size w22
 clear cA0
 have cA0 : w22.cell? ⟨w.heap.size, 0, none⟩ = some (.slice a0 n0 c0) := (rA0.next bel).cell 0
 go_wp2_with fail
 refine (intsEq _ _ _ _ _ _ ys _ (sh.next belh) (sw.next belw) (by rw [← sh.1]; exact hlen.out)).mono ?_
 rintro e w23 ⟨rfl, bb⟩
 replace om := om.next bb
 replace bel := next_trans bel bb
 replace belw := next_trans belw bb
 replace belh := next_trans belh bb
 have zw23 := bb.size
 clear bb
 clear cA0
 have cA0 : w23.cell? ⟨w.heap.size, 0, none⟩ = some (.slice a0 n0 c0) := (rA0.next bel).cell 0
 go_wp2_with fail
 refine (intsHeld _ _ _ 1 _ om.rd hlenn (by omega) (by omega)).mono ?_
 rintro e w24 ⟨rfl, bb⟩
 replace om := om.next bb
 replace bel := next_trans bel bb
 replace belw := next_trans belw bb
 replace belh := next_trans belh bb
 have zw24 := bb.size
 clear bb
 clear cA0
 have cA0 : w24.cell? ⟨w.heap.size, 0, none⟩ = some (.slice a0 n0 c0) := (rA0.next bel).cell 0
 have F := hid (bW.trans (bel.mono bW.size))
 clear bel belw belh om bW cA0
 go_wp2
 go_ret
 exact ⟨rfl, F.out⟩
end wMostGeneral
end
end Go.Proofs.Ytobedfmagjgdcaa
